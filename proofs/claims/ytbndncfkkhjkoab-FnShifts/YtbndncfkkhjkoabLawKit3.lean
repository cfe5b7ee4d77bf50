/-
  For the laws of chapter 3: lwCell; boxes of grids and of results; grids that are as they should be.
-/
import Derived.Test.YtbndncfkkhjkoabGridRes
import Derived.Test.YtbndncfkkhjkoabSameFns
import Derived.Test.YtbndncfkkhjkoabSameGrid
import Derived.Test.YtbndncfkkhjkoabGridMem
namespace Go.Proofs.Ytbndncfkkhjkoab
set_option maxRecDepth 20000
open Go.ChangeShapes Go.WideShapes Go.ChangeAt Go.RowKit
set_option linter.unusedVariables false
set_option linter.unusedSimpArgs false
set_option maxRecDepth 20000

structure B4 (b : Nat) (r wd : Int) (x y : Value) (W : World) : Prop where
  c0 : W.cell? ⟨b, 0, none⟩ = some (.int .i64 r)
  c1 : W.cell? ⟨b, 1, none⟩ = some (.int .i64 wd)
  c2 : W.cell? ⟨b, 2, none⟩ = some x
  c3 : W.cell? ⟨b, 3, none⟩ = some y
structure B5 (b : Nat) (c r wd : Int) (x y : Value) (W : World) : Prop where
  c0 : W.cell? ⟨b, 0, none⟩ = some (.int .i64 c)
  c1 : W.cell? ⟨b, 1, none⟩ = some (.int .i64 r)
  c2 : W.cell? ⟨b, 2, none⟩ = some (.int .i64 wd)
  c3 : W.cell? ⟨b, 3, none⟩ = some x
  c4 : W.cell? ⟨b, 4, none⟩ = some y
structure B2 (b : Nat) (c g : Int) (W : World) : Prop where
  c0 : W.cell? ⟨b, 0, none⟩ = some (.int .i64 c)
  c1 : W.cell? ⟨b, 1, none⟩ = some (.int .i64 g)
theorem B4.below {b : Nat} {r wd : Int} {x y : Value} {W W' : World} (h : B4 b r wd x y W) (hb : Below W.heap.size W W') : B4 b r wd x y W' := ⟨cellb hb h.c0, cellb hb h.c1, cellb hb h.c2, cellb hb h.c3⟩
theorem B5.below {b : Nat} {c r wd : Int} {x y : Value} {W W' : World} (h : B5 b c r wd x y W) (hb : Below W.heap.size W W') : B5 b c r wd x y W' := ⟨cellb hb h.c0, cellb hb h.c1, cellb hb h.c2, cellb hb h.c3, cellb hb h.c4⟩
theorem B2.below {b : Nat} {c g : Int} {W W' : World} (h : B2 b c g W) (hb : Below W.heap.size W W') : B2 b c g W' := ⟨cellb hb h.c0, cellb hb h.c1⟩
theorem fld_gr0 (x0 x1 x2 : Int) (a b : Option Addr) (n m k l : Nat) (w : World) : (Instr.field 30 (.agg #[.int .i64 x0, .int .i64 x1, .int .i64 x2, .slice a n m, .slice b k l]) 0).run Try.prog w = .ok (.int .i64 x0) w := by kernel_rfl
theorem fld_gr1 (x0 x1 x2 : Int) (a b : Option Addr) (n m k l : Nat) (w : World) : (Instr.field 30 (.agg #[.int .i64 x0, .int .i64 x1, .int .i64 x2, .slice a n m, .slice b k l]) 1).run Try.prog w = .ok (.agg #[.int .i64 x1, .int .i64 x2, .slice a n m, .slice b k l]) w := by kernel_rfl
theorem eql_cell (p1 p2 q1 q2 : Int) (w : World) : (binOp .eql 38 (.agg #[.int .i64 p1, .int .i64 p2]) (.agg #[.int .i64 q1, .int .i64 q2])).run Try.prog w = .ok (.bool (p1 == q1 && p2 == q2)) w := by
  rw [run_eql_struct]
  rw [show (10000 : Nat) = 9999 + 1 from rfl, run_equalIn_struct w 9999 38 _ _ (by kernel_rfl) (by kernel_rfl)]
  generalize hf : (Try.prog.fieldsOf 38).toList = fs
  have h := cell_fields
  rw [hf] at h
  match fs, h with
  | [f0, f1], h =>
    simp at h
    obtain ⟨⟨t0, o0, n0⟩, t1, o1, n1⟩ := h
    have hu := Try.underlying2
    cases h1 : p1 == q1 <;> cases h2 : p2 == q2 <;> simp [Op.eqFields, t0, o0, n0, t1, o1, n1, go_sem, run_equalIn_int (P := Try.prog) w _ 2 .i64 .i64 _ _ hu, h1, h2]

set_option maxHeartbeats 1000000 in
theorem lwCell_calls (r wd y x : Int) (cs : List (Int × Int)) (v1 v2 : Value) (Y K : Nat) (w : World) (h1 : PRead w v1 cs) (h2 : ∃ a n c, v2 = .slice a n c) (hY : y * wd = (Y : Int)) (hK : (Y : Int) + x = (K : Int)) (hKl : K < cs.length) (hY1 : Y ≤ 100000) (hl : cs.length ≤ 1048576) :
    Calls Try.prog 14 #[.agg #[.int .i64 r, .int .i64 wd, v1, v2], .int .i64 y, .int .i64 x] w fun e w' => e = .returned (.agg #[.int .i64 (cs.getD K (0, 0)).1, .int .i64 (cs.getD K (0, 0)).2]) ∧ Below w.heap.size w w' := by
  obtain ⟨a1, c1, rfl, h1⟩ := h1
  obtain ⟨a2, n2, c2, rfl⟩ := h2
  rcases h1 with h1 | ⟨b, off, rfl, h1⟩
  · rw [h1] at hKl; simp at hKl
  obtain ⟨k1, k2⟩ := h1 K hKl
  have w1 : IntKind.i64.wrap (y * wd) = (Y : Int) := by rw [hY]; exact wrap_small (by omega) (by omega)
  have w2 : IntKind.i64.wrap ((Y : Int) + x) = (K : Int) := by rw [hK]; exact wrap_small (by omega) (by omega)
  have w3 : ¬ (K : Int) < 0 := by omega
  have w4 : ¬ (cs.length : Int) ≤ (K : Int) := by omega
  have w5 : (K : Int) < (cs.length : Int) := by omega
  have hb : Below w.heap.size w ((w.alloc (.cells #[.int .i64 r, .int .i64 wd, .slice (some ⟨b, off, none⟩) cs.length c1, .slice a2 n2 c2] 26)).alloc (.cells #[.int .i64 0, .int .i64 0] 38)) := (by repeat' (first | with_reducible exact Below.refl _ _ | with_reducible assumption | with_reducible refine Below.drew ?_ | with_reducible refine Below.alloc ?_ ?_ _ | with_reducible refine Below.setCell ?_ ?_ _ | (simp; done) | (simp; omega) | omega))
  replace k1 := cellb hb k1
  replace k2 := cellb hb k2
  have R0 : ((w.alloc (.cells #[.int .i64 r, .int .i64 wd, .slice (some ⟨b, off, none⟩) cs.length c1, .slice a2 n2 c2] 26)).alloc (.cells #[.int .i64 0, .int .i64 0] 38)).cell? ⟨w.heap.size + 1, 0, none⟩ = some (.int .i64 0) := by simp [go_sem]
  have R1 : ((w.alloc (.cells #[.int .i64 r, .int .i64 wd, .slice (some ⟨b, off, none⟩) cs.length c1, .slice a2 n2 c2] 26)).alloc (.cells #[.int .i64 0, .int .i64 0] 38)).cell? ⟨w.heap.size + 1, 1, none⟩ = some (.int .i64 0) := by simp [go_sem]
  generalize (cs.getD K (0, 0)).1 = c at *
  generalize (cs.getD K (0, 0)).2 = g at *
  obtain ⟨t0, t1⟩ := res2 (r := w.heap.size + 1) (.int .i64 c) (.int .i64 g) R0 R1
  have HY := hide hY
  have HK := hide hK
  have HB := hide hb
  clear h1 hY hK hb R0 R1
  go_enter Try.func14, Try.ntmps14
  go_wp2
  exact bodyPost_ret (v := .agg #[.int .i64 c, .int .i64 g]) (by simp only [results, Try.results14]; simp [go_sem, t0, t1]) rfl ⟨rfl, (by repeat' (first | with_reducible exact Below.refl _ _ | with_reducible assumption | with_reducible refine Below.drew ?_ | with_reducible refine Below.alloc ?_ ?_ _ | with_reducible refine Below.setCell ?_ ?_ _ | (simp; done) | (simp; omega) | omega))⟩

theorem allC_get {cs : List (Int × Int)} (h : allC cs 0 = true) (i : Nat) (hi : i < cs.length) : cellB (cs.getD i (0, 0)) = true := by
  unfold allC at h
  rw [List.drop_zero, List.all_eq_true] at h
  rw [List.getD_eq_getElem?_getD, List.getElem?_eq_getElem hi]
  exact h _ (List.getElem_mem hi)
theorem allC_mk {n : Nat} {f : Nat → Int × Int} (h : ∀ i, i < n → cellB (f i) = true) : allC (mkL n f) 0 = true := by
  unfold allC
  rw [List.drop_zero, List.all_eq_true]
  intro p hp
  simp only [mkL, List.mem_map, List.mem_range] at hp
  obtain ⟨i, hi, rfl⟩ := hp
  exact h i hi
theorem cellB_blank {a : Int} (h : atB a = true) : cellB (32, a) = true := by
  unfold cellB chB
  rw [h]
  rfl
theorem gres_zero {r wd : Int} {cs bs : List (Int × Int)} {ok : Bool} {R : GRes} (h : (gres r wd cs bs ok R).code = 0) : GFine r wd cs bs ∧ ok = true ∧ gres r wd cs bs ok R = R := by
  by_cases hG : gridCode r wd cs bs = 0
  · cases ok with
    | true => exact ⟨gfine_of_code hG, rfl, gres_ok hG rfl⟩
    | false => rw [gres_bad hG rfl] at h; simp [gbad] at h
  · rw [gres_fault hG] at h; exact absurd h hG
theorem sameG_self (r wd : Int) (cs bs : List (Int × Int)) : sameG r wd cs bs r wd cs bs = true := by simp [sameG, sameL]

end Go.Proofs.Ytbndncfkkhjkoab
