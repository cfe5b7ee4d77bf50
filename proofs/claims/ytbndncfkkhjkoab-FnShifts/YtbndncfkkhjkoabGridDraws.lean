/-
  Grids that are drawn: l3DrawCell, l3Draw, l3Bent, walked.
-/
import Derived.Test.YtbndncfkkhjkoabDrawsG
import Derived.Test.YtbndncfkkhjkoabNewFns
import Derived.Test.YtbndncfkkhjkoabUntil
import Derived.Test.YtbndncfkkhjkoabKeepFns
namespace Go.Proofs.Ytbndncfkkhjkoab
set_option maxRecDepth 20000
open Go.ChangeShapes Go.WideShapes Go.ChangeAt Go.RowKit
set_option linter.unusedVariables false
set_option linter.unusedSimpArgs false
set_option maxRecDepth 20000

theorem Within.cellg {lo hi : Nat} {w w' : World} (h : Within lo hi w w') {b o : Nat} {u : Value} (hb : b < lo ∨ hi ≤ b) (hc : w.cell? ⟨b, o, none⟩ = some u) : w'.cell? ⟨b, o, none⟩ = some u := h.cell (lt_of_cell hc) hb hc
theorem Within.frozeng {lo hi : Nat} {w w' : World} (h : Within lo hi w w') {b o : Nat} (hs : b < w.heap.size) (hb : b < lo ∨ hi ≤ b) (hf : w.frozen? ⟨b, o, none⟩ = false) : w'.frozen? ⟨b, o, none⟩ = false := (World.frozen?_of_block (w := w) (a := ⟨b, o, none⟩) (h.block b hs hb)).trans hf
theorem Within.later {lo hi : Nat} {w a b : World} (h : Within lo hi w a) (hb : Below w.heap.size a b) : Within lo hi w b :=
  ⟨hb.os.trans h.os, hb.tape.trans h.tape, hb.output.trans h.output, Nat.le_trans h.size hb.size, fun k hk ho => (hb.block k hk).trans (h.block k hk ho)⟩
theorem Src.setg {w0 w : World} {B b o : Nat} {code : Value} {p : Int} (h : Src w0 w B code p) (hb : b ≠ B) (h0 : w0.heap.size ≤ b) (u : Value) : Src w0 (w.setCell ⟨b, o, none⟩ u) B code p :=
  h.keep (Below.heap_setCell _ _ _ _ (by intro e; first | exact hb e | exact hb e.symm)) (h.old.setCell h0 _)
theorem new_intsg {w : World} {k : IntKind} {C : Array Value} {t : TypeId} {xs : List Int} (hC : C.toList = xs.map (Value.int k)) : ∀ i, i < xs.length → (w.alloc (.cells C t)).cell? ⟨w.heap.size, i, none⟩ = some (.int k (xs.getD i 0)) := new_ints hC
/-- An append as a step of a region that draws its order, with where the new value lies. -/
theorem step_append_grow {P : Program} {ops : Array Oper} {o : Oper} {a : Act} {w : World} {K : Act → World → Prop} {Q : Exit → Act → World → Prop} {E : Prop}
    (hg : o.guard = none) (s x : Operand) (t : TypeId) (ho : o.op = Op.call { callee := Callee.builtin Builtin.append, args := #[s, x], argTypes := #[t, t] })
    (base : Nat) (e : TypeId) (i : TypeInfo) (z : Value) (size bytes : Nat) (ht : P.underlying t = some (.slice e)) (hi : P.info? e = some i) (hz : i.zero = some z) (hsize : i.size = size) (hby : i.bytes = bytes) (hzs : z.cells.size = size) (hsz : 0 < size)
    (v : Value) (n : Nat) (xs : List Value) (hs : a.eval s = v) (hown : w.ownsRow base e size v n xs)
    (ad : Addr) (m c : Nat) (news : List Value) (hx : a.eval x = .slice (some ad) m c) (hl : news.length = m * size) (hnews : ∀ j u, news[j]? = some u → w.cell? (ad.add j) = some u) (h1 : ∀ u ∈ news, u.oneCell' = true)
    (h63 : n + m ≤ maxLen) (hbytes : (n + m) * bytes ≤ 140737488355328) (hbase : base ≤ w.heap.size)
    (h : ∀ v' w', w'.ownsRow base e size v' (n + m) (xs ++ news) → GrowTo w w' v v' → K (a.put o.dst v') w') : if Region.wanted o (yielded ops a.tmps) = true then Oper.wp P o a w K Q else E := by
  have hw : Region.wanted o (yielded ops a.tmps) = true := by simp [Region.wanted, hg]
  rw [if_pos hw]
  obtain ⟨v', w', hr, h2, h3⟩ := run_append_grow (P := P) w base t o.type e i z size bytes ht hi hz hsize hby hzs hsz v n xs hown ad m c news hl hnews h1 h63 hbytes hbase
  unfold Oper.wp
  simp [execOp, ho, resolve, invoke, builtin, hs, hx, hr, Result.andThen]
  exact h v' w' h2 h3

/-- A grid that is drawn, in its box T: its cells in block bx, what left owned; the source at B. -/
structure GD (w0 w W : World) (B T bx n cx base : Nat) (code : Value) (p r wd : Int) (v : Value) (bs : List (Int × Int)) : Prop where
  src : Src w0 W B code p
  wi : Within B (B + 1) w W
  g0 : W.cell? ⟨T, 0, none⟩ = some (.int .i64 r)
  g1 : W.cell? ⟨T, 1, none⟩ = some (.int .i64 wd)
  g2 : W.cell? ⟨T, 2, none⟩ = some (.slice (some ⟨bx, 0, none⟩) n cx)
  g3 : W.cell? ⟨T, 3, none⟩ = some v
  fz : ∀ o, W.frozen? ⟨T, o, none⟩ = false
  row : ∃ f, Row W bx 0 n f
  own : W.ownsRow base 38 2 v bs.length (pvs bs)
  ap : ∀ k, v.ownBlock = some k → k ≠ B ∧ k ≠ T ∧ k ≠ bx
  lo : B < w.heap.size ∧ w0.heap.size ≤ w.heap.size ∧ w.heap.size ≤ T ∧ w.heap.size ≤ bx ∧ T ≠ bx ∧ w.heap.size ≤ base ∧ base ≤ W.heap.size ∧ T < W.heap.size ∧ bx < W.heap.size
theorem GD.within {w0 w W W' : World} {B T bx n cx base : Nat} {code : Value} {p q r wd : Int} {v : Value} {bs : List (Int × Int)} (h : GD w0 w W B T bx n cx base code p r wd v bs) (hs : Src w0 W' B code q) (hw : Within B (B + 1) W W') : GD w0 w W' B T bx n cx base code q r wd v bs := by
  have l := h.lo
  have sz := hw.size
  obtain ⟨f, hf⟩ := h.row
  exact ⟨hs, h.wi.trans hw, hw.cellg (by omega) h.g0, hw.cellg (by omega) h.g1, hw.cellg (by omega) h.g2, hw.cellg (by omega) h.g3, fun o => hw.frozeng (by omega) (by omega) (h.fz o), ⟨f, hf.block (hw.block bx (by omega) (by omega))⟩, own_block h.own (fun k hk => hw.block k (h.own.lt k hk).2 (by have := (h.ap k hk).1; omega)), h.ap, by omega⟩
theorem GD.below {w0 w W W' : World} {B T bx n cx base : Nat} {code : Value} {p r wd : Int} {v : Value} {bs : List (Int × Int)} (h : GD w0 w W B T bx n cx base code p r wd v bs) (hb : Below W.heap.size W W') : GD w0 w W' B T bx n cx base code p r wd v bs := h.within (h.src.below hb) (Within.of_below hb (Nat.le_refl _))
theorem GD.cell {w0 w W : World} {B T bx n cx base i : Nat} {code : Value} {p r wd : Int} {v : Value} {bs : List (Int × Int)} (h : GD w0 w W B T bx n cx base code p r wd v bs) (hi : i < n) (x y : Int) : GD w0 w ((W.setCell ⟨bx, i * 2, none⟩ (.int .i64 x)).setCell ⟨bx, i * 2 + 1, none⟩ (.int .i64 y)) B T bx n cx base code p r wd v bs := by
  have l := h.lo
  obtain ⟨f, hf⟩ := h.row
  have t : Touch bx 0 (n * 2) W ((W.setCell ⟨bx, i * 2, none⟩ (.int .i64 x)).setCell ⟨bx, i * 2 + 1, none⟩ (.int .i64 y)) := ((Touch.refl _ _ _ _).setCell (by omega) (by omega) _).setCell (by omega) (by omega) _
  have hst := hf.store hi x y
  rw [Nat.zero_add] at hst
  have sz := t.size
  exact ⟨(h.src.setg (by omega) (by omega) _).setg (by omega) (by omega) _, h.wi.later (t.below (by omega) (by omega)), t.cellAt h.g0 (by omega), t.cellAt h.g1 (by omega), t.cellAt h.g2 (by omega), t.cellAt h.g3 (by omega), fun o => t.frozenAt (by omega) (h.fz o), ⟨_, hst⟩, own_touch h.own t (fun k hk => (h.ap k hk).2.2), h.ap, by omega⟩
theorem GD.keep {w0 w W W' : World} {B T bx n cx base : Nat} {code : Value} {p r wd : Int} {v v' : Value} {bs bs' : List (Int × Int)} (h : GD w0 w W B T bx n cx base code p r wd v bs) (g : GrowTo W W' v v') (o : W'.ownsRow base 38 2 v' bs'.length (pvs bs')) : GD w0 w (W'.setCell ⟨T, 3, none⟩ v') B T bx n cx base code p r wd v' bs' := by
  have l := h.lo
  obtain ⟨f, hf⟩ := h.row
  have n1 : some T ≠ v.ownBlock := fun e => (h.ap T e.symm).2.1 rfl
  have n2 : some bx ≠ v.ownBlock := fun e => (h.ap bx e.symm).2.2 rfl
  have n3 : some B ≠ v.ownBlock := fun e => (h.ap B e.symm).1 rfl
  have a' : ∀ k, v'.ownBlock = some k → k ≠ B ∧ k ≠ T ∧ k ≠ bx := by
    intro k hk
    rcases g.spot with e | ⟨q, e, hq⟩
    · exact h.ap k (e.symm.trans hk)
    · rw [hk] at e
      injection e with e
      omega
  have hs := g.grown.size
  have hbw : Below w.heap.size W W' := g.below (by omega) (fun k hk => by have := h.own.lt k hk; omega)
  have hold : Below w0.heap.size w0 W' := h.src.old.trans (hbw.mono (by omega))
  have d3 := g.cellAt h.g3 n1
  have t : Touch T 3 4 W' (W'.setCell ⟨T, 3, none⟩ v') := (Touch.refl _ _ _ _).setCell (by omega) (by omega) _
  have sz := t.size
  exact ⟨(h.src.keep (g.block (by omega) n3) hold).setg (by omega) (by omega) _, (h.wi.later hbw).later (t.below (by omega) (by omega)), t.cellAt (g.cellAt h.g0 n1) (by omega), t.cellAt (g.cellAt h.g1 n1) (by omega), t.cellAt (g.cellAt h.g2 n1) (by omega), World.cell?_setCell_same _ _ _ d3, fun o => t.frozenAt (by omega) ((g.frozen (by omega) n1).trans (h.fz o)), ⟨f, (hf.block (g.block (by omega) n2)).touch t (by omega)⟩, own_setCell o (fun e => (a' T e.symm).2.1 rfl), a', by omega⟩
/-- What a draw of a grid answers. -/
structure GV (w0 w W : World) (B bx n cx : Nat) (code : Value) (p : Int) (v : Value) (bs : List (Int × Int)) : Prop where
  src : Src w0 W B code p
  wi : Within B (B + 1) w W
  row : ∃ f, Row W bx 0 n f
  own : W.ownsRow w.heap.size 38 2 v bs.length (pvs bs)
  ap : ∀ k, v.ownBlock = some k → k ≠ B ∧ k ≠ bx
  lo : B < w.heap.size ∧ w0.heap.size ≤ w.heap.size ∧ w.heap.size ≤ bx ∧ bx < W.heap.size ∧ 0 < n ∧ n ≤ 24 ∧ n ≤ cx ∧ bs.length ≤ 40

set_option maxHeartbeats 1000000 in
theorem l3DrawCell_calls (zs : List Int) (a : Option Addr) (cap B : Nat) (p : Int) (w0 w : World) (hv : ReadAt .u8 w0 (.slice a zs.length cap) zs) (hz : ∀ z ∈ zs, 0 ≤ z ∧ z ≤ 255) (hlen : zs.length ≤ 1048576) (hs : Src w0 w B (.slice a zs.length cap) p) (hp0 : 0 ≤ p) (hp1 : p ≤ 990000) :
    Calls Try.prog 63 #[.pointer (some ⟨B, 0, none⟩)] w fun e w' => ∃ c g, e = .returned (.agg #[.int .i64 c, .int .i64 g]) ∧ Src w0 w' B (.slice a zs.length cap) (p + 1 + 1) ∧ Within B (B + 1) w w' := by
  have HZ := hide hz
  have hB := hs.lt
  have hBo := hs.hB
  clear hz
  have hb1 : Below w.heap.size w (w.alloc (.cells #[.int .i64 0, .int .i64 0] 38)) := (by repeat' (first | with_reducible exact Below.refl _ _ | with_reducible assumption | with_reducible refine Below.drew ?_ | with_reducible refine Below.alloc ?_ ?_ _ | with_reducible refine Below.setCell ?_ ?_ _ | (simp; done) | (simp; omega) | omega))
  have hb2 : Below (w.heap.size + 1) (w.alloc (.cells #[.int .i64 0, .int .i64 0] 38)) ((w.alloc (.cells #[.int .i64 0, .int .i64 0] 38)).alloc (.cells #[.int .i64 97, .int .i64 98, .int .i64 32, .int .i64 228] 2)) := (Below.refl _ _).alloc (by simp) _
  have s2 := hs.below (hb1.trans (hb2.mono (by omega)))
  have x2 : Within B (B + 1) w _ := Within.of_below (hb1.trans (hb2.mono (by omega))) (Nat.le_refl _)
  have R0 : ((w.alloc (.cells #[.int .i64 0, .int .i64 0] 38)).alloc (.cells #[.int .i64 97, .int .i64 98, .int .i64 32, .int .i64 228] 2)).cell? ⟨w.heap.size, 0, none⟩ = some (.int .i64 0) := by simp [go_sem]
  have R1 : ((w.alloc (.cells #[.int .i64 0, .int .i64 0] 38)).alloc (.cells #[.int .i64 97, .int .i64 98, .int .i64 32, .int .i64 228] 2)).cell? ⟨w.heap.size, 1, none⟩ = some (.int .i64 0) := by simp [go_sem]
  have Z0 : ((w.alloc (.cells #[.int .i64 0, .int .i64 0] 38)).alloc (.cells #[.int .i64 97, .int .i64 98, .int .i64 32, .int .i64 228] 2)).frozen? ⟨w.heap.size, 0, none⟩ = false := by simp [go_sem]
  have Z1 : ((w.alloc (.cells #[.int .i64 0, .int .i64 0] 38)).alloc (.cells #[.int .i64 97, .int .i64 98, .int .i64 32, .int .i64 228] 2)).frozen? ⟨w.heap.size, 1, none⟩ = false := by simp [go_sem]
  have hz2 : ((w.alloc (.cells #[.int .i64 0, .int .i64 0] 38)).alloc (.cells #[.int .i64 97, .int .i64 98, .int .i64 32, .int .i64 228] 2)).heap.size = w.heap.size + 2 := by simp
  have hn : ∀ i, i < ([97, 98, 32, 228] : List Int).length → ((w.alloc (.cells #[.int .i64 0, .int .i64 0] 38)).alloc (.cells #[.int .i64 97, .int .i64 98, .int .i64 32, .int .i64 228] 2)).cell? ⟨w.heap.size + 1, i, none⟩ = some (.int .i64 (([97, 98, 32, 228] : List Int).getD i 0)) := by
    intro i hi
    have h := new_ints (w := w.alloc (.cells #[.int .i64 0, .int .i64 0] 38)) (C := #[.int .i64 97, .int .i64 98, .int .i64 32, .int .i64 228]) (t := 2) (k := .i64) (xs := [97, 98, 32, 228]) rfl i hi
    rw [show (w.alloc (.cells #[.int .i64 0, .int .i64 0] 38)).heap.size = w.heap.size + 1 by simp] at h
    exact h
  clear hb1 hb2
  go_enter Try.func63, Try.ntmps63
  go_wp2_with fail
  generalize ((w.alloc (.cells #[.int .i64 0, .int .i64 0] 38)).alloc (.cells #[.int .i64 97, .int .i64 98, .int .i64 32, .int .i64 228] 2)) = w2 at *
  refine (l1Pick_calls zs [97, 98, 32, 228] a cap B (w.heap.size + 1) 4 4 p w0 w2 hv HZ.out hlen s2 hp0 (by omega) rfl (by omega) (by omega) (by omega) hn).mono ?_
  rintro e w3 ⟨c, rfl, _, s3, x3⟩
  have hs3 : w2.heap.size ≤ w3.heap.size := x3.size
  have hb4 : Below w3.heap.size w3 (w3.alloc (.cells #[.int .i64 0, .int .i64 7, .int .i64 12, .int .i64 31] 2)) := (Below.refl _ _).alloc (Nat.le_refl _) _
  have s4 := s3.below hb4
  have x4 := (x2.trans x3).trans (Within.of_below hb4 (Nat.le_refl _))
  replace R0 := cellb hb4 (x3.cellg (by omega) R0)
  replace R1 := cellb hb4 (x3.cellg (by omega) R1)
  replace Z0 := (hb4.frozen (p := ⟨w.heap.size, 0, none⟩) (by simp; omega)).trans (x3.frozeng (by omega) (by omega) Z0)
  replace Z1 := (hb4.frozen (p := ⟨w.heap.size, 1, none⟩) (by simp; omega)).trans (x3.frozeng (by omega) (by omega) Z1)
  have hn4 := new_ints (w := w3) (C := #[.int .i64 0, .int .i64 7, .int .i64 12, .int .i64 31]) (t := 2) (k := .i64) (xs := [0, 7, 12, 31]) rfl
  have hs4 := hb4.size
  clear hb4 hn s3 x3
  go_wp2_with fail
  generalize (w3.alloc (.cells #[.int .i64 0, .int .i64 7, .int .i64 12, .int .i64 31] 2)) = w4 at *
  refine (l1Pick_calls zs [0, 7, 12, 31] a cap B w3.heap.size 4 4 (p + 1) w0 w4 hv HZ.out hlen s4 (by omega) (by omega) rfl (by omega) (by omega) (by omega) hn4).mono ?_
  rintro e w5 ⟨g, rfl, _, s5, x5⟩
  replace R0 := x5.cellg (by omega) R0
  replace R1 := x5.cellg (by omega) R1
  replace Z0 := x5.frozeng (by omega) (by omega) Z0
  replace Z1 := x5.frozeng (by omega) (by omega) Z1
  have hs5 := x5.size
  obtain ⟨t0, t1⟩ := res2 (w := w5) (r := w.heap.size) (.int .i64 c) (.int .i64 g) R0 R1
  have XX := hide (x4.trans x5)
  have SS := hide s5
  clear s5 x5 x4 s4 hn4 x2 s2
  go_wp2
  refine bodyPost_ret (v := .agg #[.int .i64 c, .int .i64 g]) (by simp only [results, Try.results63]; simp [go_sem, t0, t1]) rfl ⟨c, g, rfl, (SS.out.setg (by omega) (by omega) _).setg (by omega) (by omega) _, XX.out.later ((by repeat' (first | with_reducible exact Below.refl _ _ | with_reducible assumption | with_reducible refine Below.drew ?_ | with_reducible refine Below.alloc ?_ ?_ _ | with_reducible refine Below.setCell ?_ ?_ _ | (simp; done) | (simp; omega) | omega)))⟩
end Go.Proofs.Ytbndncfkkhjkoab
