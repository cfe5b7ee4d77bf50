/-
  Whether two lists of cells, and two grids, are the same: slices.Equal at cells, impl.SameGrids; spec.l3SameCells, l3Same, SameGrids.
-/
import Derived.Test.YtceoehiaeanfkaaRows
import Derived.Test.YtceoehiaeanfkaaPairMem
import Derived.WalkKit
import Derived.ProofKit
import Derived.OpenShut
import Derived.Below
import Derived.OwnWalk
import Derived.WalkSpells
import Derived.Deep.QuietTactic
import Derived.BigQuiet
import Derived.Laws.StructEq
import Derived.Deep.RegionHeld
import Derived.Deep.RegionHeld3
namespace Go.Proofs.Ytceoehiaeanfkaa
set_option maxRecDepth 20000
open Go.ChangeShapes Go.WideShapes Go.ChangeAt Go.RowKit
set_option linter.unusedVariables false
set_option linter.unusedSimpArgs false
set_option maxRecDepth 20000

def sameL (cs ds : List (Int × Int)) (k : Nat) : Bool := decide (cs.drop k = ds.drop k)
theorem sameL_end {cs ds : List (Int × Int)} {k : Nat} (hl : cs.length = ds.length) (h : ¬ k < cs.length) : sameL cs ds k = true := by
  unfold sameL
  rw [List.drop_eq_nil_of_le (by omega), List.drop_eq_nil_of_le (by omega)]
  rfl
theorem sameL_step {cs ds : List (Int × Int)} {k : Nat} (hl : cs.length = ds.length) (h : k < cs.length) : sameL cs ds k = (decide (cs.getD k (0, 0) = ds.getD k (0, 0)) && sameL cs ds (k + 1)) := by
  have h2 : k < ds.length := by omega
  unfold sameL
  have e1 := List.drop_eq_getElem_cons h
  have e2 := List.drop_eq_getElem_cons h2
  have g1 : cs.getD k (0, 0) = cs[k] := by simp [List.getD_eq_getElem?_getD, h]
  have g2 : ds.getD k (0, 0) = ds[k] := by simp [List.getD_eq_getElem?_getD, h2]
  rw [e1, e2, g1, g2, ← Bool.decide_and]
  exact decide_eq_decide.2 ⟨fun h => by injection h with a b; exact ⟨a, b⟩, fun h => by rw [h.1, h.2]⟩
theorem sameL_len {cs ds : List (Int × Int)} (hl : ¬ cs.length = ds.length) : sameL cs ds 0 = false := by
  unfold sameL
  rw [decide_eq_false_iff_not]
  intro h
  simp at h
  exact hl (by rw [h])

theorem cell_fields : (Try.prog.fieldsOf 94).toList.map (fun f => (f.type, f.offset, decide (f.name = "_"))) = [(2, 0, false), (2, 1, false)] := by kernel_rfl
theorem neq_cell (p1 p2 q1 q2 : Int) (w : World) : (binOp .neq 94 (.agg #[.int .i64 p1, .int .i64 p2]) (.agg #[.int .i64 q1, .int .i64 q2])).run Try.prog w = .ok (.bool (!(p1 == q1 && p2 == q2))) w := by
  rw [run_neq_struct]
  rw [show (10000 : Nat) = 9999 + 1 from rfl, run_equalIn_struct w 9999 94 _ _ (by kernel_rfl) (by kernel_rfl)]
  generalize hf : (Try.prog.fieldsOf 94).toList = fs
  have h := cell_fields
  rw [hf] at h
  match fs, h with
  | [f0, f1], h =>
    simp at h
    obtain ⟨⟨t0, o0, n0⟩, t1, o1, n1⟩ := h
    have hu := Try.underlying2
    cases h1 : p1 == q1 <;> cases h2 : p2 == q2 <;> simp [Op.eqFields, t0, o0, n0, t1, o1, n1, go_sem, run_equalIn_int (P := Try.prog) w _ 2 .i64 .i64 _ _ hu, h1, h2]

theorem cell_guard : Try.prog.eqGuardType Try.prog.depth 94 = false := by kernel_rfl
theorem guard_cell (op : BinOp) (x y : Operand) (xs ys : Array Value) (w : World) : (eqGuard op 94 x y (.agg xs) (.agg ys)).run Try.prog w = .ok () w := run_eqGuard_agg w op 94 x y xs ys cell_guard

set_option maxHeartbeats 1000000 in
theorem equalCells_calls (cs ds : List (Int × Int)) (v1 v2 : Value) (w : World) (hn : cs.length ≤ 1048576) (hn2 : ds.length ≤ 1048576) (h1 : PRead w v1 cs) (h2 : PRead w v2 ds) :
    Calls Try.prog 92 #[v1, v2] w fun e w' => e = .returned (.bool (sameL cs ds 0)) ∧ Below w.heap.size w w' := by
  obtain ⟨a1, c1, rfl, h1⟩ := h1
  obtain ⟨a2, c2, rfl, h2⟩ := h2
  have H1 := hide h1
  have H2 := hide h2
  clear h1 h2
  by_cases hl : cs.length = ds.length
  · generalize hres : sameL cs ds 0 = res
    have HR := hide hres
    have HL := hide hl
    have hne : ((cs.length : Int) != (ds.length : Int)) = false := by rw [hl]; simp
    clear hres hl
    go_enter Try.func92, Try.ntmps92
    go_wp2
    go_loopw [13] (fun i wr => ∃ k : Nat, k ≤ cs.length ∧ i = .int .i64 k ∧ Hid (sameL cs ds k = res) ∧ Below w.heap.size w wr) (fun i _ => cs.length - (intOf i).toNat)
    case atStart => exact ⟨0, Nat.zero_le _, rfl, HR, Below.refl _ _⟩
    case round =>
      obtain ⟨k, hkk, rfl, hr, hb⟩ := hrel
      by_cases hlt : k < cs.length
      · have hlt2 : k < ds.length := by have := HL.out; omega
        rcases H1.out with h1 | ⟨b1, o1, rfl, h1⟩
        · rw [h1] at hlt; simp at hlt
        rcases H2.out with h2 | ⟨b2, o2, rfl, h2⟩
        · rw [h2] at hlt2; simp at hlt2
        obtain ⟨g1, g2⟩ := h1 k hlt
        obtain ⟨g3, g4⟩ := h2 k hlt2
        replace g1 := cellb hb g1
        replace g2 := cellb hb g2
        replace g3 := cellb hb g3
        replace g4 := cellb hb g4
        have hltI : (k : Int) < (cs.length : Int) := by omega
        have hltJ : (k : Int) < (ds.length : Int) := by omega
        have HS := hide (sameL_step HL.out hlt)
        clear h1 h2 H1 H2
        have HE : Hid (decide (cs.getD k (0, 0) = ds.getD k (0, 0)) = (decide ((cs.getD k (0, 0)).1 = (ds.getD k (0, 0)).1) && decide ((cs.getD k (0, 0)).2 = (ds.getD k (0, 0)).2))) := by
          show _ = _
          rw [Bool.eq_iff_iff]; simp [Prod.ext_iff]
        generalize (cs.getD k (0, 0)).1 = p1 at *
        generalize (cs.getD k (0, 0)).2 = p2 at *
        generalize (ds.getD k (0, 0)).1 = q1 at *
        generalize (ds.getD k (0, 0)).2 = q2 at *
        have hnc := neq_cell
        have hgc := guard_cell
        cases hd : (p1 == q1 && p2 == q2) with
        | false =>
          have e1 : res = false := by
            rw [← hr.out, HS.out, HE.out]
            rw [show (decide (p1 = q1) && decide (p2 = q2)) = (p1 == q1 && p2 == q2) from rfl, hd]; rfl
          subst e1
          go_wp2_with fail
          go_quiet (fail)
          go_wp2
          go_ret
          exact ⟨rfl, below_drewN hb _⟩
        | true =>
          have e1 : sameL cs ds (k + 1) = res := by
            rw [← hr.out, HS.out, HE.out]
            rw [show (decide (p1 = q1) && decide (p2 = q2)) = (p1 == q1 && p2 == q2) from rfl, hd]; rfl
          have E1 := hide e1
          clear e1
          go_wp2_with fail
          go_quiet (fail)
          go_wp2
          go_roundw
          case rel => exact ⟨k + 1, by omega, by go_num, E1, below_drewN hb _⟩
          case measure => simp [intOf]; omega
      · have e1 : res = true := by rw [← hr.out]; exact sameL_end HL.out hlt
        subst e1
        have hge : ¬ ((k : Int) < (cs.length : Int)) := by omega
        go_wp2
        go_ret
        exact ⟨rfl, hb⟩
  · rw [sameL_len hl]
    have hne : ((cs.length : Int) != (ds.length : Int)) = true := by simp; omega
    go_enter Try.func92, Try.ntmps92
    go_wp2
    go_ret
    exact ⟨rfl, Below.refl _ _⟩

set_option maxHeartbeats 1000000 in
theorem l3SameCells_calls (cs ds : List (Int × Int)) (v1 v2 : Value) (w : World) (hn : cs.length ≤ 1048576) (hn2 : ds.length ≤ 1048576) (h1 : PRead w v1 cs) (h2 : PRead w v2 ds) :
    Calls Try.prog 88 #[v1, v2] w fun e w' => e = .returned (.bool (sameL cs ds 0)) ∧ Below w.heap.size w w' := by
  obtain ⟨a1, c1, rfl, h1⟩ := h1
  obtain ⟨a2, c2, rfl, h2⟩ := h2
  have H1 := hide h1
  have H2 := hide h2
  clear h1 h2
  by_cases hl : cs.length = ds.length
  · generalize hres : sameL cs ds 0 = res
    have HR := hide hres
    have HL := hide hl
    have hne : ((cs.length : Int) != (ds.length : Int)) = false := by rw [hl]; simp
    clear hres hl
    go_enter Try.func88, Try.ntmps88
    go_wp2
    go_loopw [5] (fun i wr => ∃ k : Nat, k ≤ cs.length ∧ i = .int .i64 k ∧ Hid (sameL cs ds k = res) ∧ Below w.heap.size w wr) (fun i _ => cs.length - (intOf i).toNat)
    case atStart => exact ⟨0, Nat.zero_le _, rfl, HR, Below.refl _ _⟩
    case round =>
      obtain ⟨k, hkk, rfl, hr, hb⟩ := hrel
      by_cases hlt : k < cs.length
      · have hlt2 : k < ds.length := by have := HL.out; omega
        rcases H1.out with h1 | ⟨b1, o1, rfl, h1⟩
        · rw [h1] at hlt; simp at hlt
        rcases H2.out with h2 | ⟨b2, o2, rfl, h2⟩
        · rw [h2] at hlt2; simp at hlt2
        obtain ⟨g1, g2⟩ := h1 k hlt
        obtain ⟨g3, g4⟩ := h2 k hlt2
        replace g1 := cellb hb g1
        replace g2 := cellb hb g2
        replace g3 := cellb hb g3
        replace g4 := cellb hb g4
        have hltI : (k : Int) < (cs.length : Int) := by omega
        have hltJ : (k : Int) < (ds.length : Int) := by omega
        have HS := hide (sameL_step HL.out hlt)
        clear h1 h2 H1 H2
        have HE : Hid (decide (cs.getD k (0, 0) = ds.getD k (0, 0)) = (decide ((cs.getD k (0, 0)).1 = (ds.getD k (0, 0)).1) && decide ((cs.getD k (0, 0)).2 = (ds.getD k (0, 0)).2))) := by
          show _ = _
          rw [Bool.eq_iff_iff]; simp [Prod.ext_iff]
        generalize (cs.getD k (0, 0)).1 = p1 at *
        generalize (cs.getD k (0, 0)).2 = p2 at *
        generalize (ds.getD k (0, 0)).1 = q1 at *
        generalize (ds.getD k (0, 0)).2 = q2 at *
        have hnc := neq_cell
        have hgc := guard_cell
        cases hd : (p1 == q1 && p2 == q2) with
        | false =>
          have e1 : res = false := by
            rw [← hr.out, HS.out, HE.out]
            rw [show (decide (p1 = q1) && decide (p2 = q2)) = (p1 == q1 && p2 == q2) from rfl, hd]; rfl
          subst e1
          go_wp2_with fail
          go_quiet (fail)
          go_wp2
          go_ret
          exact ⟨rfl, below_drewN hb _⟩
        | true =>
          have e1 : sameL cs ds (k + 1) = res := by
            rw [← hr.out, HS.out, HE.out]
            rw [show (decide (p1 = q1) && decide (p2 = q2)) = (p1 == q1 && p2 == q2) from rfl, hd]; rfl
          have E1 := hide e1
          clear e1
          go_wp2_with fail
          go_quiet (fail)
          go_wp2
          go_roundw
          case rel => exact ⟨k + 1, by omega, by go_num, E1, below_drewN hb _⟩
          case measure => simp [intOf]; omega
      · have e1 : res = true := by rw [← hr.out]; exact sameL_end HL.out hlt
        subst e1
        have hge : ¬ ((k : Int) < (cs.length : Int)) := by omega
        go_wp2
        go_ret
        exact ⟨rfl, hb⟩
  · rw [sameL_len hl]
    have hne : ((cs.length : Int) != (ds.length : Int)) = true := by simp; omega
    go_enter Try.func88, Try.ntmps88
    go_wp2
    go_ret
    exact ⟨rfl, Below.refl _ _⟩

end Go.Proofs.Ytceoehiaeanfkaa
