/-
  What VtFault answers, of the program and of the model (l6Fault: of a terminal that is a part of a block).
-/
import Derived.Test.YtdekegjplegkeaaGreatVtMem
import Derived.Test.YtdekegjplegkeaaGreatOffScr
import Derived.Test.YtdekegjplegkeaaGreatOffPar
import Derived.Test.YtdekegjplegkeaaGreatScrFault2
import Derived.Test.YtdekegjplegkeaaGreatFaults
namespace Go.Proofs.YtdekegjplegkeaaGreat
set_option maxRecDepth 20000
open Go.ChangeShapes Go.WideShapes Go.ChangeAt Go.RowKit
set_option linter.unusedVariables false
set_option linter.unusedSimpArgs false
set_option maxRecDepth 20000

def vtCode (t : VtS) : Int := if dfault t.l t.lo t.v = 0 then (if parCode t.md t.st t.pv t.ns = 0 then scrCode t.s else parCode t.md t.st t.pv t.ns) else dfault t.l t.lo t.v
theorem vtCode_dec {t : VtS} (h : ¬ dfault t.l t.lo t.v = 0) : vtCode t = dfault t.l t.lo t.v := by unfold vtCode; rw [if_neg h]
theorem vtCode_par {t : VtS} (h : dfault t.l t.lo t.v = 0) (g : ¬ parCode t.md t.st t.pv t.ns = 0) : vtCode t = parCode t.md t.st t.pv t.ns := by unfold vtCode; rw [if_pos h, if_neg g]
theorem vtCode_scr {t : VtS} (h : dfault t.l t.lo t.v = 0) (g : parCode t.md t.st t.pv t.ns = 0) : vtCode t = scrCode t.s := by unfold vtCode; rw [if_pos h, if_pos g]
set_option maxHeartbeats 2000000 in
theorem implVtFault_calls (t : VtS) (u v1 v2 v3 v4 : Value) (w : World) (hn0 : t.ns.length ≤ 1048576) (hn1 : t.s.cs.length ≤ 1048576) (hn2 : t.s.bs.length ≤ 1048576) (hn3 : t.s.tabs.length ≤ 1048576) (hn4 : t.s.sets.length ≤ 1048576) (h : VRead w t u v1 v2 v3 v4) :
    Calls Tryz.prog 69 #[.agg (vtA t u v1 v2 v3 v4)] w fun e w' => e = .returned (.int .i64 (vtCode t)) ∧ Below w.heap.size w w' := by
  have bel0 : Below w.heap.size w (w.alloc (.cells (vtA t u v1 v2 v3 v4) 70)) := (Below.refl _ w).alloc (Nat.le_refl _) _
  have A0 := Blk.new w (vtA t u v1 v2 v3 v4) 70
  go_enter Tryz.func69, Tryz.ntmps69
  go_wp2_with (first | fail | (refine wpList_load_at rfl 67 _ rfl (w.heap.size) 0 rfl _ (decA t) A0 (vtA_dec t u v1 v2 v3 v4) _ Tryz.underlying67 rfl (by kernel_rfl) ?_; (try simp only [Act.put, List.setIfInBounds_toArray, List.set_cons_zero, List.set_cons_succ])))
  go_at_call 124
  refine (implFault_calls t.l t.lo t.v _).mono ?_
  rintro e w1 ⟨rfl, hb⟩
  replace A0 := A0.belowb hb
  have bel1 : Below w.heap.size w w1 := bel0.trans (hb.mono bel0.size)
  clear hb bel0
  by_cases hd : dfault t.l t.lo t.v = 0
  · have HD := hide hd
    rw [hd]
    clear hd
    go_wp2_with (first | fail | (refine wpList_load_at rfl 68 _ rfl (w.heap.size) 3 rfl _ (parA t u) A0 (vtA_par t u v1 v2 v3 v4) _ Tryz.underlying68 rfl (by kernel_rfl) ?_; (try simp only [Act.put, List.setIfInBounds_toArray, List.set_cons_zero, List.set_cons_succ])))
    go_at_call 125
    refine (implParserFault_calls t.md t.st t.pv t.ns u _ (by unfold maxLen; omega) (h.p.below bel1)).mono ?_
    rintro e w2 ⟨rfl, hb⟩
    replace A0 := A0.belowb hb
    have bel2 : Below w.heap.size w w2 := bel1.trans (hb.mono bel1.size)
    clear hb bel1
    by_cases hp : parCode t.md t.st t.pv t.ns = 0
    · have HP := hide hp
      rw [hp]
      clear hp
      go_wp2_with (first | fail | (refine wpList_load_at rfl 37 _ rfl (w.heap.size) 7 rfl _ (scrA t.s v1 v2 v3 v4) A0 (vtA_scr t u v1 v2 v3 v4) _ Tryz.underlying37 rfl (by kernel_rfl) ?_; (try simp only [Act.put, List.setIfInBounds_toArray, List.set_cons_zero, List.set_cons_succ])))
      go_at_call 58
      refine (implScreenFault_calls t.s _ _ _ _ _ hn1 hn2 hn3 hn4 (h.s.below bel2)).mono ?_
      rintro e w3 ⟨rfl, hb⟩
      go_wp2
      go_ret
      exact ⟨by rw [vtCode_scr HD.out HP.out]; rfl, bel2.trans (hb.mono bel2.size)⟩
    · have hne : (parCode t.md t.st t.pv t.ns != 0) = true := by simpa using hp
      have HC := hide (vtCode_par HD.out hp)
      clear hp
      generalize parCode t.md t.st t.pv t.ns = code at *
      go_wp2
      go_ret
      exact ⟨by rw [HC.out]; rfl, bel2⟩
  · have hne : (dfault t.l t.lo t.v != 0) = true := by simpa using hd
    have HC := hide (vtCode_dec hd)
    clear hd
    generalize dfault t.l t.lo t.v = code at *
    go_wp2
    go_ret
    exact ⟨by rw [HC.out]; rfl, bel1⟩
set_option maxHeartbeats 2000000 in
theorem l6Fault_o (t : VtS) (u v1 v2 v3 v4 : Value) (b ob : Nat) (w : World) (hn0 : t.ns.length ≤ 1048576) (hn1 : t.s.cs.length ≤ 1048576) (hn2 : t.s.bs.length ≤ 1048576) (hn3 : t.s.tabs.length ≤ 1048576) (hn4 : t.s.sets.length ≤ 1048576) (hB : Seg w b ob (vtA t u v1 v2 v3 v4)) (h : VRead w t u v1 v2 v3 v4) :
    Calls Tryz.prog 64 #[.pointer (some ⟨b, ob, none⟩)] w fun e w' => e = .returned (.int .i64 (vtCode t)) ∧ Below w.heap.size w w' := by
  go_enter Tryz.func64, Tryz.ntmps64
  go_wp2_with fail
  refine (l1Fault_calls t.l t.lo t.v b ob _ (hB.at0 rfl) (hB.at 1 rfl) (hB.at 2 rfl)).mono ?_
  rintro e w' ⟨rfl, hw⟩
  rw [hw]
  clear hw w'
  by_cases hd : dfault t.l t.lo t.v = 0
  · have HD := hide hd
    rw [hd]
    clear hd
    go_wp2_with fail
    refine (l4Fault_o t.md t.st t.pv t.ns u b (ob + 3) _ (by unfold maxLen; omega) h.p (hB.at 3 rfl) (hB.at 4 rfl) (hB.at 5 rfl) (hB.at 6 rfl)).mono ?_
    rintro e w' ⟨rfl, hw⟩
    rw [hw]
    clear hw w'
    by_cases hp : parCode t.md t.st t.pv t.ns = 0
    · have HP := hide hp
      rw [hp]
      clear hp
      go_wp2_with fail
      refine (l5Fault_o t.s v1 v2 v3 v4 b (ob + 7) _ hn1 hn2 hn3 hn4 (hB.part 7 rfl rfl) h.s).mono ?_
      rintro e w3 ⟨rfl, hb⟩
      go_wp2
      go_ret
      exact ⟨by rw [vtCode_scr HD.out HP.out]; rfl, hb⟩
    · have hne : (parCode t.md t.st t.pv t.ns != 0) = true := by simpa using hp
      have HC := hide (vtCode_par HD.out hp)
      clear hp
      generalize parCode t.md t.st t.pv t.ns = code at *
      go_wp2
      go_ret
      exact ⟨by rw [HC.out]; rfl, Below.refl _ _⟩
  · have hne : (dfault t.l t.lo t.v != 0) = true := by simpa using hd
    have HC := hide (vtCode_dec hd)
    clear hd
    generalize dfault t.l t.lo t.v = code at *
    go_wp2
    go_ret
    exact ⟨by rw [HC.out]; rfl, Below.refl _ _⟩
end Go.Proofs.YtdekegjplegkeaaGreat
