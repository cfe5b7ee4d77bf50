/-
  The model's ParserFault of a parser that is a part of a block: l4Fault.
-/
import Derived.Test.YtdekegjplegkeaaGreatParFaults
namespace Go.Proofs.YtdekegjplegkeaaGreat
set_option maxRecDepth 20000
open Go.ChangeShapes Go.WideShapes Go.ChangeAt Go.RowKit
set_option linter.unusedVariables false
set_option linter.unusedSimpArgs false
set_option maxRecDepth 20000

set_option maxHeartbeats 2000000 in
theorem l4Fault_o (md st : Int) (pv : Bool) (ns : List Int) (v : Value) (b ob : Nat) (w : World) (hn : ns.length ≤ maxLen) (h1 : ReadAt .i64 w v ns)
    (k0 : w.cell? ⟨b, ob, none⟩ = some (.int .i64 md)) (k1 : w.cell? ⟨b, ob + 1, none⟩ = some (.int .i64 st)) (k2 : w.cell? ⟨b, ob + 2, none⟩ = some (.bool pv)) (k3 : w.cell? ⟨b, ob + 3, none⟩ = some v) :
    Calls Tryz.prog 120 #[.pointer (some ⟨b, ob, none⟩)] w fun e w' => e = .returned (.int .i64 (parCode md st pv ns)) ∧ w' = w := by
  have h1' := h1
  obtain ⟨a1, c1, rfl, _⟩ := h1'
  generalize hres : parCode md st pv ns = res
  have HR := hide hres
  clear hres
  have hin : md = 0 ∨ md = 1 ∨ md = 2 ∨ md = 3 ∨ (¬ md = 0 ∧ ¬ md = 1 ∧ ¬ md = 2 ∧ ¬ md = 3) := by omega
  by_cases m3 : md = 3
  · clear hin
    subst m3
    go_enter Tryz.func120, Tryz.ntmps120
    go_wp2_with fail
    refine (l1In_calls 3 0 3 _).mono ?_
    rintro e w' ⟨rfl, hw⟩
    rw [hw]
    clear hw w'
    cases pv with
    | true =>
      have e1 : res = 1 := by rw [← HR.out]; exact parCode_form rfl
      subst e1
      go_wp2
      go_ret
      exact ⟨rfl, rfl⟩
    | false =>
      by_cases hl : 0 < ns.length
      · have e1 : res = 1 := by rw [← HR.out]; exact parCode_form (by rw [formB_set]; simp; exact List.length_pos_iff.1 hl)
        have hlI : (0 : Int) < (ns.length : Int) := by omega
        subst e1
        go_wp2
        go_ret
        exact ⟨rfl, rfl⟩
      · have e1 : res = if setB st = false then 3 else 0 := by rw [← HR.out]; exact parCode_set (by rw [formB_set]; simp; exact List.length_eq_zero_iff.1 (by omega))
        have hlI : ¬ (0 : Int) < (ns.length : Int) := by omega
        have E1 := hide e1
        clear e1 HR
        go_wp2_with fail
        refine (l1In_calls st 1 2 _).mono ?_
        rintro e w' ⟨rfl, hw⟩
        have hx : decide ((1 : Int) ≤ st ∧ st ≤ 2) = setB st := rfl
        rw [hw, hx]
        clear hw w' hx
        cases hs : setB st <;>
        · go_wp2
          go_ret
          exact ⟨by rw [E1.out, hs]; rfl, rfl⟩
  by_cases m2 : md = 2
  · clear hin m3
    subst m2
    by_cases s0 : st = 0
    · have e1 : res = numsCode ns := by rw [← HR.out]; exact parCode_par (by rw [formB_par]; simpa using s0)
      subst e1
      subst s0
      go_enter Tryz.func120, Tryz.ntmps120
      go_wp2_with fail
      refine (l1In_calls 2 0 3 _).mono ?_
      rintro e w' ⟨rfl, hw⟩
      rw [hw]
      clear hw w'
      go_wp2_with fail
      refine (l4Params_calls ns _ _ hn h1).mono ?_
      rintro e w' ⟨rfl, hw⟩
      rw [hw]
      clear hw w'
      go_wp2
      go_ret
      exact ⟨rfl, rfl⟩
    · have e1 : res = 1 := by rw [← HR.out]; exact parCode_form (by rw [formB_par]; simpa using s0)
      have s0' : (st != 0) = true := by simpa using s0
      subst e1
      go_enter Tryz.func120, Tryz.ntmps120
      go_wp2_with fail
      refine (l1In_calls 2 0 3 _).mono ?_
      rintro e w' ⟨rfl, hw⟩
      rw [hw]
      clear hw w'
      go_wp2
      go_ret
      exact ⟨rfl, rfl⟩
  by_cases m1 : md = 0 ∨ md = 1
  · have hf := formB_low (st := st) (pv := pv) (ns := ns) m1
    have hd : decide ((0 : Int) ≤ md ∧ md ≤ 3) = true := by simp; omega
    have e2 : (md != 2) = true := by simpa using m2
    have e3 : (md != 3) = true := by simpa using m3
    have e2' : (md == 2) = false := by simpa using m2
    have e3' : (md == 3) = false := by simpa using m3
    have HF := hide hf
    clear m1 hin hf
    by_cases s0 : st = 0
    · subst s0
      cases pv with
      | true =>
        have e1 : res = 1 := by rw [← HR.out]; exact parCode_form (by rw [HF.out]; rfl)
        subst e1
        clear m2 m3 e2' e3' HF HR
        go_enter Tryz.func120, Tryz.ntmps120
        go_wp2_with fail
        refine (l1In_calls md 0 3 _).mono ?_
        rintro e w' ⟨rfl, hw⟩
        rw [hw, hd]
        clear hw w'
        go_wp2
        go_ret
        exact ⟨rfl, rfl⟩
      | false =>
        by_cases hl : 0 < ns.length
        · have e1 : res = 1 := by rw [← HR.out]; exact parCode_form (by rw [HF.out]; simp; exact List.length_pos_iff.1 hl)
          have hlI : (0 : Int) < (ns.length : Int) := by omega
          subst e1
          clear m2 m3 e2' e3' HF HR
          go_enter Tryz.func120, Tryz.ntmps120
          go_wp2_with fail
          refine (l1In_calls md 0 3 _).mono ?_
          rintro e w' ⟨rfl, hw⟩
          rw [hw, hd]
          clear hw w'
          go_wp2
          go_ret
          exact ⟨rfl, rfl⟩
        · have e1 : res = 0 := by rw [← HR.out]; exact parCode_low (by rw [HF.out]; simp; exact List.length_eq_zero_iff.1 (by omega)) m3 m2
          have hlI : ¬ (0 : Int) < (ns.length : Int) := by omega
          subst e1
          clear m2 m3 HF HR
          go_enter Tryz.func120, Tryz.ntmps120
          go_wp2_with fail
          refine (l1In_calls md 0 3 _).mono ?_
          rintro e w' ⟨rfl, hw⟩
          rw [hw, hd]
          clear hw w'
          go_wp2
          go_ret
          exact ⟨rfl, rfl⟩
    · have e1 : res = 1 := by rw [← HR.out]; exact parCode_form (by rw [HF.out]; simp [s0])
      have s0' : (st != 0) = true := by simpa using s0
      subst e1
      clear m2 m3 e2' e3' HF HR
      go_enter Tryz.func120, Tryz.ntmps120
      go_wp2_with fail
      refine (l1In_calls md 0 3 _).mono ?_
      rintro e w' ⟨rfl, hw⟩
      rw [hw, hd]
      clear hw w'
      go_wp2
      go_ret
      exact ⟨rfl, rfl⟩
  · have hd : decide ((0 : Int) ≤ md ∧ md ≤ 3) = false := by simp; omega
    have e1 : res = 1 := by rw [← HR.out]; exact parCode_form (formB_not (by omega) (by omega) m3 m2)
    subst e1
    clear m1 m2 m3 hin HR
    go_enter Tryz.func120, Tryz.ntmps120
    go_wp2_with fail
    refine (l1In_calls md 0 3 _).mono ?_
    rintro e w' ⟨rfl, hw⟩
    rw [hw, hd]
    clear hw w'
    go_wp2
    go_ret
    exact ⟨rfl, rfl⟩

end Go.Proofs.YtdekegjplegkeaaGreat
