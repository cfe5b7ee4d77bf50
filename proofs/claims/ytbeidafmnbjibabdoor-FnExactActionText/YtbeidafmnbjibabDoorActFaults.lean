/-
  What ActionFault answers, of the program and of the model: isActionForm, isCharOfKind, ActionFault; l4Shown, l4Form, l4Char, l4Action, ActionFault.
-/
import Derived.Test.YtbeidafmnbjibabDoorRows
import Derived.Test.YtbeidafmnbjibabDoorParFaults
namespace Go.Proofs.YtbeidafmnbjibabDoor
open Go.ChangeShapes Go.WideShapes Go.ChangeAt Go.RowKit
set_option linter.unusedVariables false
set_option linter.unusedSimpArgs false

/-- An action has nothing that its kind has not. -/
def aformB (kd ch st : Int) (pv : Bool) (ns : List Int) : Bool :=
  if kd = 0 then decide (ch = 0) && (decide (st = 0) && (!pv && decide (ns.length = 0))) else if kd = 1 ∨ kd = 2 ∨ kd = 3 then decide (st = 0) && (!pv && decide (ns.length = 0))
  else if kd = 5 then !pv && decide (ns.length = 0) else if kd = 4 then decide (st = 0) else false
def ctlB (c : Int) : Bool := decide (0 ≤ c ∧ c ≤ 31) && (decide (c ≠ 24) && (decide (c ≠ 26) && decide (c ≠ 27)))
def escB (c : Int) : Bool := decide (48 ≤ c ∧ c ≤ 126) && decide (c ≠ 91)
def finB (c : Int) : Bool := decide (64 ≤ c ∧ c ≤ 126)
/-- The characters of a kind. -/
def kindB (kd c : Int) : Bool := if kd = 1 ∨ kd = 5 then shB c else if kd = 2 then ctlB c else if kd = 3 then escB c else if kd = 4 then finB c else true
def actCode (kd ch st : Int) (pv : Bool) (ns : List Int) : Int :=
  if aformB kd ch st pv ns = false then 1 else if kindB kd ch = false then 3 else if kd = 5 ∧ setB st = false then 3 else if kd = 4 then numsCode ns else 0

theorem aformB_0 {ch st : Int} {pv : Bool} {ns : List Int} : aformB 0 ch st pv ns = (decide (ch = 0) && (decide (st = 0) && (!pv && decide (ns.length = 0)))) := rfl
theorem aformB_low {kd ch st : Int} {pv : Bool} {ns : List Int} (h : kd = 1 ∨ kd = 2 ∨ kd = 3) : aformB kd ch st pv ns = (decide (st = 0) && (!pv && decide (ns.length = 0))) := by unfold aformB; rw [if_neg (by omega), if_pos h]
theorem aformB_set {ch st : Int} {pv : Bool} {ns : List Int} : aformB 5 ch st pv ns = (!pv && decide (ns.length = 0)) := rfl
theorem aformB_par {ch st : Int} {pv : Bool} {ns : List Int} : aformB 4 ch st pv ns = decide (st = 0) := rfl
theorem aformB_not {kd ch st : Int} {pv : Bool} {ns : List Int} (h : ¬ (0 ≤ kd ∧ kd ≤ 5)) : aformB kd ch st pv ns = false := by unfold aformB; rw [if_neg (by omega), if_neg (by omega), if_neg (by omega), if_neg (by omega)]

set_option maxHeartbeats 1000000 in
theorem isActionForm_calls (kd ch st : Int) (pv : Bool) (ns : List Int) (v : Value) (w : World) (h1 : ReadAt .i64 w v ns) :
    Calls Tryd.prog 21 #[.agg #[.int .i64 kd, .int .i64 ch, .int .i64 st, .bool pv, v]] w fun e w' => e = .returned (.bool (aformB kd ch st pv ns)) ∧ Below w.heap.size w w' := by
  obtain ⟨a1, c1, rfl, _⟩ := h1
  have hlen : (((ns.length : Int)) == 0) = decide (ns.length = 0) := by rw [Bool.eq_iff_iff]; simp
  by_cases m0 : kd = 0
  · subst m0
    rw [aformB_0]
    by_cases c0 : ch = 0
    · subst c0
      by_cases s0 : st = 0
      · subst s0
        cases pv <;>
        · skip
          go_enter Tryd.func21, Tryd.ntmps21
          go_wp2
          go_ret
          refine ⟨ret_bool ?_, (by repeat' (first | with_reducible exact Below.refl _ _ | with_reducible assumption | with_reducible refine Below.drew ?_ | with_reducible refine Below.alloc ?_ ?_ _ | with_reducible refine Below.setCell ?_ ?_ _ | (simp; done) | (simp; omega) | omega))⟩
          simp
      · have s0' : (st != 0) = true := by simpa using s0
        go_enter Tryd.func21, Tryd.ntmps21
        go_wp2
        go_ret
        refine ⟨ret_bool ?_, (by repeat' (first | with_reducible exact Below.refl _ _ | with_reducible assumption | with_reducible refine Below.drew ?_ | with_reducible refine Below.alloc ?_ ?_ _ | with_reducible refine Below.setCell ?_ ?_ _ | (simp; done) | (simp; omega) | omega))⟩
        simp [s0]
    · have c0' : (ch != 0) = true := by simpa using c0
      go_enter Tryd.func21, Tryd.ntmps21
      go_wp2
      go_ret
      refine ⟨ret_bool ?_, (by repeat' (first | with_reducible exact Below.refl _ _ | with_reducible assumption | with_reducible refine Below.drew ?_ | with_reducible refine Below.alloc ?_ ?_ _ | with_reducible refine Below.setCell ?_ ?_ _ | (simp; done) | (simp; omega) | omega))⟩
      simp [c0]
  by_cases m1 : kd = 1
  · subst m1
    rw [aformB_low (by omega)]
    by_cases s0 : st = 0
    · subst s0
      cases pv <;>
      · skip
        go_enter Tryd.func21, Tryd.ntmps21
        go_wp2
        go_ret
        refine ⟨ret_bool ?_, (by repeat' (first | with_reducible exact Below.refl _ _ | with_reducible assumption | with_reducible refine Below.drew ?_ | with_reducible refine Below.alloc ?_ ?_ _ | with_reducible refine Below.setCell ?_ ?_ _ | (simp; done) | (simp; omega) | omega))⟩
        simp
    · have s0' : (st != 0) = true := by simpa using s0
      go_enter Tryd.func21, Tryd.ntmps21
      go_wp2
      go_ret
      refine ⟨ret_bool ?_, (by repeat' (first | with_reducible exact Below.refl _ _ | with_reducible assumption | with_reducible refine Below.drew ?_ | with_reducible refine Below.alloc ?_ ?_ _ | with_reducible refine Below.setCell ?_ ?_ _ | (simp; done) | (simp; omega) | omega))⟩
      simp [s0]
  by_cases m2 : kd = 2
  · subst m2
    rw [aformB_low (by omega)]
    by_cases s0 : st = 0
    · subst s0
      cases pv <;>
      · skip
        go_enter Tryd.func21, Tryd.ntmps21
        go_wp2
        go_ret
        refine ⟨ret_bool ?_, (by repeat' (first | with_reducible exact Below.refl _ _ | with_reducible assumption | with_reducible refine Below.drew ?_ | with_reducible refine Below.alloc ?_ ?_ _ | with_reducible refine Below.setCell ?_ ?_ _ | (simp; done) | (simp; omega) | omega))⟩
        simp
    · have s0' : (st != 0) = true := by simpa using s0
      go_enter Tryd.func21, Tryd.ntmps21
      go_wp2
      go_ret
      refine ⟨ret_bool ?_, (by repeat' (first | with_reducible exact Below.refl _ _ | with_reducible assumption | with_reducible refine Below.drew ?_ | with_reducible refine Below.alloc ?_ ?_ _ | with_reducible refine Below.setCell ?_ ?_ _ | (simp; done) | (simp; omega) | omega))⟩
      simp [s0]
  by_cases m3 : kd = 3
  · subst m3
    rw [aformB_low (by omega)]
    by_cases s0 : st = 0
    · subst s0
      cases pv <;>
      · skip
        go_enter Tryd.func21, Tryd.ntmps21
        go_wp2
        go_ret
        refine ⟨ret_bool ?_, (by repeat' (first | with_reducible exact Below.refl _ _ | with_reducible assumption | with_reducible refine Below.drew ?_ | with_reducible refine Below.alloc ?_ ?_ _ | with_reducible refine Below.setCell ?_ ?_ _ | (simp; done) | (simp; omega) | omega))⟩
        simp
    · have s0' : (st != 0) = true := by simpa using s0
      go_enter Tryd.func21, Tryd.ntmps21
      go_wp2
      go_ret
      refine ⟨ret_bool ?_, (by repeat' (first | with_reducible exact Below.refl _ _ | with_reducible assumption | with_reducible refine Below.drew ?_ | with_reducible refine Below.alloc ?_ ?_ _ | with_reducible refine Below.setCell ?_ ?_ _ | (simp; done) | (simp; omega) | omega))⟩
      simp [s0]
  by_cases m5 : kd = 5
  · subst m5
    rw [aformB_set]
    cases pv <;>
    · skip
      go_enter Tryd.func21, Tryd.ntmps21
      go_wp2
      go_ret
      refine ⟨ret_bool ?_, (by repeat' (first | with_reducible exact Below.refl _ _ | with_reducible assumption | with_reducible refine Below.drew ?_ | with_reducible refine Below.alloc ?_ ?_ _ | with_reducible refine Below.setCell ?_ ?_ _ | (simp; done) | (simp; omega) | omega))⟩
      simp
  by_cases m4 : kd = 4
  · subst m4
    rw [aformB_par]
    go_enter Tryd.func21, Tryd.ntmps21
    go_wp2
    go_ret
    refine ⟨ret_bool ?_, (by repeat' (first | with_reducible exact Below.refl _ _ | with_reducible assumption | with_reducible refine Below.drew ?_ | with_reducible refine Below.alloc ?_ ?_ _ | with_reducible refine Below.setCell ?_ ?_ _ | (simp; done) | (simp; omega) | omega))⟩
    rw [Bool.eq_iff_iff]; simp
  rw [aformB_not (by omega)]
  have e0 : (kd == 0) = false := by simpa using m0
  have e1 : (kd == 1) = false := by simpa using m1
  have e2 : (kd == 2) = false := by simpa using m2
  have e3 : (kd == 3) = false := by simpa using m3
  have e4 : (kd == 4) = false := by simpa using m4
  have e5 : (kd == 5) = false := by simpa using m5
  clear m0 m1 m2 m3 m4 m5
  go_enter Tryd.func21, Tryd.ntmps21
  go_wp2
  go_ret
  exact ⟨rfl, (by repeat' (first | with_reducible exact Below.refl _ _ | with_reducible assumption | with_reducible refine Below.drew ?_ | with_reducible refine Below.alloc ?_ ?_ _ | with_reducible refine Below.setCell ?_ ?_ _ | (simp; done) | (simp; omega) | omega))⟩

theorem kindB_1 {c : Int} : kindB 1 c = shB c := rfl
theorem kindB_5 {c : Int} : kindB 5 c = shB c := rfl
theorem kindB_2 {c : Int} : kindB 2 c = ctlB c := rfl
theorem kindB_3 {c : Int} : kindB 3 c = escB c := rfl
theorem kindB_4 {c : Int} : kindB 4 c = finB c := rfl
theorem kindB_not {kd c : Int} (h : ¬ (1 ≤ kd ∧ kd ≤ 5)) : kindB kd c = true := by unfold kindB; rw [if_neg (by omega), if_neg (by omega), if_neg (by omega), if_neg (by omega)]

set_option maxHeartbeats 1000000 in
theorem isCharOfKind_calls (kd c : Int) (w : World) :
    Calls Tryd.prog 22 #[.int .i64 kd, .int .i64 c] w fun e w' => e = .returned (.bool (kindB kd c)) ∧ w' = w := by
  by_cases m1 : kd = 1
  · subst m1
    rw [kindB_1]
    go_enter Tryd.func22, Tryd.ntmps22
    go_wp2_with (first
      | (go_at_call 31; refine (isShown_calls c _).mono ?_; rintro e w' ⟨rfl, hw⟩; rw [hw]; clear hw w'))
    all_goals go_ret
    all_goals refine ⟨ret_bool ?_, rfl⟩
    all_goals rfl
  by_cases m5 : kd = 5
  · subst m5
    rw [kindB_5]
    go_enter Tryd.func22, Tryd.ntmps22
    go_wp2_with (first
      | (go_at_call 31; refine (isShown_calls c _).mono ?_; rintro e w' ⟨rfl, hw⟩; rw [hw]; clear hw w'))
    all_goals go_ret
    all_goals refine ⟨ret_bool ?_, rfl⟩
    all_goals rfl
  by_cases m2 : kd = 2
  · subst m2
    rw [kindB_2]
    go_enter Tryd.func22, Tryd.ntmps22
    go_wp2_with (first
      | (go_at_call 32; refine (isFromTo_calls c 0 31 _).mono ?_; rintro e w' ⟨rfl, hw⟩; rw [hw]; clear hw w'))
    all_goals go_ret
    all_goals refine ⟨ret_bool ?_, rfl⟩
    all_goals (unfold ctlB; rw [Bool.eq_iff_iff]; simp; try omega)
  by_cases m3 : kd = 3
  · subst m3
    rw [kindB_3]
    go_enter Tryd.func22, Tryd.ntmps22
    go_wp2_with (first
      | (go_at_call 32; refine (isFromTo_calls c 48 126 _).mono ?_; rintro e w' ⟨rfl, hw⟩; rw [hw]; clear hw w'))
    all_goals go_ret
    all_goals refine ⟨ret_bool ?_, rfl⟩
    all_goals (unfold escB; rw [Bool.eq_iff_iff]; simp; try omega)
  by_cases m4 : kd = 4
  · subst m4
    rw [kindB_4]
    go_enter Tryd.func22, Tryd.ntmps22
    go_wp2_with (first
      | (go_at_call 32; refine (isFromTo_calls c 64 126 _).mono ?_; rintro e w' ⟨rfl, hw⟩; rw [hw]; clear hw w'))
    all_goals go_ret
    all_goals refine ⟨ret_bool ?_, rfl⟩
    all_goals (unfold finB; rw [Bool.eq_iff_iff]; simp)
  rw [kindB_not (by omega)]
  have e1 : (kd == 1) = false := by simpa using m1
  have e2 : (kd == 2) = false := by simpa using m2
  have e3 : (kd == 3) = false := by simpa using m3
  have e4 : (kd == 4) = false := by simpa using m4
  have e5 : (kd == 5) = false := by simpa using m5
  clear m1 m2 m3 m4 m5
  go_enter Tryd.func22, Tryd.ntmps22
  go_wp2
  go_ret
  exact ⟨rfl, rfl⟩

theorem actCode_form {kd ch st : Int} {pv : Bool} {ns : List Int} (h : aformB kd ch st pv ns = false) : actCode kd ch st pv ns = 1 := by unfold actCode; rw [if_pos h]
theorem actCode_kind {kd ch st : Int} {pv : Bool} {ns : List Int} (h : aformB kd ch st pv ns = true) (h2 : kindB kd ch = false) : actCode kd ch st pv ns = 3 := by unfold actCode; rw [if_neg (by rw [h]; simp), if_pos h2]
theorem actCode_set {ch st : Int} {pv : Bool} {ns : List Int} (h : aformB 5 ch st pv ns = true) (h2 : kindB 5 ch = true) : actCode 5 ch st pv ns = if setB st = false then 3 else 0 := by
  unfold actCode
  rw [if_neg (by rw [h]; simp), if_neg (by rw [h2]; simp)]
  by_cases c : setB st = false
  · rw [if_pos ⟨rfl, c⟩, if_pos c]
  · rw [if_neg (fun h => c h.2), if_neg c]; rfl
theorem actCode_par {ch st : Int} {pv : Bool} {ns : List Int} (h : aformB 4 ch st pv ns = true) (h2 : kindB 4 ch = true) : actCode 4 ch st pv ns = numsCode ns := by
  unfold actCode
  rw [if_neg (by rw [h]; simp), if_neg (by rw [h2]; simp)]
  rfl
theorem actCode_low {kd ch st : Int} {pv : Bool} {ns : List Int} (h : aformB kd ch st pv ns = true) (h2 : kindB kd ch = true) (h5 : ¬ kd = 5) (h4 : ¬ kd = 4) : actCode kd ch st pv ns = 0 := by
  unfold actCode
  rw [if_neg (by rw [h]; simp), if_neg (by rw [h2]; simp), if_neg (fun c => h5 c.1), if_neg h4]

set_option maxHeartbeats 1000000 in
theorem implActionFault_calls (kd ch st : Int) (pv : Bool) (ns : List Int) (v : Value) (w : World) (hn : ns.length ≤ maxLen) (h1 : ReadAt .i64 w v ns) :
    Calls Tryd.prog 14 #[.agg #[.int .i64 kd, .int .i64 ch, .int .i64 st, .bool pv, v]] w fun e w' => e = .returned (.int .i64 (actCode kd ch st pv ns)) ∧ Below w.heap.size w w' := by
  have h1' := h1
  obtain ⟨a1, c1, rfl, _⟩ := h1'
  have hb0 : Below w.heap.size w (w.alloc (.cells #[.int .i64 kd, .int .i64 ch, .int .i64 st, .bool pv, .slice a1 ns.length c1] 29)) := (by repeat' (first | with_reducible exact Below.refl _ _ | with_reducible assumption | with_reducible refine Below.drew ?_ | with_reducible refine Below.alloc ?_ ?_ _ | with_reducible refine Below.setCell ?_ ?_ _ | (simp; done) | (simp; omega) | omega))
  generalize hres : actCode kd ch st pv ns = res
  have HR := hide hres
  clear hres
  cases hf : aformB kd ch st pv ns with
  | false =>
    have HE := hide ((HR.out).symm.trans (actCode_form hf))
    go_enter Tryd.func14, Tryd.ntmps14
    go_wp2_with fail
    refine (isActionForm_calls kd ch st pv ns _ _ (h1.below hb0)).mono ?_
    rintro e w1 ⟨rfl, hb1⟩
    rw [hf]
    go_wp2
    go_ret
    exact ⟨by rw [HE.out]; rfl, hb0.trans (hb1.mono hb0.size)⟩
  | true =>
    have HF := hide hf
    go_enter Tryd.func14, Tryd.ntmps14
    go_wp2_with fail
    refine (isActionForm_calls kd ch st pv ns _ _ (h1.below hb0)).mono ?_
    rintro e w1 ⟨rfl, hb1⟩
    rw [hf]
    have A0 : w1.cell? ⟨w.heap.size, 0, none⟩ = some (.int .i64 kd) := cellb hb1 (by simp)
    have A1 : w1.cell? ⟨w.heap.size, 1, none⟩ = some (.int .i64 ch) := cellb hb1 (by simp)
    have A2 : w1.cell? ⟨w.heap.size, 2, none⟩ = some (.int .i64 st) := cellb hb1 (by simp)
    have A4 : w1.cell? ⟨w.heap.size, 4, none⟩ = some (.slice a1 ns.length c1) := cellb hb1 (by simp)
    have hb2 := hb0.trans (hb1.mono hb0.size)
    clear hb1 hb0 hf
    go_wp2_with fail
    refine (isCharOfKind_calls kd ch _).mono ?_
    rintro e w' ⟨rfl, hw⟩
    rw [hw]
    clear hw w'
    cases hk : kindB kd ch with
    | false =>
      have HE := hide ((HR.out).symm.trans (actCode_kind HF.out hk))
      go_wp2
      go_ret
      exact ⟨by rw [HE.out]; rfl, hb2⟩
    | true =>
      have HK := hide hk
      clear hk
      by_cases m5 : kd = 5
      · subst m5
        have HE := hide ((HR.out).symm.trans (actCode_set HF.out HK.out))
        go_wp2_with fail
        refine (isSet_calls st _).mono ?_
        rintro e w' ⟨rfl, hw⟩
        rw [hw]
        clear hw w'
        cases hs : setB st <;>
        · go_wp2
          go_ret
          exact ⟨by rw [HE.out, hs]; rfl, hb2⟩
      by_cases m4 : kd = 4
      · subst m4
        have HE := hide ((HR.out).symm.trans (actCode_par HF.out HK.out))
        go_wp2_with fail
        refine (paramsFault_calls ns _ _ hn (h1.below hb2)).mono ?_
        rintro e w' ⟨rfl, hw⟩
        rw [hw]
        clear hw w'
        go_wp2
        go_ret
        exact ⟨by rw [HE.out]; rfl, hb2⟩
      have HE := hide ((HR.out).symm.trans (actCode_low HF.out HK.out m5 m4))
      have e4 : (kd == 4) = false := by simpa using m4
      have e5 : (kd == 5) = false := by simpa using m5
      clear m4 m5
      go_wp2
      go_ret
      exact ⟨by rw [HE.out]; rfl, hb2⟩

set_option maxHeartbeats 400000 in
theorem l4Shown_calls (c : Int) (w : World) :
    Calls Tryd.prog 30 #[.int .i64 c] w fun e w' => e = .returned (.bool (shB c)) ∧ w' = w := by
  go_enter Tryd.func30, Tryd.ntmps30
  go_wp2_with (go_at_call 36; refine (l1Char_calls c _).mono ?_; rintro e w' ⟨rfl, hw⟩; rw [hw]; clear hw w')
  all_goals go_ret
  all_goals refine ⟨ret_bool ?_, rfl⟩
  all_goals (unfold shB; rw [Bool.eq_iff_iff]; simp_all; try omega)

set_option maxHeartbeats 2000000 in
theorem l4Form_calls (kd ch st : Int) (pv : Bool) (ns : List Int) (a1 : Option Addr) (c1 : Nat) (b : Nat) (w : World)
    (k0 : w.cell? ⟨b, 0, none⟩ = some (.int .i64 kd)) (k1 : w.cell? ⟨b, 1, none⟩ = some (.int .i64 ch)) (k2 : w.cell? ⟨b, 2, none⟩ = some (.int .i64 st)) (k3 : w.cell? ⟨b, 3, none⟩ = some (.bool pv)) (k4 : w.cell? ⟨b, 4, none⟩ = some (.slice a1 ns.length c1)) :
    Calls Tryd.prog 18 #[.pointer (some ⟨b, 0, none⟩)] w fun e w' => e = .returned (.bool (aformB kd ch st pv ns)) ∧ w' = w := by
  have hlen : (((ns.length : Int)) == 0) = decide (ns.length = 0) := by rw [Bool.eq_iff_iff]; simp
  by_cases m0 : kd = 0
  · subst m0
    rw [aformB_0]
    by_cases c0 : ch = 0
    · subst c0
      by_cases s0 : st = 0
      · subst s0
        cases pv <;>
        · skip
          go_enter Tryd.func18, Tryd.ntmps18
          go_wp2_with fail
          refine (l1In_calls 0 0 5 _).mono ?_
          rintro e w' ⟨rfl, hw⟩
          rw [hw]
          clear hw w'
          go_wp2
          go_ret
          refine ⟨ret_bool ?_, rfl⟩
          simp
      · have s0' : (st == 0) = false := by simpa using s0
        go_enter Tryd.func18, Tryd.ntmps18
        go_wp2_with fail
        refine (l1In_calls 0 0 5 _).mono ?_
        rintro e w' ⟨rfl, hw⟩
        rw [hw]
        clear hw w'
        go_wp2
        go_ret
        refine ⟨ret_bool ?_, rfl⟩
        simp [s0]
    · have c0' : (ch != 0) = true := by simpa using c0
      go_enter Tryd.func18, Tryd.ntmps18
      go_wp2_with fail
      refine (l1In_calls 0 0 5 _).mono ?_
      rintro e w' ⟨rfl, hw⟩
      rw [hw]
      clear hw w'
      go_wp2
      go_ret
      refine ⟨ret_bool ?_, rfl⟩
      simp [c0]
  by_cases m1 : kd = 1
  · subst m1
    rw [aformB_low (by omega)]
    by_cases s0 : st = 0
    · subst s0
      cases pv <;>
      · skip
        go_enter Tryd.func18, Tryd.ntmps18
        go_wp2_with fail
        refine (l1In_calls 1 0 5 _).mono ?_
        rintro e w' ⟨rfl, hw⟩
        rw [hw]
        clear hw w'
        go_wp2
        go_ret
        refine ⟨ret_bool ?_, rfl⟩
        simp
    · have s0' : (st == 0) = false := by simpa using s0
      go_enter Tryd.func18, Tryd.ntmps18
      go_wp2_with fail
      refine (l1In_calls 1 0 5 _).mono ?_
      rintro e w' ⟨rfl, hw⟩
      rw [hw]
      clear hw w'
      go_wp2
      go_ret
      refine ⟨ret_bool ?_, rfl⟩
      simp [s0]
  by_cases m2 : kd = 2
  · subst m2
    rw [aformB_low (by omega)]
    by_cases s0 : st = 0
    · subst s0
      cases pv <;>
      · skip
        go_enter Tryd.func18, Tryd.ntmps18
        go_wp2_with fail
        refine (l1In_calls 2 0 5 _).mono ?_
        rintro e w' ⟨rfl, hw⟩
        rw [hw]
        clear hw w'
        go_wp2
        go_ret
        refine ⟨ret_bool ?_, rfl⟩
        simp
    · have s0' : (st == 0) = false := by simpa using s0
      go_enter Tryd.func18, Tryd.ntmps18
      go_wp2_with fail
      refine (l1In_calls 2 0 5 _).mono ?_
      rintro e w' ⟨rfl, hw⟩
      rw [hw]
      clear hw w'
      go_wp2
      go_ret
      refine ⟨ret_bool ?_, rfl⟩
      simp [s0]
  by_cases m3 : kd = 3
  · subst m3
    rw [aformB_low (by omega)]
    by_cases s0 : st = 0
    · subst s0
      cases pv <;>
      · skip
        go_enter Tryd.func18, Tryd.ntmps18
        go_wp2_with fail
        refine (l1In_calls 3 0 5 _).mono ?_
        rintro e w' ⟨rfl, hw⟩
        rw [hw]
        clear hw w'
        go_wp2
        go_ret
        refine ⟨ret_bool ?_, rfl⟩
        simp
    · have s0' : (st == 0) = false := by simpa using s0
      go_enter Tryd.func18, Tryd.ntmps18
      go_wp2_with fail
      refine (l1In_calls 3 0 5 _).mono ?_
      rintro e w' ⟨rfl, hw⟩
      rw [hw]
      clear hw w'
      go_wp2
      go_ret
      refine ⟨ret_bool ?_, rfl⟩
      simp [s0]
  by_cases m5 : kd = 5
  · subst m5
    rw [aformB_set]
    cases pv <;>
    · skip
      go_enter Tryd.func18, Tryd.ntmps18
      go_wp2_with fail
      refine (l1In_calls 5 0 5 _).mono ?_
      rintro e w' ⟨rfl, hw⟩
      rw [hw]
      clear hw w'
      go_wp2
      go_ret
      refine ⟨ret_bool ?_, rfl⟩
      simp
  by_cases m4 : kd = 4
  · subst m4
    rw [aformB_par]
    by_cases s0 : st = 0
    · subst s0
      go_enter Tryd.func18, Tryd.ntmps18
      go_wp2_with fail
      refine (l1In_calls 4 0 5 _).mono ?_
      rintro e w' ⟨rfl, hw⟩
      rw [hw]
      clear hw w'
      go_wp2
      go_ret
      refine ⟨ret_bool ?_, rfl⟩
      simp
    · have s0' : (st == 0) = false := by simpa using s0
      go_enter Tryd.func18, Tryd.ntmps18
      go_wp2_with fail
      refine (l1In_calls 4 0 5 _).mono ?_
      rintro e w' ⟨rfl, hw⟩
      rw [hw]
      clear hw w'
      go_wp2
      go_ret
      refine ⟨ret_bool ?_, rfl⟩
      simp [s0]
  rw [aformB_not (by omega)]
  have hd : decide ((0 : Int) ≤ kd ∧ kd ≤ 5) = false := by simp; omega
  clear m0 m1 m2 m3 m4 m5
  go_enter Tryd.func18, Tryd.ntmps18
  go_wp2_with fail
  refine (l1In_calls kd 0 5 _).mono ?_
  rintro e w' ⟨rfl, hw⟩
  rw [hw, hd]
  clear hw w'
  go_wp2
  go_ret
  refine ⟨ret_bool ?_, rfl⟩
  simp

set_option maxHeartbeats 2000000 in
theorem l4Char_calls (kd ch st : Int) (b : Nat) (w : World)
    (k0 : w.cell? ⟨b, 0, none⟩ = some (.int .i64 kd)) (k1 : w.cell? ⟨b, 1, none⟩ = some (.int .i64 ch)) (k2 : w.cell? ⟨b, 2, none⟩ = some (.int .i64 st)) :
    Calls Tryd.prog 19 #[.pointer (some ⟨b, 0, none⟩)] w fun e w' => e = .returned (.bool (kindB kd ch && (decide (kd ≠ 5) || setB st))) ∧ w' = w := by
  by_cases m1 : kd = 1
  · subst m1
    rw [kindB_1]
    go_enter Tryd.func19, Tryd.ntmps19
    go_wp2_with (first
      | (go_at_call 30; refine (l4Shown_calls ch _).mono ?_; rintro e w' ⟨rfl, hw⟩; rw [hw]; clear hw w'))
    all_goals go_ret
    all_goals refine ⟨ret_bool ?_, rfl⟩
    all_goals simp
  by_cases m5 : kd = 5
  · subst m5
    rw [kindB_5]
    go_enter Tryd.func19, Tryd.ntmps19
    go_wp2_with (first
      | (go_at_call 30; refine (l4Shown_calls ch _).mono ?_; rintro e w' ⟨rfl, hw⟩; rw [hw]; clear hw w')
      | (go_at_call 29; refine (l1In_calls st 1 2 _).mono ?_; rintro e w' ⟨rfl, hw⟩; rw [hw]; clear hw w'))
    all_goals go_ret
    all_goals refine ⟨ret_bool ?_, rfl⟩
    all_goals (unfold setB; simp_all)
  by_cases m2 : kd = 2
  · subst m2
    rw [kindB_2]
    go_enter Tryd.func19, Tryd.ntmps19
    go_wp2_with (first
      | (go_at_call 29; refine (l1In_calls ch 0 31 _).mono ?_; rintro e w' ⟨rfl, hw⟩; rw [hw]; clear hw w'))
    all_goals go_ret
    all_goals refine ⟨ret_bool ?_, rfl⟩
    all_goals (unfold ctlB; rw [Bool.eq_iff_iff]; simp; try omega)
  by_cases m3 : kd = 3
  · subst m3
    rw [kindB_3]
    go_enter Tryd.func19, Tryd.ntmps19
    go_wp2_with (first
      | (go_at_call 29; refine (l1In_calls ch 48 126 _).mono ?_; rintro e w' ⟨rfl, hw⟩; rw [hw]; clear hw w'))
    all_goals go_ret
    all_goals refine ⟨ret_bool ?_, rfl⟩
    all_goals (unfold escB; rw [Bool.eq_iff_iff]; simp; try omega)
  by_cases m4 : kd = 4
  · subst m4
    rw [kindB_4]
    go_enter Tryd.func19, Tryd.ntmps19
    go_wp2_with (first
      | (go_at_call 29; refine (l1In_calls ch 64 126 _).mono ?_; rintro e w' ⟨rfl, hw⟩; rw [hw]; clear hw w'))
    all_goals go_ret
    all_goals refine ⟨ret_bool ?_, rfl⟩
    all_goals (unfold finB; rw [Bool.eq_iff_iff]; simp)
  rw [kindB_not (by omega)]
  have hd : (true && (decide (kd ≠ 5) || setB st)) = true := by simp [m5]
  rw [hd]
  have e1 : (kd == 1) = false := by simpa using m1
  have e2 : (kd == 2) = false := by simpa using m2
  have e3 : (kd == 3) = false := by simpa using m3
  have e4 : (kd == 4) = false := by simpa using m4
  have e5 : (kd == 5) = false := by simpa using m5
  clear m1 m2 m3 m4 m5 hd
  go_enter Tryd.func19, Tryd.ntmps19
  go_wp2
  go_ret
  exact ⟨rfl, rfl⟩

theorem actCode_char {kd ch st : Int} {pv : Bool} {ns : List Int} (h : aformB kd ch st pv ns = true) (h2 : (kindB kd ch && (decide (kd ≠ 5) || setB st)) = false) : actCode kd ch st pv ns = 3 := by
  cases hk : kindB kd ch with
  | false => exact actCode_kind h hk
  | true =>
    rw [hk] at h2
    simp at h2
    obtain ⟨rfl, h3⟩ := h2
    rw [actCode_set h hk, if_pos h3]
theorem actCode_fine {kd ch st : Int} {pv : Bool} {ns : List Int} (h : aformB kd ch st pv ns = true) (h2 : (kindB kd ch && (decide (kd ≠ 5) || setB st)) = true) (h4 : ¬ kd = 4) : actCode kd ch st pv ns = 0 := by
  simp only [Bool.and_eq_true, Bool.or_eq_true, decide_eq_true_eq] at h2
  obtain ⟨hk, h3⟩ := h2
  by_cases h5 : kd = 5
  · subst h5
    rcases h3 with h3 | h3
    · exact absurd rfl h3
    · rw [actCode_set h hk, if_neg (by rw [h3]; simp)]
  · exact actCode_low h hk h5 h4

set_option maxHeartbeats 1000000 in
theorem l4Action_calls (kd ch st : Int) (pv : Bool) (ns : List Int) (v : Value) (b : Nat) (w : World) (hn : ns.length ≤ maxLen) (h1 : ReadAt .i64 w v ns)
    (k0 : w.cell? ⟨b, 0, none⟩ = some (.int .i64 kd)) (k1 : w.cell? ⟨b, 1, none⟩ = some (.int .i64 ch)) (k2 : w.cell? ⟨b, 2, none⟩ = some (.int .i64 st)) (k3 : w.cell? ⟨b, 3, none⟩ = some (.bool pv)) (k4 : w.cell? ⟨b, 4, none⟩ = some v) :
    Calls Tryd.prog 11 #[.pointer (some ⟨b, 0, none⟩)] w fun e w' => e = .returned (.int .i64 (actCode kd ch st pv ns)) ∧ w' = w := by
  have h1' := h1
  obtain ⟨a1, c1, rfl, _⟩ := h1'
  generalize hres : actCode kd ch st pv ns = res
  have HR := hide hres
  clear hres
  go_enter Tryd.func11, Tryd.ntmps11
  go_wp2_with fail
  refine (l4Form_calls kd ch st pv ns _ _ _ _ k0 k1 k2 k3 k4).mono ?_
  rintro e w' ⟨rfl, hw⟩
  rw [hw]
  clear hw w'
  cases hf : aformB kd ch st pv ns with
  | false =>
    have HE := hide ((HR.out).symm.trans (actCode_form hf))
    go_wp2
    go_ret
    exact ⟨by rw [HE.out]; rfl, rfl⟩
  | true =>
    have HF := hide hf
    clear hf
    go_wp2_with fail
    refine (l4Char_calls kd ch st _ _ k0 k1 k2).mono ?_
    rintro e w' ⟨rfl, hw⟩
    rw [hw]
    clear hw w'
    generalize hk : (kindB kd ch && (decide (kd ≠ 5) || setB st)) = kk
    cases kk with
    | false =>
      have HE := hide ((HR.out).symm.trans (actCode_char HF.out hk))
      clear hk
      go_wp2
      go_ret
      exact ⟨by rw [HE.out]; rfl, rfl⟩
    | true =>
      have HK := hide hk
      clear hk
      by_cases m4 : kd = 4
      · subst m4
        have HE := hide ((HR.out).symm.trans (actCode_par HF.out (by have := HK.out; simpa using this)))
        go_wp2_with fail
        refine (l4Params_calls ns _ _ hn h1).mono ?_
        rintro e w' ⟨rfl, hw⟩
        rw [hw]
        clear hw w'
        go_wp2
        go_ret
        exact ⟨by rw [HE.out]; rfl, rfl⟩
      have HE := hide ((HR.out).symm.trans (actCode_fine HF.out HK.out m4))
      have e4 : (kd == 4) = false := by simpa using m4
      clear m4
      go_wp2
      go_ret
      exact ⟨by rw [HE.out]; rfl, rfl⟩


end Go.Proofs.YtbeidafmnbjibabDoor
