/-
  What TranslateChar answers, of the program and of the model.
-/
import Derived.Test.YtlkabmgindbbmaaRows
import Derived.Test.YtlkabmgindbbmaaFontFaults
namespace Go.Proofs.Ytlkabmgindbbmaa
set_option maxRecDepth 20000
open Go.ChangeShapes Go.WideShapes Go.ChangeAt Go.RowKit
set_option linter.unusedVariables false
set_option linter.unusedSimpArgs false

def trVal (t c : Int) : Int := if t = 2 ∧ 97 ≤ c ∧ c ≤ 122 then 9472 + c - 97 else if t = 3 ∧ 33 ≤ c ∧ c ≤ 126 then 61440 + c else c
def trOk (t c : Int) : Bool := decide (1 ≤ t ∧ t ≤ 3) && chB c
def trRes (t c : Int) : Value := if trOk t c = true then .agg #[.int .i64 0, .int .i64 (trVal t c)] else .agg #[.int .i64 3, .int .i64 0]
theorem tr_ok {t c : Int} (h : trOk t c = true) : (t = 1 ∨ t = 2 ∨ t = 3) ∧ chB c = true ∧ 0 ≤ c ∧ c ≤ 65535 := by
  unfold trOk at h
  simp at h
  have := h.2
  unfold chB at this
  simp at this
  exact ⟨by omega, h.2, by omega, by omega⟩

set_option maxHeartbeats 400000 in
theorem l2Table_calls (t : Int) (w : World) :
    Calls Try.prog 65 #[.int .i64 t] w fun e w' => e = .returned (.bool (decide (1 ≤ t ∧ t ≤ 3))) ∧ w' = w := by
  generalize hd : decide (1 ≤ t ∧ t ≤ 3) = d
  go_enter Try.func65, Try.ntmps65
  go_wp2_with (go_at_call 67; refine (l1In_calls t 1 3 _).mono ?_; rintro e w' ⟨rfl, hw⟩; rw [hw, hd]; clear hw w')
  go_ret
  exact ⟨rfl, rfl⟩

set_option maxHeartbeats 1000000 in
theorem l2Translate_calls (t c : Int) (w : World) (ht : t = 1 ∨ t = 2 ∨ t = 3) (h0 : 0 ≤ c) (h1 : c ≤ 65535) :
    Calls Try.prog 66 #[.int .i64 t, .int .i64 c] w fun e w' => e = .returned (.int .i64 (trVal t c)) ∧ w' = w := by
  rcases ht with rfl | rfl | rfl
  · have e1 : trVal 1 c = c := by unfold trVal; simp
    rw [e1]
    clear e1
    go_enter Try.func66, Try.ntmps66
    go_wp2
    go_ret
    exact ⟨rfl, rfl⟩
  · by_cases h : 97 ≤ c ∧ c ≤ 122
    · have e1 : trVal 2 c = 9472 + c - 97 := by unfold trVal; rw [if_pos ⟨rfl, h⟩]
      have hd : decide (97 ≤ c ∧ c ≤ 122) = true := by simpa using h
      rw [e1]
      clear e1
      go_enter Try.func66, Try.ntmps66
      go_wp2_with (go_at_call 67; refine (l1In_calls _ _ _ _).mono ?_; rintro e w' ⟨rfl, hw⟩; rw [hw]; clear hw w'; rw [hd])
      go_ret
      exact ⟨rfl, rfl⟩
    · have e1 : trVal 2 c = c := by unfold trVal; rw [if_neg (fun k => h k.2), if_neg (fun k => by have := k.1; omega)]
      have hd : decide (97 ≤ c ∧ c ≤ 122) = false := by simpa using h
      rw [e1]
      clear e1
      go_enter Try.func66, Try.ntmps66
      go_wp2_with (go_at_call 67; refine (l1In_calls _ _ _ _).mono ?_; rintro e w' ⟨rfl, hw⟩; rw [hw]; clear hw w'; rw [hd])
      go_ret
      exact ⟨rfl, rfl⟩
  · by_cases h : 33 ≤ c ∧ c ≤ 126
    · have e1 : trVal 3 c = 61440 + c := by unfold trVal; rw [if_neg (fun k => by have := k.1; omega), if_pos ⟨rfl, h⟩]
      have hd : decide (33 ≤ c ∧ c ≤ 126) = true := by simpa using h
      rw [e1]
      clear e1
      go_enter Try.func66, Try.ntmps66
      go_wp2_with (go_at_call 67; refine (l1In_calls _ _ _ _).mono ?_; rintro e w' ⟨rfl, hw⟩; rw [hw]; clear hw w'; rw [hd])
      go_ret
      exact ⟨rfl, rfl⟩
    · have e1 : trVal 3 c = c := by unfold trVal; rw [if_neg (fun k => by have := k.1; omega), if_neg (fun k => h k.2)]
      have hd : decide (33 ≤ c ∧ c ≤ 126) = false := by simpa using h
      rw [e1]
      clear e1
      go_enter Try.func66, Try.ntmps66
      go_wp2_with (go_at_call 67; refine (l1In_calls _ _ _ _).mono ?_; rintro e w' ⟨rfl, hw⟩; rw [hw]; clear hw w'; rw [hd])
      go_ret
      exact ⟨rfl, rfl⟩

set_option maxHeartbeats 1000000 in
theorem specTranslate_calls (t c : Int) (w : World) :
    Calls Try.prog 37 #[.int .i64 t, .int .i64 c] w fun e w' => e = .returned (trRes t c) ∧ Below w.heap.size w w' := by
  cases hok : trOk t c with
  | true =>
    obtain ⟨ht, hc, h0, h1⟩ := tr_ok hok
    have e1 : trRes t c = .agg #[.int .i64 0, .int .i64 (trVal t c)] := by unfold trRes; rw [if_pos hok]
    have hd : decide (1 ≤ t ∧ t ≤ 3) = true := by rcases ht with rfl | rfl | rfl <;> rfl
    rw [e1]
    clear e1 hok
    have HT := hide ht
    clear ht
    go_enter Try.func37, Try.ntmps37
    go_wp2_with (first
      | (go_at_call 65; refine (l2Table_calls t _).mono ?_; rintro e w' ⟨rfl, hw⟩; rw [hw, hd]; clear hw w')
      | (go_at_call 53; refine (l1Char_calls c _).mono ?_; rintro e w' ⟨rfl, hw⟩; rw [hw, hc]; clear hw w')
      | (go_at_call 66; refine (l2Translate_calls t c _ HT.out h0 h1).mono ?_; rintro e w' ⟨rfl, hw⟩; rw [hw]; clear hw w'))
    exact bodyPost_ret (v := .agg #[.int .i64 0, .int .i64 (trVal t c)]) (by simp [results, Try.results37, go_sem]) rfl ⟨rfl, (by repeat' (first | with_reducible exact Below.refl _ _ | with_reducible assumption | with_reducible refine Below.drew ?_ | with_reducible refine Below.alloc ?_ ?_ _ | with_reducible refine Below.setCell ?_ ?_ _ | (simp; done) | (simp; omega) | omega))⟩
  | false =>
    have e1 : trRes t c = .agg #[.int .i64 3, .int .i64 0] := by unfold trRes; rw [if_neg (by rw [hok]; simp)]
    rw [e1]
    clear e1
    cases hd : decide (1 ≤ t ∧ t ≤ 3) with
    | false =>
      clear hok
      go_enter Try.func37, Try.ntmps37
      go_wp2_with (first
        | (go_at_call 65; refine (l2Table_calls t _).mono ?_; rintro e w' ⟨rfl, hw⟩; rw [hw, hd]; clear hw w'))
      exact bodyPost_ret (v := .agg #[.int .i64 3, .int .i64 0]) (by simp [results, Try.results37, go_sem]) rfl ⟨rfl, (by repeat' (first | with_reducible exact Below.refl _ _ | with_reducible assumption | with_reducible refine Below.drew ?_ | with_reducible refine Below.alloc ?_ ?_ _ | with_reducible refine Below.setCell ?_ ?_ _ | (simp; done) | (simp; omega) | omega))⟩
    | true =>
      have hc : chB c = false := by unfold trOk at hok; rw [hd] at hok; simpa using hok
      clear hok
      go_enter Try.func37, Try.ntmps37
      go_wp2_with (first
        | (go_at_call 65; refine (l2Table_calls t _).mono ?_; rintro e w' ⟨rfl, hw⟩; rw [hw, hd]; clear hw w')
        | (go_at_call 53; refine (l1Char_calls c _).mono ?_; rintro e w' ⟨rfl, hw⟩; rw [hw, hc]; clear hw w'))
      exact bodyPost_ret (v := .agg #[.int .i64 3, .int .i64 0]) (by simp [results, Try.results37, go_sem]) rfl ⟨rfl, (by repeat' (first | with_reducible exact Below.refl _ _ | with_reducible assumption | with_reducible refine Below.drew ?_ | with_reducible refine Below.alloc ?_ ?_ _ | with_reducible refine Below.setCell ?_ ?_ _ | (simp; done) | (simp; omega) | omega))⟩

set_option maxHeartbeats 2000000 in
theorem implTranslate_calls (t c : Int) (w : World) :
    Calls Try.prog 36 #[.int .i64 t, .int .i64 c] w fun e w' => e = .returned (trRes t c) ∧ Below w.heap.size w w' := by
  cases hok : trOk t c with
  | true =>
    obtain ⟨ht, hc, h0, h1⟩ := tr_ok hok
    have e1 : trRes t c = .agg #[.int .i64 0, .int .i64 (trVal t c)] := by unfold trRes; rw [if_pos hok]
    rw [e1]
    clear e1 hok
    rcases ht with rfl | rfl | rfl
    · have e1 : trVal 1 c = c := by unfold trVal; simp
      have hd : decide ((1 : Int) ≤ 1 ∧ (1 : Int) ≤ 3) = true := rfl
      rw [e1]
      clear e1
      go_enter Try.func36, Try.ntmps36
      go_wp2_with (first
        | (go_at_call 55; refine (isFromTo_calls _ _ _ _).mono ?_; rintro e w' ⟨rfl, hw⟩; rw [hw]; clear hw w'; rw [hd])
        | (go_at_call 51; refine (isChar_calls c _).mono ?_; rintro e w' ⟨rfl, hw⟩; rw [hw, hc]; clear hw w'))
      exact bodyPost_ret (v := .agg #[.int .i64 0, .int .i64 c]) (by simp [results, Try.results36, go_sem]) rfl ⟨rfl, (by repeat' (first | with_reducible exact Below.refl _ _ | with_reducible assumption | with_reducible refine Below.drew ?_ | with_reducible refine Below.alloc ?_ ?_ _ | with_reducible refine Below.setCell ?_ ?_ _ | (simp; done) | (simp; omega) | omega))⟩
    · have hd : decide ((1 : Int) ≤ 2 ∧ (2 : Int) ≤ 3) = true := rfl
      by_cases h : 97 ≤ c ∧ c ≤ 122
      · have e1 : trVal 2 c = 9472 + c - 97 := by unfold trVal; rw [if_pos ⟨rfl, h⟩]
        have hd2 : decide (97 ≤ c ∧ c ≤ 122) = true := by simpa using h
        rw [e1]
        clear e1
        go_enter Try.func36, Try.ntmps36
        go_wp2_with (first
          | (go_at_call 55; refine (isFromTo_calls _ _ _ _).mono ?_; rintro e w' ⟨rfl, hw⟩; rw [hw]; clear hw w'; first | rw [hd] | rw [hd2])
          | (go_at_call 51; refine (isChar_calls c _).mono ?_; rintro e w' ⟨rfl, hw⟩; rw [hw, hc]; clear hw w'))
        exact bodyPost_ret (v := .agg #[.int .i64 0, .int .i64 (9472 + c - 97)]) (by simp [results, Try.results36, go_sem]) rfl ⟨rfl, (by repeat' (first | with_reducible exact Below.refl _ _ | with_reducible assumption | with_reducible refine Below.drew ?_ | with_reducible refine Below.alloc ?_ ?_ _ | with_reducible refine Below.setCell ?_ ?_ _ | (simp; done) | (simp; omega) | omega))⟩
      · have e1 : trVal 2 c = c := by unfold trVal; rw [if_neg (fun k => h k.2), if_neg (fun k => by have := k.1; omega)]
        have hd2 : decide (97 ≤ c ∧ c ≤ 122) = false := by simpa using h
        rw [e1]
        clear e1
        go_enter Try.func36, Try.ntmps36
        go_wp2_with (first
          | (go_at_call 55; refine (isFromTo_calls _ _ _ _).mono ?_; rintro e w' ⟨rfl, hw⟩; rw [hw]; clear hw w'; first | rw [hd] | rw [hd2])
          | (go_at_call 51; refine (isChar_calls c _).mono ?_; rintro e w' ⟨rfl, hw⟩; rw [hw, hc]; clear hw w'))
        exact bodyPost_ret (v := .agg #[.int .i64 0, .int .i64 (c)]) (by simp [results, Try.results36, go_sem]) rfl ⟨rfl, (by repeat' (first | with_reducible exact Below.refl _ _ | with_reducible assumption | with_reducible refine Below.drew ?_ | with_reducible refine Below.alloc ?_ ?_ _ | with_reducible refine Below.setCell ?_ ?_ _ | (simp; done) | (simp; omega) | omega))⟩
    · have hd : decide ((1 : Int) ≤ 3 ∧ (3 : Int) ≤ 3) = true := rfl
      by_cases h : 33 ≤ c ∧ c ≤ 126
      · have e1 : trVal 3 c = 61440 + c := by unfold trVal; rw [if_neg (fun k => by have := k.1; omega), if_pos ⟨rfl, h⟩]
        have hd2 : decide (33 ≤ c ∧ c ≤ 126) = true := by simpa using h
        rw [e1]
        clear e1
        go_enter Try.func36, Try.ntmps36
        go_wp2_with (first
          | (go_at_call 55; refine (isFromTo_calls _ _ _ _).mono ?_; rintro e w' ⟨rfl, hw⟩; rw [hw]; clear hw w'; first | rw [hd] | rw [hd2])
          | (go_at_call 51; refine (isChar_calls c _).mono ?_; rintro e w' ⟨rfl, hw⟩; rw [hw, hc]; clear hw w'))
        exact bodyPost_ret (v := .agg #[.int .i64 0, .int .i64 (61440 + c)]) (by simp [results, Try.results36, go_sem]) rfl ⟨rfl, (by repeat' (first | with_reducible exact Below.refl _ _ | with_reducible assumption | with_reducible refine Below.drew ?_ | with_reducible refine Below.alloc ?_ ?_ _ | with_reducible refine Below.setCell ?_ ?_ _ | (simp; done) | (simp; omega) | omega))⟩
      · have e1 : trVal 3 c = c := by unfold trVal; rw [if_neg (fun k => by have := k.1; omega), if_neg (fun k => h k.2)]
        have hd2 : decide (33 ≤ c ∧ c ≤ 126) = false := by simpa using h
        rw [e1]
        clear e1
        go_enter Try.func36, Try.ntmps36
        go_wp2_with (first
          | (go_at_call 55; refine (isFromTo_calls _ _ _ _).mono ?_; rintro e w' ⟨rfl, hw⟩; rw [hw]; clear hw w'; first | rw [hd] | rw [hd2])
          | (go_at_call 51; refine (isChar_calls c _).mono ?_; rintro e w' ⟨rfl, hw⟩; rw [hw, hc]; clear hw w'))
        exact bodyPost_ret (v := .agg #[.int .i64 0, .int .i64 (c)]) (by simp [results, Try.results36, go_sem]) rfl ⟨rfl, (by repeat' (first | with_reducible exact Below.refl _ _ | with_reducible assumption | with_reducible refine Below.drew ?_ | with_reducible refine Below.alloc ?_ ?_ _ | with_reducible refine Below.setCell ?_ ?_ _ | (simp; done) | (simp; omega) | omega))⟩
  | false =>
    have e1 : trRes t c = .agg #[.int .i64 3, .int .i64 0] := by unfold trRes; rw [if_neg (by rw [hok]; simp)]
    rw [e1]
    clear e1
    cases hd : decide (1 ≤ t ∧ t ≤ 3) with
    | false =>
      clear hok
      go_enter Try.func36, Try.ntmps36
      go_wp2_with (first
        | (go_at_call 55; refine (isFromTo_calls _ _ _ _).mono ?_; rintro e w' ⟨rfl, hw⟩; rw [hw]; clear hw w'; rw [hd]))
      exact bodyPost_ret (v := .agg #[.int .i64 3, .int .i64 0]) (by simp [results, Try.results36, go_sem]) rfl ⟨rfl, (by repeat' (first | with_reducible exact Below.refl _ _ | with_reducible assumption | with_reducible refine Below.drew ?_ | with_reducible refine Below.alloc ?_ ?_ _ | with_reducible refine Below.setCell ?_ ?_ _ | (simp; done) | (simp; omega) | omega))⟩
    | true =>
      have hc : chB c = false := by unfold trOk at hok; rw [hd] at hok; simpa using hok
      clear hok
      go_enter Try.func36, Try.ntmps36
      go_wp2_with (first
        | (go_at_call 55; refine (isFromTo_calls _ _ _ _).mono ?_; rintro e w' ⟨rfl, hw⟩; rw [hw]; clear hw w'; rw [hd])
        | (go_at_call 51; refine (isChar_calls c _).mono ?_; rintro e w' ⟨rfl, hw⟩; rw [hw, hc]; clear hw w'))
      exact bodyPost_ret (v := .agg #[.int .i64 3, .int .i64 0]) (by simp [results, Try.results36, go_sem]) rfl ⟨rfl, (by repeat' (first | with_reducible exact Below.refl _ _ | with_reducible assumption | with_reducible refine Below.drew ?_ | with_reducible refine Below.alloc ?_ ?_ _ | with_reducible refine Below.setCell ?_ ?_ _ | (simp; done) | (simp; omega) | omega))⟩

end Go.Proofs.Ytlkabmgindbbmaa
