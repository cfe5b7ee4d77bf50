/-
  Numbers within bounds, characters that are shown: isFromTo, l1In, isShown, walked.
-/
import Derived.Test.YtbeidafmnbjibabDoorRows
import Derived.Test.YtbeidafmnbjibabDoorChars
import Derived.WalkKit
import Derived.ProofKit
import Derived.OpenShut
import Derived.Below
import Derived.OwnWalk
import Derived.WalkSpells
namespace Go.Proofs.YtbeidafmnbjibabDoor
open Go.ChangeShapes Go.WideShapes Go.ChangeAt Go.RowKit
set_option linter.unusedVariables false
set_option linter.unusedSimpArgs false

theorem wrap_small {n : Int} (h1 : -1000000000 ≤ n) (h2 : n ≤ 1000000000) : IntKind.i64.wrap n = n := by
  rw [IntKind.wrap_i64]; omega

set_option maxHeartbeats 400000 in
theorem isFromTo_calls (n lo hi : Int) (w : World) :
    Calls Tryd.prog 32 #[.int .i64 n, .int .i64 lo, .int .i64 hi] w fun e w' => e = .returned (.bool (decide (lo ≤ n ∧ n ≤ hi))) ∧ w' = w := by
  go_enter Tryd.func32, Tryd.ntmps32
  go_wp2
  all_goals go_ret
  all_goals refine ⟨ret_bool ?_, rfl⟩
  all_goals (rw [Bool.eq_iff_iff]; simp; try omega)

set_option maxHeartbeats 400000 in
theorem l1In_calls (n lo hi : Int) (w : World) :
    Calls Tryd.prog 29 #[.int .i64 n, .int .i64 lo, .int .i64 hi] w fun e w' => e = .returned (.bool (decide (lo ≤ n ∧ n ≤ hi))) ∧ w' = w := by
  go_enter Tryd.func29, Tryd.ntmps29
  go_wp2
  all_goals go_ret
  all_goals refine ⟨ret_bool ?_, rfl⟩
  all_goals (rw [Bool.eq_iff_iff]; simp; try omega)
/-- A character that is shown: 32 on, but 127. -/
def shB (c : Int) : Bool := chB c && (decide (32 ≤ c) && decide (c ≠ 127))
set_option maxHeartbeats 400000 in
theorem isShown_calls (c : Int) (w : World) :
    Calls Tryd.prog 31 #[.int .i64 c] w fun e w' => e = .returned (.bool (shB c)) ∧ w' = w := by
  unfold shB
  cases h1 : chB c with
  | false =>
    go_enter Tryd.func31, Tryd.ntmps31
    go_wp2_with (first
      | (go_at_call 37; refine (isChar_calls c _).mono ?_; rintro e w' ⟨rfl, hw⟩; rw [hw, h1]; clear hw w'))
    go_ret
    exact ⟨rfl, rfl⟩
  | true =>
    by_cases h2 : 32 ≤ c
    · by_cases h3 : c = 127
      · subst h3
        go_enter Tryd.func31, Tryd.ntmps31
        go_wp2_with (first
          | (go_at_call 37; refine (isChar_calls 127 _).mono ?_; rintro e w' ⟨rfl, hw⟩; rw [hw, h1]; clear hw w'))
        go_ret
        exact ⟨rfl, rfl⟩
      · have h3' : (c != 127) = true := by simpa using h3
        go_enter Tryd.func31, Tryd.ntmps31
        go_wp2_with (first
          | (go_at_call 37; refine (isChar_calls c _).mono ?_; rintro e w' ⟨rfl, hw⟩; rw [hw, h1]; clear hw w'))
        go_ret
        refine ⟨ret_bool ?_, rfl⟩
        simp [h2, h3]
    · go_enter Tryd.func31, Tryd.ntmps31
      go_wp2_with (first
        | (go_at_call 37; refine (isChar_calls c _).mono ?_; rintro e w' ⟨rfl, hw⟩; rw [hw, h1]; clear hw w'))
      go_ret
      refine ⟨ret_bool ?_, rfl⟩
      simp [h2]; omega
end Go.Proofs.YtbeidafmnbjibabDoor
