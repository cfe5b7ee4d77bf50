/-
  Accents: impl.AccentChar, spec.AccentChar; impl.ComposeChar (the table of letters), spec.l8Compose, ComposeChar.
-/
import Derived.Test.YtcfechnkgefhcabDoorRows
import Derived.Test.YtcfechnkgefhcabDoorRangeFns
import Derived.Test.YtcfechnkgefhcabDoorChars
import Derived.Test.YtcfechnkgefhcabDoorBlk
import Derived.WalkKit
import Derived.ProofKit
import Derived.OpenShut
import Derived.Below
import Derived.OwnWalk
import Derived.WalkSpells
import Derived.Deep.QuietTactic
import Derived.BigQuiet
import Derived.Deep.RegionHeld
import Derived.Deep.RegionHeld3
namespace Go.Proofs.YtcfechnkgefhcabDoor
open Go.ChangeShapes Go.WideShapes Go.ChangeAt Go.RowKit
set_option linter.unusedVariables false
set_option linter.unusedSimpArgs false
set_option maxRecDepth 20000

def accB (a : Int) : Bool := decide (1 ≤ a ∧ a ≤ 3)
def accV (a : Int) : Int := if a = 1 then 96 else if a = 2 then 39 else if a = 3 then 34 else 0
def accCd (a : Int) : Int := if accB a = true then 0 else 3
set_option maxHeartbeats 400000 in
theorem accent_calls (c : Int) (w : World) :
    Calls Tryd.prog 10 #[.int .i64 c] w fun e w' => e = .returned (.bool (accB c)) ∧ w' = w := by
  go_enter Tryd.func10, Tryd.ntmps10
  go_wp2_with (go_at_call 12; refine (isFromTo_calls c 1 3 _).mono ?_; rintro e w' ⟨rfl, hw⟩; rw [hw]; clear hw w')
  go_ret
  exact ⟨ret_bool (by simp [accB]), rfl⟩
theorem in13_calls' (c : Int) : decide (1 ≤ c ∧ c ≤ 3) = accB c := rfl
theorem acc_cases {a : Int} (h : accB a = true) : a = 1 ∨ a = 2 ∨ a = 3 := by unfold accB at h; simp at h; omega
theorem accV_out {a : Int} (h : accB a = false) : accV a = 0 := by
  unfold accB at h; simp at h; unfold accV
  rw [if_neg (by omega), if_neg (by omega), if_neg (by omega)]
set_option maxHeartbeats 400000 in
theorem eqIntRes_calls (c x : Int) (w : World) :
    Calls Tryd.prog 6 #[.agg #[.int .i64 c, .int .i64 x], .agg #[.int .i64 c, .int .i64 x]] w fun e w' => e = .returned (.bool true) ∧ Below w.heap.size w w' := by
  have h1 : (c != c) = false := by simp
  have h2 : (x != x) = false := by simp
  go_enter Tryd.func6, Tryd.ntmps6
  go_wp2
  go_ret
  exact ⟨rfl, (by repeat' (first | with_reducible exact Below.refl _ _ | with_reducible assumption | with_reducible refine Below.drew ?_ | with_reducible refine Below.alloc ?_ ?_ _ | with_reducible refine Below.setCell ?_ ?_ _ | (simp; done) | (simp; omega) | omega))⟩
end Go.Proofs.YtcfechnkgefhcabDoor
