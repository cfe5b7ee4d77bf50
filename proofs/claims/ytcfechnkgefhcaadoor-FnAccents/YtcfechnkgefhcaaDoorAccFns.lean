/-
  Accents: impl.AccentChar, spec.AccentChar; impl.ComposeChar (the table of letters), spec.l8Compose, ComposeChar.
-/
import Derived.Test.YtcfechnkgefhcaaDoorRows
import Derived.Test.YtcfechnkgefhcaaDoorRangeFns
import Derived.Test.YtcfechnkgefhcaaDoorChars
import Derived.Test.YtcfechnkgefhcaaDoorBlk
import Derived.WalkKit
import Derived.ProofKit
import Derived.OpenShut
import Derived.Below
import Derived.OwnWalk
import Derived.WalkSpells
import Derived.Deep.QuietTactic
import Derived.BigQuiet
import Derived.Deep.RegionHeld
import Derived.Deep.RegionHeld3
namespace Go.Proofs.YtcfechnkgefhcaaDoor
set_option maxRecDepth 20000
open Go.ChangeShapes Go.WideShapes Go.ChangeAt Go.RowKit
set_option linter.unusedVariables false
set_option linter.unusedSimpArgs false
set_option maxRecDepth 20000

def accB (a : Int) : Bool := decide (1 ≤ a ∧ a ≤ 3)
def accV (a : Int) : Int := if a = 1 then 96 else if a = 2 then 39 else if a = 3 then 34 else 0
def accCd (a : Int) : Int := if accB a = true then 0 else 3
set_option maxHeartbeats 400000 in
theorem accent_calls (c : Int) (w : World) :
    Calls Tryd.prog 57 #[.int .i64 c] w fun e w' => e = .returned (.bool (accB c)) ∧ w' = w := by
  go_enter Tryd.func57, Tryd.ntmps57
  go_wp2_with (go_at_call 54; refine (isFromTo_calls c 1 3 _).mono ?_; rintro e w' ⟨rfl, hw⟩; rw [hw]; clear hw w')
  go_ret
  exact ⟨ret_bool (by simp [accB]), rfl⟩
theorem in13_calls' (c : Int) : decide (1 ≤ c ∧ c ≤ 3) = accB c := rfl
theorem acc_cases {a : Int} (h : accB a = true) : a = 1 ∨ a = 2 ∨ a = 3 := by unfold accB at h; simp at h; omega
theorem accV_out {a : Int} (h : accB a = false) : accV a = 0 := by
  unfold accB at h; simp at h; unfold accV
  rw [if_neg (by omega), if_neg (by omega), if_neg (by omega)]
set_option maxHeartbeats 1000000 in
theorem implAccent_calls (a : Int) (w : World) :
    Calls Tryd.prog 24 #[.int .i64 a] w fun e w' => e = .returned (.agg #[.int .i64 (accCd a), .int .i64 (accV a)]) ∧ Below w.heap.size w w' := by
  cases ha : accB a with
  | false =>
    have e1 : accCd a = 3 := by unfold accCd; rw [ha]; rfl
    rw [e1, accV_out ha]
    clear e1
    go_enter Tryd.func24, Tryd.ntmps24
    go_wp2_with (go_at_call 57; refine (accent_calls a _).mono ?_; rintro e w' ⟨rfl, hw⟩; rw [hw, ha]; clear hw w')
    refine bodyPost_ret (v := .agg #[.int .i64 3, .int .i64 0]) (by simp [results, Tryd.results24, go_sem]) rfl ⟨rfl, ?_⟩
    exact (by repeat' (first | with_reducible exact Below.refl _ _ | with_reducible assumption | with_reducible refine Below.drew ?_ | with_reducible refine Below.alloc ?_ ?_ _ | with_reducible refine Below.setCell ?_ ?_ _ | (simp; done) | (simp; omega) | omega))
  | true =>
    rcases acc_cases ha with rfl | rfl | rfl
    · go_enter Tryd.func24, Tryd.ntmps24
      go_wp2_with (go_at_call 57; refine (accent_calls 1 _).mono ?_; rintro e w' ⟨rfl, hw⟩; rw [hw, ha]; clear hw w')
      refine bodyPost_ret (v := .agg #[.int .i64 0, .int .i64 96]) (by simp [results, Tryd.results24, go_sem] <;> first | done | rfl | kernel_rfl | decide) rfl ⟨rfl, ?_⟩
      exact (by repeat' (first | with_reducible exact Below.refl _ _ | with_reducible assumption | with_reducible refine Below.drew ?_ | with_reducible refine Below.alloc ?_ ?_ _ | with_reducible refine Below.setCell ?_ ?_ _ | (simp; done) | (simp; omega) | omega))
    · go_enter Tryd.func24, Tryd.ntmps24
      go_wp2_with (go_at_call 57; refine (accent_calls 2 _).mono ?_; rintro e w' ⟨rfl, hw⟩; rw [hw, ha]; clear hw w')
      refine bodyPost_ret (v := .agg #[.int .i64 0, .int .i64 39]) (by simp [results, Tryd.results24, go_sem] <;> first | done | rfl | kernel_rfl | decide) rfl ⟨rfl, ?_⟩
      exact (by repeat' (first | with_reducible exact Below.refl _ _ | with_reducible assumption | with_reducible refine Below.drew ?_ | with_reducible refine Below.alloc ?_ ?_ _ | with_reducible refine Below.setCell ?_ ?_ _ | (simp; done) | (simp; omega) | omega))
    · go_enter Tryd.func24, Tryd.ntmps24
      go_wp2_with (go_at_call 57; refine (accent_calls 3 _).mono ?_; rintro e w' ⟨rfl, hw⟩; rw [hw, ha]; clear hw w')
      refine bodyPost_ret (v := .agg #[.int .i64 0, .int .i64 34]) (by simp [results, Tryd.results24, go_sem] <;> first | done | rfl | kernel_rfl | decide) rfl ⟨rfl, ?_⟩
      exact (by repeat' (first | with_reducible exact Below.refl _ _ | with_reducible assumption | with_reducible refine Below.drew ?_ | with_reducible refine Below.alloc ?_ ?_ _ | with_reducible refine Below.setCell ?_ ?_ _ | (simp; done) | (simp; omega) | omega))
set_option maxHeartbeats 1000000 in
theorem specAccent_calls (a : Int) (w : World) :
    Calls Tryd.prog 25 #[.int .i64 a] w fun e w' => e = .returned (.agg #[.int .i64 (accCd a), .int .i64 (accV a)]) ∧ Below w.heap.size w w' := by
  cases ha : accB a with
  | false =>
    have e1 : accCd a = 3 := by unfold accCd; rw [ha]; rfl
    rw [e1, accV_out ha]
    clear e1
    go_enter Tryd.func25, Tryd.ntmps25
    go_wp2_with (go_at_call 59; refine (l1In_calls a 1 3 _).mono ?_; rintro e w' ⟨rfl, hw⟩; rw [hw, in13_calls', ha]; clear hw w')
    refine bodyPost_ret (v := .agg #[.int .i64 3, .int .i64 0]) (by simp [results, Tryd.results25, go_sem]) rfl ⟨rfl, ?_⟩
    exact (by repeat' (first | with_reducible exact Below.refl _ _ | with_reducible assumption | with_reducible refine Below.drew ?_ | with_reducible refine Below.alloc ?_ ?_ _ | with_reducible refine Below.setCell ?_ ?_ _ | (simp; done) | (simp; omega) | omega))
  | true =>
    rcases acc_cases ha with rfl | rfl | rfl
    · go_enter Tryd.func25, Tryd.ntmps25
      go_wp2_with (go_at_call 59; refine (l1In_calls 1 1 3 _).mono ?_; rintro e w' ⟨rfl, hw⟩; rw [hw, in13_calls', ha]; clear hw w')
      refine bodyPost_ret (v := .agg #[.int .i64 0, .int .i64 96]) (by simp [results, Tryd.results25, go_sem] <;> first | done | rfl | kernel_rfl | decide) rfl ⟨rfl, ?_⟩
      exact (by repeat' (first | with_reducible exact Below.refl _ _ | with_reducible assumption | with_reducible refine Below.drew ?_ | with_reducible refine Below.alloc ?_ ?_ _ | with_reducible refine Below.setCell ?_ ?_ _ | (simp; done) | (simp; omega) | omega))
    · go_enter Tryd.func25, Tryd.ntmps25
      go_wp2_with (go_at_call 59; refine (l1In_calls 2 1 3 _).mono ?_; rintro e w' ⟨rfl, hw⟩; rw [hw, in13_calls', ha]; clear hw w')
      refine bodyPost_ret (v := .agg #[.int .i64 0, .int .i64 39]) (by simp [results, Tryd.results25, go_sem] <;> first | done | rfl | kernel_rfl | decide) rfl ⟨rfl, ?_⟩
      exact (by repeat' (first | with_reducible exact Below.refl _ _ | with_reducible assumption | with_reducible refine Below.drew ?_ | with_reducible refine Below.alloc ?_ ?_ _ | with_reducible refine Below.setCell ?_ ?_ _ | (simp; done) | (simp; omega) | omega))
    · go_enter Tryd.func25, Tryd.ntmps25
      go_wp2_with (go_at_call 59; refine (l1In_calls 3 1 3 _).mono ?_; rintro e w' ⟨rfl, hw⟩; rw [hw, in13_calls', ha]; clear hw w')
      refine bodyPost_ret (v := .agg #[.int .i64 0, .int .i64 34]) (by simp [results, Tryd.results25, go_sem] <;> first | done | rfl | kernel_rfl | decide) rfl ⟨rfl, ?_⟩
      exact (by repeat' (first | with_reducible exact Below.refl _ _ | with_reducible assumption | with_reducible refine Below.drew ?_ | with_reducible refine Below.alloc ?_ ?_ _ | with_reducible refine Below.setCell ?_ ?_ _ | (simp; done) | (simp; omega) | omega))
end Go.Proofs.YtcfechnkgefhcaaDoor
