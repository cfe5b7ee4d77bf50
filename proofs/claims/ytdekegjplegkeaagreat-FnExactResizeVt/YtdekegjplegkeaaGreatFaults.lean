/-
  What the decoder's fault functions answer, walked: toDecoder, impl.DecoderFault, spec.l1Fault, spec.DecoderFault.
-/
import Derived.Test.YtdekegjplegkeaaGreatRows
import Derived.WalkKit
import Derived.ProofKit
import Derived.OpenShut
import Derived.Below
import Derived.Handy
namespace Go.Proofs.YtdekegjplegkeaaGreat
set_option maxRecDepth 20000
open Go.ChangeShapes Go.WideShapes Go.ChangeAt Go.RowKit
set_option linter.unusedVariables false
set_option linter.unusedSimpArgs false

/-- What a decoder's fault is: 0 or 3. -/
def dfault (l lo v : Int) : Int := if (l = 0 ∧ lo = 0 ∧ v = 0) ∨ (l = 1 ∧ lo = 128 ∧ 2 ≤ v ∧ v ≤ 31) ∨ (l = 2 ∧ lo = 2048 ∧ 0 ≤ v ∧ v ≤ 15) ∨ (l = 1 ∧ lo = 2048 ∧ 0 ≤ v ∧ v ≤ 1023) then 0 else 3

theorem dfault_cases (l lo v : Int) : dfault l lo v = 0 ∨ dfault l lo v = 3 := by unfold dfault; split <;> simp
theorem dfault_pos (l lo v : Int) (h : dfault l lo v = 0) : 0 ≤ l ∧ l ≤ 2 ∧ 0 ≤ lo ∧ lo ≤ 2048 ∧ 0 ≤ v ∧ v ≤ 1023 := by
  unfold dfault at h; split at h
  · omega
  · cases h

theorem ret_int {k : IntKind} {a b : Int} (h : a = b) : Ending.returned (.int k a) = .returned (.int k b) := by rw [h]

set_option maxHeartbeats 400000 in
theorem toDecoder_calls (l lo v : Int) (w : World) :
    Calls Tryz.prog 67 #[.agg #[.int .i64 l, .int .i64 lo, .int .i64 v]] w fun e w' => e = .returned (.agg #[.int .i64 l, .int .i64 lo, .int .i64 v]) ∧ Below w.heap.size w w' := by
  go_enter Tryz.func67, Tryz.ntmps67
  go_wp2
  refine bodyPost_ret (v := .agg #[.int .i64 l, .int .i64 lo, .int .i64 v]) (by simp [results, Tryz.results67, go_sem]) rfl ⟨rfl, ?_⟩
  exact (by repeat' (first | with_reducible exact Below.refl _ _ | with_reducible assumption | with_reducible refine Below.drew ?_ | with_reducible refine Below.alloc ?_ ?_ _ | with_reducible refine Below.setCell ?_ ?_ _ | (simp; done) | (simp; omega) | omega))

set_option maxHeartbeats 400000 in
theorem implFault_calls (l lo v : Int) (w : World) :
    Calls Tryz.prog 124 #[.agg #[.int .i64 l, .int .i64 lo, .int .i64 v]] w fun e w' => e = .returned (.int .i64 (dfault l lo v)) ∧ Below w.heap.size w w' := by
  go_enter Tryz.func124, Tryz.ntmps124
  go_wp2
  all_goals go_ret
  all_goals refine ⟨ret_int ?_, (by repeat' (first | with_reducible exact Below.refl _ _ | with_reducible assumption | with_reducible refine Below.drew ?_ | with_reducible refine Below.alloc ?_ ?_ _ | with_reducible refine Below.setCell ?_ ?_ _ | (simp; done) | (simp; omega) | omega))⟩
  all_goals (try simp only [beq_iff_eq, beq_eq_false_iff_ne, bne_iff_ne, ne_eq, Bool.not_eq_true', Bool.not_eq_false', Bool.not_eq_true, Bool.not_eq_false, decide_eq_true_eq, decide_eq_false_iff_not] at *)
  all_goals (unfold dfault; split <;> omega)

set_option maxHeartbeats 400000 in
theorem l1Fault_calls (l lo v : Int) (b off : Nat) (w : World) (h0 : w.cell? ⟨b, off, none⟩ = some (.int .i64 l)) (h1 : w.cell? ⟨b, off + 1, none⟩ = some (.int .i64 lo)) (h2 : w.cell? ⟨b, off + 2, none⟩ = some (.int .i64 v)) :
    Calls Tryz.prog 119 #[.pointer (some ⟨b, off, none⟩)] w fun e w' => e = .returned (.int .i64 (dfault l lo v)) ∧ w' = w := by
  go_enter Tryz.func119, Tryz.ntmps119
  go_wp2
  all_goals go_ret
  all_goals refine ⟨ret_int ?_, rfl⟩
  all_goals (try simp only [beq_iff_eq, beq_eq_false_iff_ne, bne_iff_ne, ne_eq, Bool.not_eq_true', Bool.not_eq_false', Bool.not_eq_true, Bool.not_eq_false, decide_eq_true_eq, decide_eq_false_iff_not] at *)
  all_goals (unfold dfault; split <;> omega)


end Go.Proofs.YtdekegjplegkeaaGreat
