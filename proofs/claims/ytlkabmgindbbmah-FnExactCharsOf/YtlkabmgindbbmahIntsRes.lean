/-
  The result 'IntsResult' (a code and a list): compared, marked, held.
-/
import Derived.Test.YtlkabmgindbbmahRows
import Derived.Test.YtlkabmgindbbmahMem
import Derived.Test.YtlkabmgindbbmahRowFns
namespace Go.Proofs.Ytlkabmgindbbmah
open Go.ChangeShapes Go.WideShapes Go.ChangeAt Go.RowKit
set_option linter.unusedVariables false
set_option linter.unusedSimpArgs false

set_option maxHeartbeats 400000 in
theorem eqIntsResult_calls (c : Int) (xs : List Int) (v1 v2 : Value) (w : World) (hn : xs.length ≤ 1000000000) (h1 : ReadAt .i64 w v1 xs) (h2 : ReadAt .i64 w v2 xs) :
    Calls Try.prog 25 #[.agg #[.int .i64 c, v1], .agg #[.int .i64 c, v2]] w fun e w' => e = .returned (.bool true) ∧ Below w.heap.size w w' := by
  obtain ⟨a1, c1, rfl, h1⟩ := h1
  obtain ⟨a2, c2, rfl, h2⟩ := h2
  have hne : (c != c) = false := by simp
  go_enter Try.func25, Try.ntmps25
  go_wp2_with fail
  have hb : Below w.heap.size w ((w.alloc (.cells #[.int .i64 c, .slice a1 xs.length c1] 50)).alloc (.cells #[.int .i64 c, .slice a2 xs.length c2] 50)) := (by repeat' (first | with_reducible exact Below.refl _ _ | with_reducible assumption | with_reducible refine Below.drew ?_ | with_reducible refine Below.alloc ?_ ?_ _ | with_reducible refine Below.setCell ?_ ?_ _ | (simp; done) | (simp; omega) | omega))
  refine (eqInts_calls xs _ _ _ hn (ReadAt.below ⟨a1, c1, rfl, h1⟩ hb) (ReadAt.below ⟨a2, c2, rfl, h2⟩ hb)).mono ?_
  rintro e w1 ⟨rfl, n, rfl⟩
  go_wp2
  go_ret
  exact ⟨rfl, below_drewN hb n⟩

set_option maxHeartbeats 400000 in
theorem markIntsResult_calls (c : Int) (xs : List Int) (k0 : Int) (lo hi : Nat) (v : Value) (w : World) (hn : xs.length ≤ 1000000000) (hk : 0 ≤ k0) (hk0 : k0 ≤ 1000000000) (hh : hi ≤ w.heap.size) (h1 : IntsAt .i64 lo hi w v xs) :
    Calls Try.prog 26 #[.agg #[.int .i64 c, v], .int .i64 k0] w fun e w' => e = .returned (.int .i64 (k0 + xs.length)) ∧ IntsAt .i64 lo hi w' v (marks k0 xs.length) ∧ Within lo hi w w' := by
  have h1' := h1
  obtain ⟨a1, c1, rfl, _⟩ := h1'
  go_enter Try.func26, Try.ntmps26
  go_wp2_with fail
  refine (markInts_calls xs k0 lo hi _ _ hn hk hk0 (h1.alloc hh _)).mono ?_
  rintro e w1 ⟨rfl, hm, hw⟩
  go_wp2
  go_ret
  exact ⟨rfl, hm, (Within.of_below ((Below.refl _ _).alloc (Nat.le_refl _) _) (Nat.le_refl _)).trans hw⟩

set_option maxHeartbeats 400000 in
theorem heldIntsResult_calls (c : Int) (xs : List Int) (k0 : Int) (v : Value) (w : World) (hn : xs.length ≤ 1000000000) (hk : 0 ≤ k0) (hk0 : k0 ≤ 1000000000) (h1 : ReadAt .i64 w v xs) (hm : ∀ i, i < xs.length → xs.getD i 0 = (k0 + i : Int)) :
    Calls Try.prog 27 #[.agg #[.int .i64 c, v], .int .i64 k0] w fun e w' => e = .returned (.int .i64 (k0 + xs.length)) ∧ Below w.heap.size w w' := by
  have h1' := h1
  obtain ⟨a1, c1, rfl, _⟩ := h1'
  have hb : Below w.heap.size w (w.alloc (.cells #[.int .i64 c, .slice a1 xs.length c1] 50)) := (by repeat' (first | with_reducible exact Below.refl _ _ | with_reducible assumption | with_reducible refine Below.drew ?_ | with_reducible refine Below.alloc ?_ ?_ _ | with_reducible refine Below.setCell ?_ ?_ _ | (simp; done) | (simp; omega) | omega))
  have HM : Hid (∀ i, i < xs.length → xs.getD i 0 = (k0 + i : Int)) := hm
  clear hm
  go_enter Try.func27, Try.ntmps27
  go_wp2_with fail
  refine (heldInts_calls xs k0 _ _ hn hk hk0 (h1.below hb) HM.out).mono ?_
  rintro e w1 ⟨rfl, rfl⟩
  go_wp2
  go_ret
  exact ⟨rfl, hb⟩

end Go.Proofs.Ytlkabmgindbbmah
