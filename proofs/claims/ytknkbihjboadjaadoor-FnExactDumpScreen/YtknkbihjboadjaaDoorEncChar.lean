/-
  The result 'BytesResult' (a code and bytes): compared, marked, held; what EncodeChar answers, of the program and of the model.
-/
import Derived.Test.YtknkbihjboadjaaDoorRows
import Derived.Test.YtknkbihjboadjaaDoorByteFns
import Derived.Test.YtknkbihjboadjaaDoorChars
namespace Go.Proofs.YtknkbihjboadjaaDoor
set_option maxRecDepth 20000
open Go.ChangeShapes Go.WideShapes Go.ChangeAt Go.RowKit
set_option linter.unusedVariables false
set_option linter.unusedSimpArgs false

set_option maxHeartbeats 400000 in
theorem eqBytesResult_calls (c : Int) (xs : List Int) (v1 v2 : Value) (w : World) (hn : xs.length ≤ 1000000000) (h1 : ReadAt .u8 w v1 xs) (h2 : ReadAt .u8 w v2 xs) :
    Calls Tryd.prog 10 #[.agg #[.int .i64 c, v1], .agg #[.int .i64 c, v2]] w fun e w' => e = .returned (.bool true) ∧ Below w.heap.size w w' := by
  obtain ⟨a1, c1, rfl, h1⟩ := h1
  obtain ⟨a2, c2, rfl, h2⟩ := h2
  have hne : (c != c) = false := by simp
  go_enter Tryd.func10, Tryd.ntmps10
  go_wp2_with fail
  have hb : Below w.heap.size w ((w.alloc (.cells #[.int .i64 c, .slice a1 xs.length c1] 32)).alloc (.cells #[.int .i64 c, .slice a2 xs.length c2] 32)) := (by repeat' (first | with_reducible exact Below.refl _ _ | with_reducible assumption | with_reducible refine Below.drew ?_ | with_reducible refine Below.alloc ?_ ?_ _ | with_reducible refine Below.setCell ?_ ?_ _ | (simp; done) | (simp; omega) | omega))
  refine (eqBytes_calls xs _ _ _ hn (ReadAt.below ⟨a1, c1, rfl, h1⟩ hb) (ReadAt.below ⟨a2, c2, rfl, h2⟩ hb)).mono ?_
  rintro e w1 ⟨rfl, n, rfl⟩
  go_wp2
  go_ret
  exact ⟨rfl, below_drewN hb n⟩

set_option maxHeartbeats 400000 in
theorem markBytesResult_calls (c : Int) (xs : List Int) (k0 : Int) (lo hi : Nat) (v : Value) (w : World) (hn : xs.length ≤ 1000000000) (hk : 0 ≤ k0) (hk0 : k0 ≤ 1000000000) (hh : hi ≤ w.heap.size) (h1 : IntsAt .u8 lo hi w v xs) :
    Calls Tryd.prog 13 #[.agg #[.int .i64 c, v], .int .i64 k0] w fun e w' => e = .returned (.int .i64 (k0 + xs.length)) ∧ IntsAt .u8 lo hi w' v (marksB k0 xs.length) ∧ Within lo hi w w' := by
  have h1' := h1
  obtain ⟨a1, c1, rfl, _⟩ := h1'
  go_enter Tryd.func13, Tryd.ntmps13
  go_wp2_with fail
  refine (markBytes_calls xs k0 lo hi _ _ hn hk hk0 (h1.alloc hh _)).mono ?_
  rintro e w1 ⟨rfl, hm, hw⟩
  go_wp2
  go_ret
  exact ⟨rfl, hm, (Within.of_below ((Below.refl _ _).alloc (Nat.le_refl _) _) (Nat.le_refl _)).trans hw⟩

set_option maxHeartbeats 400000 in
theorem heldBytesResult_calls (c : Int) (xs : List Int) (k0 : Int) (v : Value) (w : World) (hn : xs.length ≤ 1000000000) (hk : 0 ≤ k0) (hk0 : k0 ≤ 1000000000) (h1 : ReadAt .u8 w v xs) (hm : ∀ i, i < xs.length → xs.getD i 0 = (k0 + i : Int) % 256) :
    Calls Tryd.prog 14 #[.agg #[.int .i64 c, v], .int .i64 k0] w fun e w' => e = .returned (.int .i64 (k0 + xs.length)) ∧ Below w.heap.size w w' := by
  have h1' := h1
  obtain ⟨a1, c1, rfl, _⟩ := h1'
  have hb : Below w.heap.size w (w.alloc (.cells #[.int .i64 c, .slice a1 xs.length c1] 32)) := (by repeat' (first | with_reducible exact Below.refl _ _ | with_reducible assumption | with_reducible refine Below.drew ?_ | with_reducible refine Below.alloc ?_ ?_ _ | with_reducible refine Below.setCell ?_ ?_ _ | (simp; done) | (simp; omega) | omega))
  have HM : Hid (∀ i, i < xs.length → xs.getD i 0 = (k0 + i : Int) % 256) := hm
  clear hm
  go_enter Tryd.func14, Tryd.ntmps14
  go_wp2_with fail
  refine (heldBytes_calls xs k0 _ _ hn hk hk0 (h1.below hb) HM.out).mono ?_
  rintro e w1 ⟨rfl, rfl⟩
  go_wp2
  go_ret
  exact ⟨rfl, hb⟩

/-- What EncodeChar answers: its code, its bytes. -/
def encCode (c : Int) : Int := if chB c = true then 0 else 3
def encBytes (c : Int) : List Int := if chB c = true then encL c else []

theorem chB_bounds {c : Int} (h : chB c = true) : 0 ≤ c ∧ c ≤ 65535 := by unfold chB at h; simp at h; omega
theorem encL_length (c : Int) : (encL c).length ≤ 3 := by unfold encL; split <;> (try split) <;> simp
theorem encBytes_length (c : Int) : (encBytes c).length ≤ 3 := by unfold encBytes; split <;> simp [encL_length]

end Go.Proofs.YtknkbihjboadjaaDoor
