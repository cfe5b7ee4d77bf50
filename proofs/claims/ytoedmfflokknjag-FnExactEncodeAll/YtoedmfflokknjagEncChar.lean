/-
  The result 'BytesResult' (a code and bytes): compared, marked, held; what EncodeChar answers, of the program and of the model.
-/
import Derived.Test.YtoedmfflokknjagRows
import Derived.Test.YtoedmfflokknjagByteFns
import Derived.Test.YtoedmfflokknjagChars
namespace Go.Proofs.Ytoedmfflokknjag
open Go.ChangeShapes Go.WideShapes Go.ChangeAt Go.RowKit
set_option linter.unusedVariables false
set_option linter.unusedSimpArgs false

set_option maxHeartbeats 400000 in
theorem eqBytesResult_calls (c : Int) (xs : List Int) (v1 v2 : Value) (w : World) (hn : xs.length ≤ 1000000000) (h1 : ReadAt .u8 w v1 xs) (h2 : ReadAt .u8 w v2 xs) :
    Calls Try.prog 21 #[.agg #[.int .i64 c, v1], .agg #[.int .i64 c, v2]] w fun e w' => e = .returned (.bool true) ∧ Below w.heap.size w w' := by
  obtain ⟨a1, c1, rfl, h1⟩ := h1
  obtain ⟨a2, c2, rfl, h2⟩ := h2
  have hne : (c != c) = false := by simp
  go_enter Try.func21, Try.ntmps21
  go_wp2_with fail
  have hb : Below w.heap.size w ((w.alloc (.cells #[.int .i64 c, .slice a1 xs.length c1] 40)).alloc (.cells #[.int .i64 c, .slice a2 xs.length c2] 40)) := (by repeat (first | exact Below.refl _ _ | assumption | refine Below.drew ?_ | refine Below.alloc ?_ (by first | (simp; done) | (simp; omega) | omega) _ | refine Below.setCell ?_ (by first | (simp; done) | (simp; omega) | omega) _))
  refine (eqBytes_calls xs _ _ _ hn (ReadAt.below ⟨a1, c1, rfl, h1⟩ hb) (ReadAt.below ⟨a2, c2, rfl, h2⟩ hb)).mono ?_
  rintro e w1 ⟨rfl, n, rfl⟩
  go_wp2
  go_ret
  exact ⟨rfl, below_drewN hb n⟩

set_option maxHeartbeats 400000 in
theorem markBytesResult_calls (c : Int) (xs : List Int) (k0 : Int) (lo hi : Nat) (v : Value) (w : World) (hn : xs.length ≤ 1000000000) (hk : 0 ≤ k0) (hk0 : k0 ≤ 1000000000) (hh : hi ≤ w.heap.size) (h1 : IntsAt .u8 lo hi w v xs) :
    Calls Try.prog 22 #[.agg #[.int .i64 c, v], .int .i64 k0] w fun e w' => e = .returned (.int .i64 (k0 + xs.length)) ∧ IntsAt .u8 lo hi w' v (marksB k0 xs.length) ∧ Within lo hi w w' := by
  have h1' := h1
  obtain ⟨a1, c1, rfl, _⟩ := h1'
  go_enter Try.func22, Try.ntmps22
  go_wp2_with fail
  refine (markBytes_calls xs k0 lo hi _ _ hn hk hk0 (h1.alloc hh _)).mono ?_
  rintro e w1 ⟨rfl, hm, hw⟩
  go_wp2
  go_ret
  exact ⟨rfl, hm, (Within.of_below ((Below.refl _ _).alloc (Nat.le_refl _) _) (Nat.le_refl _)).trans hw⟩

set_option maxHeartbeats 400000 in
theorem heldBytesResult_calls (c : Int) (xs : List Int) (k0 : Int) (v : Value) (w : World) (hn : xs.length ≤ 1000000000) (hk : 0 ≤ k0) (hk0 : k0 ≤ 1000000000) (h1 : ReadAt .u8 w v xs) (hm : ∀ i, i < xs.length → xs.getD i 0 = (k0 + i : Int) % 256) :
    Calls Try.prog 23 #[.agg #[.int .i64 c, v], .int .i64 k0] w fun e w' => e = .returned (.int .i64 (k0 + xs.length)) ∧ Below w.heap.size w w' := by
  have h1' := h1
  obtain ⟨a1, c1, rfl, _⟩ := h1'
  have hb : Below w.heap.size w (w.alloc (.cells #[.int .i64 c, .slice a1 xs.length c1] 40)) := (by repeat (first | exact Below.refl _ _ | assumption | refine Below.drew ?_ | refine Below.alloc ?_ (by first | (simp; done) | (simp; omega) | omega) _ | refine Below.setCell ?_ (by first | (simp; done) | (simp; omega) | omega) _))
  have HM : Hid (∀ i, i < xs.length → xs.getD i 0 = (k0 + i : Int) % 256) := hm
  clear hm
  go_enter Try.func23, Try.ntmps23
  go_wp2_with fail
  refine (heldBytes_calls xs k0 _ _ hn hk hk0 (h1.below hb) HM.out).mono ?_
  rintro e w1 ⟨rfl, rfl⟩
  go_wp2
  go_ret
  exact ⟨rfl, hb⟩

/-- What EncodeChar answers: its code, its bytes. -/
def encCode (c : Int) : Int := if chB c = true then 0 else 3
def encBytes (c : Int) : List Int := if chB c = true then encL c else []

theorem chB_bounds {c : Int} (h : chB c = true) : 0 ≤ c ∧ c ≤ 65535 := by unfold chB at h; simp at h; omega
theorem encL_length (c : Int) : (encL c).length ≤ 3 := by unfold encL; split <;> (try split) <;> simp
theorem encBytes_length (c : Int) : (encBytes c).length ≤ 3 := by unfold encBytes; split <;> simp [encL_length]

set_option maxHeartbeats 400000 in
theorem specEncodeChar_calls (c : Int) (w : World) :
    Calls Try.prog 19 #[.int .i64 c] w fun e w' => ∃ x, e = .returned (.agg #[.int .i64 (encCode c), x]) ∧ IntsAt .u8 w.heap.size w'.heap.size w' x (encBytes c) ∧ Below w.heap.size w w' := by
  cases hc : chB c with
  | false =>
    have e1 : encCode c = 3 := by unfold encCode; simp [hc]
    have e2 : encBytes c = [] := by unfold encBytes; simp [hc]
    rw [e1, e2]
    clear e1 e2
    go_enter Try.func19, Try.ntmps19
    go_wp2_with fail
    refine (l1Char_calls c _).mono ?_
    rintro e w' ⟨rfl, hw⟩
    rw [hw, hc]
    clear hw w'
    go_wp2
    exact bodyPost_ret (v := .agg #[.int .i64 3, .slice none 0 0]) (by simp [results, Try.results19, go_sem]) rfl ⟨_, rfl, IntsAt.nil _ _ _ _ _ _, (by repeat (first | exact Below.refl _ _ | assumption | refine Below.drew ?_ | refine Below.alloc ?_ (by first | (simp; done) | (simp; omega) | omega) _ | refine Below.setCell ?_ (by first | (simp; done) | (simp; omega) | omega) _))⟩
  | true =>
    have hbd := chB_bounds hc
    obtain ⟨h0, h1⟩ := hbd
    have e1 : encCode c = 0 := by unfold encCode; simp [hc]
    have e2 : encBytes c = encL c := by unfold encBytes; simp [hc]
    rw [e1, e2]
    clear e1 e2
    go_enter Try.func19, Try.ntmps19
    go_wp2_with fail
    refine (l1Char_calls c _).mono ?_
    rintro e w' ⟨rfl, hw⟩
    rw [hw, hc]
    clear hw w'
    go_wp2_with fail
    refine (l1Encode_calls c _ h0 h1).mono ?_
    rintro e w1 ⟨x, rfl, hx, hb⟩
    obtain ⟨hcl, hfz⟩ := bcell hb
    have hs : w.heap.size < w1.heap.size := by have := hb.size; simp at this; omega
    have hbw : Below w.heap.size w w1 := ((by repeat (first | exact Below.refl _ _ | assumption | refine Below.drew ?_ | refine Below.alloc ?_ (by first | (simp; done) | (simp; omega) | omega) _ | refine Below.setCell ?_ (by first | (simp; done) | (simp; omega) | omega) _)) : Below w.heap.size w _).trans (hb.mono (by simp))
    have hx' := hx
    obtain ⟨a, cap, rfl, _⟩ := hx'
    go_wp2
    refine bodyPost_ret (v := .agg #[.int .i64 0, .slice a (encL c).length cap]) (by simp [results, Try.results19, go_sem, hcl, hs]) rfl ⟨_, rfl, ?_, (by repeat (first | exact Below.refl _ _ | assumption | refine Below.drew ?_ | refine Below.alloc ?_ (by first | (simp; done) | (simp; omega) | omega) _ | refine Below.setCell ?_ (by first | (simp; done) | (simp; omega) | omega) _))⟩
    refine (hx.mono (lo' := w.heap.size + 1) (by simp) (Nat.le_refl _)).of_blocks ?_ |>.mono (by omega) (by simp)
    intro i hi _
    simp only [World.setCell, Array.getElem?_modify]
    rw [if_neg (by omega), if_neg (by omega)]

set_option maxHeartbeats 400000 in
theorem implEncodeChar_calls (c : Int) (w : World) :
    Calls Try.prog 20 #[.int .i64 c] w fun e w' => ∃ x, e = .returned (.agg #[.int .i64 (encCode c), x]) ∧ IntsAt .u8 w.heap.size w'.heap.size w' x (encBytes c) ∧ Below w.heap.size w w' := by
  cases hc : chB c with
  | false =>
    have e1 : encCode c = 3 := by unfold encCode; simp [hc]
    have e2 : encBytes c = [] := by unfold encBytes; simp [hc]
    rw [e1, e2]
    clear e1 e2
    go_enter Try.func20, Try.ntmps20
    go_wp2_with fail
    refine (isChar_calls c _).mono ?_
    rintro e w' ⟨rfl, hw⟩
    rw [hw, hc]
    clear hw w'
    go_wp2
    exact bodyPost_ret (v := .agg #[.int .i64 3, .slice none 0 0]) (by simp [results, Try.results20, go_sem]) rfl ⟨_, rfl, IntsAt.nil _ _ _ _ _ _, (by repeat (first | exact Below.refl _ _ | assumption | refine Below.drew ?_ | refine Below.alloc ?_ (by first | (simp; done) | (simp; omega) | omega) _ | refine Below.setCell ?_ (by first | (simp; done) | (simp; omega) | omega) _))⟩
  | true =>
    have hbd := chB_bounds hc
    obtain ⟨h0, h1⟩ := hbd
    have e1 : encCode c = 0 := by unfold encCode; simp [hc]
    have e2 : encBytes c = encL c := by unfold encBytes; simp [hc]
    rw [e1, e2]
    clear e1 e2
    go_enter Try.func20, Try.ntmps20
    go_wp2_with fail
    refine (isChar_calls c _).mono ?_
    rintro e w' ⟨rfl, hw⟩
    rw [hw, hc]
    clear hw w'
    go_wp2_with fail
    refine (appendChar_calls c (w.heap.size + 1) 0 _ [] _ h0 h1 (by omega) (by simp) (World.ownsRow_nil _ _ _ _)).mono ?_
    rintro e w1 ⟨x, rfl, hx0, hb⟩
    have hx : IntsAt .u8 (w.heap.size + 1) w1.heap.size w1 x (encL c) := own_ints (by simpa [byteVs] using hx0) (Nat.le_refl _)
    clear hx0
    obtain ⟨hcl, hfz⟩ := bcell (hb.mono (by simp))
    have hs : w.heap.size < w1.heap.size := by have := hb.size; simp at this; omega
    have hbw : Below w.heap.size w w1 := ((by repeat (first | exact Below.refl _ _ | assumption | refine Below.drew ?_ | refine Below.alloc ?_ (by first | (simp; done) | (simp; omega) | omega) _ | refine Below.setCell ?_ (by first | (simp; done) | (simp; omega) | omega) _)) : Below w.heap.size w _).trans (hb.mono (by simp))
    have hx' := hx
    obtain ⟨a, cap, rfl, _⟩ := hx'
    go_wp2
    refine bodyPost_ret (v := .agg #[.int .i64 0, .slice a (encL c).length cap]) (by simp [results, Try.results20, go_sem, hcl, hs]) rfl ⟨_, rfl, ?_, (by repeat (first | exact Below.refl _ _ | assumption | refine Below.drew ?_ | refine Below.alloc ?_ (by first | (simp; done) | (simp; omega) | omega) _ | refine Below.setCell ?_ (by first | (simp; done) | (simp; omega) | omega) _))⟩
    refine hx.of_blocks ?_ |>.mono (by omega) (by simp)
    intro i hi _
    simp only [World.setCell, Array.getElem?_modify]
    rw [if_neg (by omega), if_neg (by omega)]

end Go.Proofs.Ytoedmfflokknjag
