/-
  The result 'BytesResult' (a code and bytes): compared, marked, held; what EncodeChar answers, of the program and of the model.
-/
import Derived.Test.YtcfechnkgefhcaaDoorRows
import Derived.Test.YtcfechnkgefhcaaDoorChars
namespace Go.Proofs.YtcfechnkgefhcaaDoor
set_option maxRecDepth 20000
open Go.ChangeShapes Go.WideShapes Go.ChangeAt Go.RowKit
set_option linter.unusedVariables false
set_option linter.unusedSimpArgs false


/-- What EncodeChar answers: its code, its bytes. -/
def encCode (c : Int) : Int := if chB c = true then 0 else 3
def encBytes (c : Int) : List Int := if chB c = true then encL c else []

theorem chB_bounds {c : Int} (h : chB c = true) : 0 ≤ c ∧ c ≤ 65535 := by unfold chB at h; simp at h; omega
theorem encL_length (c : Int) : (encL c).length ≤ 3 := by unfold encL; split <;> (try split) <;> simp
theorem encBytes_length (c : Int) : (encBytes c).length ≤ 3 := by unfold encBytes; split <;> simp [encL_length]

set_option maxHeartbeats 400000 in
theorem implEncodeChar_calls (c : Int) (w : World) :
    Calls Tryd.prog 27 #[.int .i64 c] w fun e w' => ∃ x, e = .returned (.agg #[.int .i64 (encCode c), x]) ∧ IntsAt .u8 w.heap.size w'.heap.size w' x (encBytes c) ∧ Below w.heap.size w w' := by
  cases hc : chB c with
  | false =>
    have e1 : encCode c = 3 := by unfold encCode; simp [hc]
    have e2 : encBytes c = [] := by unfold encBytes; simp [hc]
    rw [e1, e2]
    clear e1 e2
    go_enter Tryd.func27, Tryd.ntmps27
    go_wp2_with fail
    refine (isChar_calls c _).mono ?_
    rintro e w' ⟨rfl, hw⟩
    rw [hw, hc]
    clear hw w'
    go_wp2
    exact bodyPost_ret (v := .agg #[.int .i64 3, .slice none 0 0]) (by simp [results, Tryd.results27, go_sem]) rfl ⟨_, rfl, IntsAt.nil _ _ _ _ _ _, (by repeat' (first | with_reducible exact Below.refl _ _ | with_reducible assumption | with_reducible refine Below.drew ?_ | with_reducible refine Below.alloc ?_ ?_ _ | with_reducible refine Below.setCell ?_ ?_ _ | (simp; done) | (simp; omega) | omega))⟩
  | true =>
    have hbd := chB_bounds hc
    obtain ⟨h0, h1⟩ := hbd
    have e1 : encCode c = 0 := by unfold encCode; simp [hc]
    have e2 : encBytes c = encL c := by unfold encBytes; simp [hc]
    rw [e1, e2]
    clear e1 e2
    go_enter Tryd.func27, Tryd.ntmps27
    go_wp2_with fail
    refine (isChar_calls c _).mono ?_
    rintro e w' ⟨rfl, hw⟩
    rw [hw, hc]
    clear hw w'
    go_wp2_with fail
    refine (appendChar_calls c (w.heap.size + 1) 0 _ [] _ h0 h1 (by omega) (by simp) (World.ownsRow_nil _ _ _ _)).mono ?_
    rintro e w1 ⟨x, rfl, hx0, hb⟩
    have hx : IntsAt .u8 (w.heap.size + 1) w1.heap.size w1 x (encL c) := own_ints (by simpa [byteVs] using hx0) (Nat.le_refl _)
    clear hx0
    obtain ⟨hcl, hfz⟩ := bcell (hb.mono (by simp))
    have hs : w.heap.size < w1.heap.size := by have := hb.size; simp at this; omega
    have hbw : Below w.heap.size w w1 := ((by repeat' (first | with_reducible exact Below.refl _ _ | with_reducible assumption | with_reducible refine Below.drew ?_ | with_reducible refine Below.alloc ?_ ?_ _ | with_reducible refine Below.setCell ?_ ?_ _ | (simp; done) | (simp; omega) | omega)) : Below w.heap.size w _).trans (hb.mono (by simp))
    have hx' := hx
    obtain ⟨a, cap, rfl, _⟩ := hx'
    go_wp2
    refine bodyPost_ret (v := .agg #[.int .i64 0, .slice a (encL c).length cap]) (by simp [results, Tryd.results27, go_sem, hcl, hs]) rfl ⟨_, rfl, ?_, (by repeat' (first | with_reducible exact Below.refl _ _ | with_reducible assumption | with_reducible refine Below.drew ?_ | with_reducible refine Below.alloc ?_ ?_ _ | with_reducible refine Below.setCell ?_ ?_ _ | (simp; done) | (simp; omega) | omega))⟩
    refine hx.of_blocks ?_ |>.mono (by omega) (by simp)
    intro i hi _
    simp only [World.setCell, Array.getElem?_modify]
    rw [if_neg (by omega), if_neg (by omega)]

end Go.Proofs.YtcfechnkgefhcaaDoor
