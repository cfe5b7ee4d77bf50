/-
  The result 'BytesResult' (a code and bytes): compared, marked, held; what EncodeChar answers, of the program and of the model.
-/
import Derived.Test.YtbeidafmnbjibabDoorRows
import Derived.Test.YtbeidafmnbjibabDoorChars
namespace Go.Proofs.YtbeidafmnbjibabDoor
open Go.ChangeShapes Go.WideShapes Go.ChangeAt Go.RowKit
set_option linter.unusedVariables false
set_option linter.unusedSimpArgs false


/-- What EncodeChar answers: its code, its bytes. -/
def encCode (c : Int) : Int := if chB c = true then 0 else 3
def encBytes (c : Int) : List Int := if chB c = true then encL c else []

theorem chB_bounds {c : Int} (h : chB c = true) : 0 ≤ c ∧ c ≤ 65535 := by unfold chB at h; simp at h; omega
theorem encL_length (c : Int) : (encL c).length ≤ 3 := by unfold encL; split <;> (try split) <;> simp
theorem encBytes_length (c : Int) : (encBytes c).length ≤ 3 := by unfold encBytes; split <;> simp [encL_length]

end Go.Proofs.YtbeidafmnbjibabDoor
