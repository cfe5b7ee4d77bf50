/-
  What EncodeAll answers, of the program and of the model.
-/
import Derived.Test.YtknkbihjboadjaaDoorRows
import Derived.Test.YtknkbihjboadjaaDoorEncChar
namespace Go.Proofs.YtknkbihjboadjaaDoor
set_option maxRecDepth 20000
open Go.ChangeShapes Go.WideShapes Go.ChangeAt Go.RowKit
set_option linter.unusedVariables false
set_option linter.unusedSimpArgs false

def encAllCode (zs : List Int) : Int := if 400 < zs.length then 2 else if zs.all chB = true then 0 else 3
def encAllBytes (zs : List Int) : List Int := if 400 < zs.length then [] else if zs.all chB = true then zs.flatMap encL else []
/-- The bytes of the first k. -/
def encTo (zs : List Int) (k : Nat) : List Int := (zs.take k).flatMap encL

theorem flat_length (zs : List Int) : (zs.flatMap encL).length ≤ 3 * zs.length := by
  induction zs with
  | nil => simp
  | cons z zs ih => have := encL_length z; rw [List.flatMap_cons, List.length_append, List.length_cons]; omega
theorem encTo_length (zs : List Int) (k : Nat) : (encTo zs k).length ≤ 3 * k := by
  have h := flat_length (zs.take k)
  have h2 : (zs.take k).length ≤ k := List.length_take_le _ _
  unfold encTo; omega
theorem take_snoc_int (zs : List Int) (k : Nat) (h : k < zs.length) : zs.take (k + 1) = zs.take k ++ [zs.getD k 0] := by
  rw [List.take_succ_eq_append_getElem h]
  simp [h]
theorem encTo_succ (zs : List Int) (k : Nat) (h : k < zs.length) : encTo zs (k + 1) = encTo zs k ++ encL (zs.getD k 0) := by
  unfold encTo; rw [take_snoc_int zs k h]; simp [List.flatMap_append]
theorem all_succ (zs : List Int) (k : Nat) (h : k < zs.length) (h1 : (zs.take k).all chB = true) (h2 : chB (zs.getD k 0) = true) : (zs.take (k + 1)).all chB = true := by
  rw [take_snoc_int zs k h, List.all_append, h1]
  simp only [List.all_cons, List.all_nil, h2, Bool.and_self]
theorem all_not (zs : List Int) (k : Nat) (h : k < zs.length) (h2 : chB (zs.getD k 0) = false) : zs.all chB = false := by
  rw [List.all_eq_false]
  refine ⟨zs.getD k 0, ?_, by rw [h2]; simp⟩
  simp [h]
theorem encAllBytes_length (zs : List Int) : (encAllBytes zs).length ≤ 1200 := by
  unfold encAllBytes
  split
  · simp
  · split
    · have := flat_length zs; omega
    · simp

theorem encL_ne (z : Int) : encL z ≠ [] := by unfold encL; split <;> (try split) <;> simp
theorem byteVs_append (a b : List Int) : byteVs (a ++ b) = byteVs a ++ byteVs b := by simp [byteVs]

theorem own_keep {w : World} {o : Obj} {w1 : World} (hb : Below (w.heap.size + 1) (w.alloc o) w1) : Below w.heap.size w w1 := ((Below.refl _ _).alloc (Nat.le_refl _) o).trans (hb.mono (by omega))

end Go.Proofs.YtknkbihjboadjaaDoor
