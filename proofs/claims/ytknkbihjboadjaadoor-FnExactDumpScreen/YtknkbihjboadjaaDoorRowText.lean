/-
  What impl.RowText answers.
-/
import Derived.Test.YtknkbihjboadjaaDoorScrFault2
import Derived.Test.YtknkbihjboadjaaDoorEncAll
import Derived.Test.YtknkbihjboadjaaDoorCopyFns3
import Derived.Test.YtknkbihjboadjaaDoorGridRes
import Derived.Test.YtknkbihjboadjaaDoorSheetFns
import Derived.Laws.BytesArg
namespace Go.Proofs.YtknkbihjboadjaaDoor
set_option maxRecDepth 20000
open Go.ChangeShapes Go.WideShapes Go.ChangeAt Go.RowKit
set_option linter.unusedVariables false
set_option linter.unusedSimpArgs false
set_option maxRecDepth 20000

/-- The characters of row y of a screen, their bytes; RowText's code and text. -/
def rowChars (s : Scr) (y : Int) : List Int := (List.range s.wd.toNat).map (fun i => (s.cs.getD ((y * s.wd).toNat + i) (0, 0)).1)
def rowOk (s : Scr) (y : Int) : Bool := decide (0 ≤ y ∧ y ≤ s.r - 1)
def rtCode (s : Scr) (y : Int) : Int := if scrCode s = 0 then (if rowOk s y = true then 0 else 3) else scrCode s
def rtText (s : Scr) (y : Int) : ByteArray := if scrCode s = 0 then (if rowOk s y = true then strOfNums ((rowChars s y).flatMap encL) else ⟨#[]⟩) else ⟨#[]⟩
theorem rowChars_length (s : Scr) (y : Int) : (rowChars s y).length = s.wd.toNat := by simp [rowChars]
theorem rowChars_get (s : Scr) (y : Int) (i : Nat) (h : i < s.wd.toNat) : (rowChars s y).getD i 0 = (s.cs.getD ((y * s.wd).toNat + i) (0, 0)).1 := by simp [rowChars, List.getD_eq_getElem?_getD, h]
theorem grid_of_scr {s : Scr} (h : scrCode s = 0) : gridCode s.r s.wd s.cs s.bs = 0 := by
  by_cases hg : gridCode s.r s.wd s.cs s.bs = 0
  · exact hg
  · rw [scr_grid hg] at h; exact absurd h hg
theorem cell_of_fine {r wd : Int} {cs bs : List (Int × Int)} (h : GFine r wd cs bs) (i : Nat) (hi : i < cs.length) : 0 ≤ (cs.getD i (0, 0)).1 ∧ (cs.getD i (0, 0)).1 ≤ 65535 := by
  have h1 := h.ok1
  unfold allC at h1
  rw [List.drop_zero, List.all_eq_true] at h1
  have h2 := h1 (cs.getD i (0, 0)) (by simp [List.getD_eq_getElem?_getD, hi])
  unfold cellB at h2
  simp only [Bool.and_eq_true] at h2
  exact chB_bounds h2.1
def grdR (s : Scr) (v1 v2 : Value) : Array Value := #[.int .i64 s.r, .int .i64 s.wd, v1, v2]
theorem scrA_grdR (s : Scr) (v1 v2 v3 v4 : Value) : ((scrA s v1 v2 v3 v4).toList.drop 0).take (grdR s v1 v2).size = (grdR s v1 v2).toList := rfl
end Go.Proofs.YtknkbihjboadjaaDoor
