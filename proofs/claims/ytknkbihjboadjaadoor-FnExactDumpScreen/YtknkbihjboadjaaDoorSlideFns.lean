/-
  impl.slide, walked: towards the last place (by less than all, by all or more), towards the first one (by none, by less than all, by all or more).
-/
import Derived.Test.YtknkbihjboadjaaDoorSheetFns
namespace Go.Proofs.YtknkbihjboadjaaDoor
set_option maxRecDepth 20000
open Go.ChangeShapes Go.WideShapes Go.ChangeAt Go.RowKit
set_option linter.unusedVariables false
set_option linter.unusedSimpArgs false
set_option maxRecDepth 20000

theorem cell_size2 : (Tryd.prog.info? 65).map (·.size) = some 2 := by kernel_rfl

/-- What a list holds that was slid by n places towards its first one. -/
def slideF (L : Nat) (n : Int) (f : Nat → Int × Int) (bl : Int × Int) (j : Nat) : Int × Int := if 0 ≤ (j : Int) + n ∧ (j : Int) + n < L then f ((j : Int) + n).toNat else bl

end Go.Proofs.YtknkbihjboadjaaDoor
