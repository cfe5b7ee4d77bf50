/-
  The last rows of a sheet: impl's last, walked.
-/
import Derived.Test.YtknkbihjboadjaaSheetFns
import Derived.Test.YtknkbihjboadjaaResMem
namespace Go.Proofs.Ytknkbihjboadjaa
set_option maxRecDepth 20000
open Go.ChangeShapes Go.WideShapes Go.ChangeAt Go.RowKit
set_option linter.unusedVariables false
set_option linter.unusedSimpArgs false
set_option maxRecDepth 20000


end Go.Proofs.Ytknkbihjboadjaa
