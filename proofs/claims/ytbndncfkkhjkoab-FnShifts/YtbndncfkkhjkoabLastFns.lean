/-
  The last rows of a sheet: impl's last, walked.
-/
import Derived.Test.YtbndncfkkhjkoabSheetFns
import Derived.Test.YtbndncfkkhjkoabResMem
namespace Go.Proofs.Ytbndncfkkhjkoab
set_option maxRecDepth 20000
open Go.ChangeShapes Go.WideShapes Go.ChangeAt Go.RowKit
set_option linter.unusedVariables false
set_option linter.unusedSimpArgs false
set_option maxRecDepth 20000


end Go.Proofs.Ytbndncfkkhjkoab
