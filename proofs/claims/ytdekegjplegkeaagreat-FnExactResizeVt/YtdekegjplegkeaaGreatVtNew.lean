/-
  A new terminal: NewVt of the model and of the program.
-/
import Derived.Test.YtdekegjplegkeaaGreatScrNew2
import Derived.Test.YtdekegjplegkeaaGreatVtMark
namespace Go.Proofs.YtdekegjplegkeaaGreat
set_option maxRecDepth 20000
open Go.ChangeShapes Go.WideShapes Go.ChangeAt Go.RowKit
set_option linter.unusedVariables false
set_option linter.unusedSimpArgs false
set_option maxRecDepth 20000

/-- What NewVt answers. -/
def newVt (r wd : Int) : VtS := { vt0 with s := (newSRes r wd).s }
theorem vown_of {lo hi : Nat} {w : World} {s : Scr} {u1 u2 u3 u4 : Value} (hl : lo ≤ hi) (h : SOwn lo hi w u1 u2 u3 u4 s) : VOwn lo hi w (.slice none 0 0) u1 u2 u3 u4 { vt0 with s := s } :=
  ⟨lo, lo, lo, hi, by omega, by omega, by omega, by omega, by omega, IntsAt.nil _ _ _ _ _ _, h⟩
end Go.Proofs.YtdekegjplegkeaaGreat
