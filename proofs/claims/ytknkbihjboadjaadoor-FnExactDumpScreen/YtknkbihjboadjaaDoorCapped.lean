/-
  A slice that has room for what it holds.
-/
import Derived.Test.YtknkbihjboadjaaDoorMem
namespace Go.Proofs.YtknkbihjboadjaaDoor
set_option maxRecDepth 20000
def Capped (v : Value) : Prop := ∀ a n c, v = .slice a n c → n ≤ c
theorem Capped.of {a : Option Addr} {n c : Nat} (h : n ≤ c) : Capped (.slice a n c) := fun _ _ _ e => by cases e; exact h
end Go.Proofs.YtknkbihjboadjaaDoor
