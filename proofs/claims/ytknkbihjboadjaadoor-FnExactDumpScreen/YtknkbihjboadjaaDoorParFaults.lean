/-
  What ParserFault answers, of the program and of the model: isParserForm, isSet, paramsFault, ParserFault; l4Params, l4Fault, ParserFault.
-/
import Derived.Test.YtknkbihjboadjaaDoorRows
import Derived.Test.YtknkbihjboadjaaDoorMem
import Derived.Test.YtknkbihjboadjaaDoorRangeFns
import Derived.WalkKit
import Derived.ProofKit
import Derived.OpenShut
import Derived.Below
import Derived.OwnWalk
import Derived.WalkSpells
import Derived.Deep.QuietTactic
import Derived.BigQuiet
import Derived.Deep.RegionHeld3
namespace Go.Proofs.YtknkbihjboadjaaDoor
set_option maxRecDepth 20000
open Go.ChangeShapes Go.WideShapes Go.ChangeAt Go.RowKit
set_option linter.unusedVariables false
set_option linter.unusedSimpArgs false

def numB (n : Int) : Bool := decide (0 ≤ n ∧ n ≤ 999)
def numsB (ns : List Int) (k : Nat) : Bool := (ns.drop k).all numB
/-- The numbers of a parser or of an action: how many, and each. -/
def numsCode (ns : List Int) : Int := if ns.length < 1 then 2 else if 6 < ns.length then 2 else if numsB ns 0 = false then 3 else 0
/-- A parser has nothing that its mode has not. -/
def formB (md st : Int) (pv : Bool) (ns : List Int) : Bool :=
  if md = 0 ∨ md = 1 then decide (st = 0) && (!pv && decide (ns.length = 0)) else if md = 3 then !pv && decide (ns.length = 0) else if md = 2 then decide (st = 0) else false
def setB (st : Int) : Bool := decide (1 ≤ st ∧ st ≤ 2)
def parCode (md st : Int) (pv : Bool) (ns : List Int) : Int :=
  if formB md st pv ns = false then 1 else if md = 3 ∧ setB st = false then 3 else if md = 2 then numsCode ns else 0

theorem numsB_end {ns : List Int} {k : Nat} (h : ¬ k < ns.length) : numsB ns k = true := by unfold numsB; rw [List.drop_eq_nil_of_le (by omega)]; rfl
theorem numsB_step {ns : List Int} {k : Nat} (h : k < ns.length) : numsB ns k = (numB (ns.getD k 0) && numsB ns (k + 1)) := by
  unfold numsB
  rw [List.drop_eq_getElem_cons h, List.all_cons]
  simp [List.getD_eq_getElem?_getD, h]

theorem numsCode_many {ns : List Int} (h : ¬ (1 ≤ ns.length ∧ ns.length ≤ 6)) : numsCode ns = 2 := by
  unfold numsCode
  by_cases h1 : ns.length < 1
  · rw [if_pos h1]
  · rw [if_neg h1, if_pos (by omega)]

theorem formB_low {md st : Int} {pv : Bool} {ns : List Int} (h : md = 0 ∨ md = 1) : formB md st pv ns = (decide (st = 0) && (!pv && decide (ns.length = 0))) := by unfold formB; rw [if_pos h]
theorem formB_set {st : Int} {pv : Bool} {ns : List Int} : formB 3 st pv ns = (!pv && decide (ns.length = 0)) := rfl
theorem formB_par {st : Int} {pv : Bool} {ns : List Int} : formB 2 st pv ns = decide (st = 0) := rfl
theorem formB_not {md st : Int} {pv : Bool} {ns : List Int} (h0 : ¬ md = 0) (h1 : ¬ md = 1) (h3 : ¬ md = 3) (h2 : ¬ md = 2) : formB md st pv ns = false := by unfold formB; rw [if_neg (by omega), if_neg h3, if_neg h2]

theorem parCode_form {md st : Int} {pv : Bool} {ns : List Int} (h : formB md st pv ns = false) : parCode md st pv ns = 1 := by unfold parCode; rw [if_pos h]
theorem parCode_set {st : Int} {pv : Bool} {ns : List Int} (h : formB 3 st pv ns = true) : parCode 3 st pv ns = if setB st = false then 3 else 0 := by
  unfold parCode
  rw [if_neg (by rw [h]; simp)]
  by_cases c : setB st = false
  · rw [if_pos ⟨rfl, c⟩, if_pos c]
  · rw [if_neg (fun h => c h.2), if_neg c]; rfl
theorem parCode_par {st : Int} {pv : Bool} {ns : List Int} (h : formB 2 st pv ns = true) : parCode 2 st pv ns = numsCode ns := by
  unfold parCode
  rw [if_neg (by rw [h]; simp)]
  rfl
theorem parCode_low {md st : Int} {pv : Bool} {ns : List Int} (h : formB md st pv ns = true) (h3 : ¬ md = 3) (h2 : ¬ md = 2) : parCode md st pv ns = 0 := by
  unfold parCode
  rw [if_neg (by rw [h]; simp), if_neg (fun c => h3 c.1), if_neg h2]

end Go.Proofs.YtknkbihjboadjaaDoor
