/-
  No cell of these rows narrows 'for every input' (looked for: loops, veiled, ifaces, maps, wideKeys, modest, calm, conditions, laid).
  DERIVED. THE GIVEN ROWS OF THIS SEAT. 3 by the template 'for every input the law returns true; each argument reads behind the call as it read before'; 0 by the template 'total and deterministic' (their statements: YtknkbihjboadjaaTotals.lean).
  GIVEN WITH THE SEED: the statements are not yours to turn. If you find one false, say at which input.
  Laid BY PROGRAM, IN A SANDBOX (cutbox-rows.mjs): the forced cells as the released guide's own fill.sh prints them over the translation 7ff356236b7c3124… (all of the seat's roots in one cut). By AI agents, Wed Nov 11 2026. No macro, syntax, notation, axiom, sorry.
-/
import Derived.Test.YtknkbihjboadjaaChecked
import GoSem.Claim
import GoSem.ClaimJoined
import GoSem.ClaimMapViews
import Derived.JoinedTies
import Derived.KernelRfl
namespace Go.Proofs.Ytknkbihjboadjaa
/- THE CELL 'sum', in the pinned program and in every row, IS THE sha256 OF THE DUMP (.gsa) THAT YtknkbihjboadjaaProg.lean LOADS. Nothing in Lean hashes anything: it is a label: what it is worth is what the hold of that sum in a sandbox is worth. -/
noncomputable def Try.pinned : Pinned := { name := "ytknkbihjboadjaa", sum := "7ff356236b7c312402b63df9994aca6b96cd7d36729644627227c137df6b093f", checked := Try.checked }
namespace Rows
def none {H : Type} : Left H := { results := [], args := [] }

/-- 'laws.FnExactResizeScreen': WHATEVER THE INPUT: true; the input reads as it did. -/
def fnExactResizeScreenSpec : ChangeSpec := { name := "fnExactResizeScreen", fn := fun _ => fun
  | [d1, d2, d3] => { results := [.lit (.bool true)], args := [d1, d2, d3] }
  | _ => none }
def fnExactResizeScreenRow : OpenClaim := { program := "ytknkbihjboadjaa", sum := "7ff356236b7c312402b63df9994aca6b96cd7d36729644627227c137df6b093f", func := "loop.example/g00523/laws.FnExactResizeScreen", spec := "fnExactResizeScreen", unfollowed := true, recurses := true, apart := false }
def FnExactResizeScreenSaid : Prop := fnExactResizeScreenRow.holds Try.pinned (OpenSpec.ofChange fnExactResizeScreenSpec)

/-- ITS FALSE NEIGHBOUR: 'it returns false'. Refute it at one input. -/
def fnExactResizeScreenWrong : ChangeSpec := { name := "fnExactResizeScreen", fn := fun _ => fun
  | [d1, d2, d3] => { results := [.lit (.bool false)], args := [d1, d2, d3] }
  | _ => none }
def FnExactResizeScreenWrongFalsely : Prop := fnExactResizeScreenRow.holds Try.pinned (OpenSpec.ofChange fnExactResizeScreenWrong)

/-- 'laws.FnExactRowText': WHATEVER THE INPUT: true; the input reads as it did. -/
def fnExactRowTextSpec : ChangeSpec := { name := "fnExactRowText", fn := fun _ => fun
  | [d1, d2] => { results := [.lit (.bool true)], args := [d1, d2] }
  | _ => none }
def fnExactRowTextRow : OpenClaim := { program := "ytknkbihjboadjaa", sum := "7ff356236b7c312402b63df9994aca6b96cd7d36729644627227c137df6b093f", func := "loop.example/g00523/laws.FnExactRowText", spec := "fnExactRowText", apart := false }
def FnExactRowTextSaid : Prop := fnExactRowTextRow.holds Try.pinned (OpenSpec.ofChange fnExactRowTextSpec)

/-- ITS FALSE NEIGHBOUR: 'it returns false'. Refute it at one input. -/
def fnExactRowTextWrong : ChangeSpec := { name := "fnExactRowText", fn := fun _ => fun
  | [d1, d2] => { results := [.lit (.bool false)], args := [d1, d2] }
  | _ => none }
def FnExactRowTextWrongFalsely : Prop := fnExactRowTextRow.holds Try.pinned (OpenSpec.ofChange fnExactRowTextWrong)

/-- 'laws.FnExactVtText': WHATEVER THE INPUT: true; the input reads as it did. -/
def fnExactVtTextSpec : ChangeSpec := { name := "fnExactVtText", fn := fun _ => fun
  | [d] => { results := [.lit (.bool true)], args := [d] }
  | _ => none }
def fnExactVtTextRow : OpenClaim := { program := "ytknkbihjboadjaa", sum := "7ff356236b7c312402b63df9994aca6b96cd7d36729644627227c137df6b093f", func := "loop.example/g00523/laws.FnExactVtText", spec := "fnExactVtText", inPlace := ["internal/abi.NoEscape"], apart := false }
def FnExactVtTextSaid : Prop := fnExactVtTextRow.holds Try.pinned (OpenSpec.ofChange fnExactVtTextSpec)

/-- ITS FALSE NEIGHBOUR: 'it returns false'. Refute it at one input. -/
def fnExactVtTextWrong : ChangeSpec := { name := "fnExactVtText", fn := fun _ => fun
  | [d] => { results := [.lit (.bool false)], args := [d] }
  | _ => none }
def FnExactVtTextWrongFalsely : Prop := fnExactVtTextRow.holds Try.pinned (OpenSpec.ofChange fnExactVtTextWrong)

/- THE SECOND FORM. 'bulk': how many values and letters a reading holds, each counted each time it is reached (what is shared counts as often as it is met; a slice's spare places count too). A statement '..UptoSaid' is the law's where the arguments, and the package variables that the reading takes, are together of bulk at most 1048576: NARROWER than '..Said'. Prove '..Said' where nothing that the law and all that it calls make is longer than what came in: it says more and counts as full. Else prove '..UptoSaid'. A law counts once. -/
mutual
def uptoBulk {H : Type} : DataW H → Nat
  | .lit (.string bytes) => bytes.length + 1
  | .lit _ => 1
  | .nil => 1
  | .ptr d => uptoBulk d + 1
  | .slice elems spare => uptoBulkAll elems + uptoBulkAll spare + 1
  | .agg parts => uptoBulkAll parts + 1
  | .iface _ d => uptoBulk d + 1
  | .map entries => uptoBulkEntries entries + 1
  | .held _ => 1
def uptoBulkAll {H : Type} : List (DataW H) → Nat
  | [] => 0
  | d :: r => uptoBulk d + uptoBulkAll r
def uptoBulkEntries {H : Type} : List (Lit × DataW H) → Nat
  | [] => 0
  | x :: r => uptoBulkEntry x + uptoBulkEntries r
def uptoBulkEntry {H : Type} : Lit × DataW H → Nat
  | (.string bytes, d) => bytes.length + uptoBulk d + 1
  | (_, d) => uptoBulk d + 1
 end
def uptoSmall : (H : Type) → List (DataW H) → Bool := fun _ ds => decide (uptoBulkAll ds ≤ 1048576)
def OpenSpec.upto (s : _root_.Go.ChangeSpec) : _root_.Go.OpenSpec := { _root_.Go.OpenSpec.ofChange s with cond := some uptoSmall }

/-- 'laws.FnExactResizeScreen', WHERE WHAT IT READS IS OF BULK AT MOST 1048576: true; the input reads as it did. -/
def fnExactResizeScreenUptoRow : OpenClaim := { program := "ytknkbihjboadjaa", sum := "7ff356236b7c312402b63df9994aca6b96cd7d36729644627227c137df6b093f", func := "loop.example/g00523/laws.FnExactResizeScreen", spec := "fnExactResizeScreen", unfollowed := true, recurses := true, apart := false, narrowed := true }
def FnExactResizeScreenUptoSaid : Prop := fnExactResizeScreenUptoRow.holds Try.pinned (OpenSpec.upto fnExactResizeScreenSpec)

/-- 'laws.FnExactRowText', WHERE WHAT IT READS IS OF BULK AT MOST 1048576: true; the input reads as it did. -/
def fnExactRowTextUptoRow : OpenClaim := { program := "ytknkbihjboadjaa", sum := "7ff356236b7c312402b63df9994aca6b96cd7d36729644627227c137df6b093f", func := "loop.example/g00523/laws.FnExactRowText", spec := "fnExactRowText", apart := false, narrowed := true }
def FnExactRowTextUptoSaid : Prop := fnExactRowTextUptoRow.holds Try.pinned (OpenSpec.upto fnExactRowTextSpec)

/-- 'laws.FnExactVtText', WHERE WHAT IT READS IS OF BULK AT MOST 1048576: true; the input reads as it did. -/
def fnExactVtTextUptoRow : OpenClaim := { program := "ytknkbihjboadjaa", sum := "7ff356236b7c312402b63df9994aca6b96cd7d36729644627227c137df6b093f", func := "loop.example/g00523/laws.FnExactVtText", spec := "fnExactVtText", inPlace := ["internal/abi.NoEscape"], apart := false, narrowed := true }
def FnExactVtTextUptoSaid : Prop := fnExactVtTextUptoRow.holds Try.pinned (OpenSpec.upto fnExactVtTextSpec)

end Rows
end Go.Proofs.Ytknkbihjboadjaa
