/-
  No cell of these rows narrows 'for every input' (looked for: loops, veiled, ifaces, maps, wideKeys, modest, calm, conditions, laid).
  DERIVED. THE GIVEN ROWS OF THIS SEAT. 4 by the template 'for every input the law returns true; each argument reads behind the call as it read before'; 0 by the template 'total and deterministic' (their statements: YtgpmeejlpcmngaaTotals.lean).
  GIVEN WITH THE SEED: the statements are not yours to turn. If you find one false, say at which input.
  Laid BY PROGRAM, IN A SANDBOX (cutbox-rows.mjs): the forced cells as the released guide's own fill.sh prints them over the translation dbca2a194ce9dcbe… (all of the seat's roots in one cut). By AI agents, Wed Nov 11 2026. No macro, syntax, notation, axiom, sorry.
-/
import Derived.Test.YtgpmeejlpcmngaaChecked
import GoSem.Claim
import GoSem.ClaimJoined
import GoSem.ClaimMapViews
import Derived.JoinedTies
import Derived.KernelRfl
namespace Go.Proofs.Ytgpmeejlpcmngaa
/- THE CELL 'sum', in the pinned program and in every row, IS THE sha256 OF THE DUMP (.gsa) THAT YtgpmeejlpcmngaaProg.lean LOADS. Nothing in Lean hashes anything: it is a label: what it is worth is what the hold of that sum in a sandbox is worth. -/
noncomputable def Try.pinned : Pinned := { name := "ytgpmeejlpcmngaa", sum := "dbca2a194ce9dcbefa2e20b36de218ffcc654758cc31821ec63ef07f62efc560", checked := Try.checked }
namespace Rows
def none {H : Type} : Left H := { results := [], args := [] }

/-- 'laws.FnExactScreenFault': WHATEVER THE INPUT: true; the input reads as it did. -/
def fnExactScreenFaultSpec : ChangeSpec := { name := "fnExactScreenFault", fn := fun _ => fun
  | [d] => { results := [.lit (.bool true)], args := [d] }
  | _ => none }
def fnExactScreenFaultRow : OpenClaim := { program := "ytgpmeejlpcmngaa", sum := "dbca2a194ce9dcbefa2e20b36de218ffcc654758cc31821ec63ef07f62efc560", func := "loop.example/g00523/laws.FnExactScreenFault", spec := "fnExactScreenFault", apart := false }
def FnExactScreenFaultSaid : Prop := fnExactScreenFaultRow.holds Try.pinned (OpenSpec.ofChange fnExactScreenFaultSpec)

/-- ITS FALSE NEIGHBOUR: 'it returns false'. Refute it at one input. -/
def fnExactScreenFaultWrong : ChangeSpec := { name := "fnExactScreenFault", fn := fun _ => fun
  | [d] => { results := [.lit (.bool false)], args := [d] }
  | _ => none }
def FnExactScreenFaultWrongFalsely : Prop := fnExactScreenFaultRow.holds Try.pinned (OpenSpec.ofChange fnExactScreenFaultWrong)

/-- 'laws.FnExactNewScreen': WHATEVER THE INPUT: true; the input reads as it did. -/
def fnExactNewScreenSpec : ChangeSpec := { name := "fnExactNewScreen", fn := fun _ => fun
  | [d1, d2] => { results := [.lit (.bool true)], args := [d1, d2] }
  | _ => none }
def fnExactNewScreenRow : OpenClaim := { program := "ytgpmeejlpcmngaa", sum := "dbca2a194ce9dcbefa2e20b36de218ffcc654758cc31821ec63ef07f62efc560", func := "loop.example/g00523/laws.FnExactNewScreen", spec := "fnExactNewScreen", apart := false }
def FnExactNewScreenSaid : Prop := fnExactNewScreenRow.holds Try.pinned (OpenSpec.ofChange fnExactNewScreenSpec)

/-- ITS FALSE NEIGHBOUR: 'it returns false'. Refute it at one input. -/
def fnExactNewScreenWrong : ChangeSpec := { name := "fnExactNewScreen", fn := fun _ => fun
  | [d1, d2] => { results := [.lit (.bool false)], args := [d1, d2] }
  | _ => none }
def FnExactNewScreenWrongFalsely : Prop := fnExactNewScreenRow.holds Try.pinned (OpenSpec.ofChange fnExactNewScreenWrong)

/-- 'laws.FnExactResizeScreen': WHATEVER THE INPUT: true; the input reads as it did. -/
def fnExactResizeScreenSpec : ChangeSpec := { name := "fnExactResizeScreen", fn := fun _ => fun
  | [d1, d2, d3] => { results := [.lit (.bool true)], args := [d1, d2, d3] }
  | _ => none }
def fnExactResizeScreenRow : OpenClaim := { program := "ytgpmeejlpcmngaa", sum := "dbca2a194ce9dcbefa2e20b36de218ffcc654758cc31821ec63ef07f62efc560", func := "loop.example/g00523/laws.FnExactResizeScreen", spec := "fnExactResizeScreen", unfollowed := true, recurses := true, apart := false }
def FnExactResizeScreenSaid : Prop := fnExactResizeScreenRow.holds Try.pinned (OpenSpec.ofChange fnExactResizeScreenSpec)

/-- ITS FALSE NEIGHBOUR: 'it returns false'. Refute it at one input. -/
def fnExactResizeScreenWrong : ChangeSpec := { name := "fnExactResizeScreen", fn := fun _ => fun
  | [d1, d2, d3] => { results := [.lit (.bool false)], args := [d1, d2, d3] }
  | _ => none }
def FnExactResizeScreenWrongFalsely : Prop := fnExactResizeScreenRow.holds Try.pinned (OpenSpec.ofChange fnExactResizeScreenWrong)

/-- 'laws.FnExactRowText': WHATEVER THE INPUT: true; the input reads as it did. -/
def fnExactRowTextSpec : ChangeSpec := { name := "fnExactRowText", fn := fun _ => fun
  | [d1, d2] => { results := [.lit (.bool true)], args := [d1, d2] }
  | _ => none }
def fnExactRowTextRow : OpenClaim := { program := "ytgpmeejlpcmngaa", sum := "dbca2a194ce9dcbefa2e20b36de218ffcc654758cc31821ec63ef07f62efc560", func := "loop.example/g00523/laws.FnExactRowText", spec := "fnExactRowText", apart := false }
def FnExactRowTextSaid : Prop := fnExactRowTextRow.holds Try.pinned (OpenSpec.ofChange fnExactRowTextSpec)

/-- ITS FALSE NEIGHBOUR: 'it returns false'. Refute it at one input. -/
def fnExactRowTextWrong : ChangeSpec := { name := "fnExactRowText", fn := fun _ => fun
  | [d1, d2] => { results := [.lit (.bool false)], args := [d1, d2] }
  | _ => none }
def FnExactRowTextWrongFalsely : Prop := fnExactRowTextRow.holds Try.pinned (OpenSpec.ofChange fnExactRowTextWrong)

/- THE SECOND FORM. 'bulk': how many values and letters a reading holds, each counted each time it is reached (what is shared counts as often as it is met; a slice's spare places count too). A statement '..UptoSaid' is the law's where the arguments, and the package variables that the reading takes, are together of bulk at most 1048576: NARROWER than '..Said'. Prove '..Said' where nothing that the law and all that it calls make is longer than what came in: it says more and counts as full. Else prove '..UptoSaid'. A law counts once. -/
mutual
def uptoBulk {H : Type} : DataW H → Nat
  | .lit (.string bytes) => bytes.length + 1
  | .lit _ => 1
  | .nil => 1
  | .ptr d => uptoBulk d + 1
  | .slice elems spare => uptoBulkAll elems + uptoBulkAll spare + 1
  | .agg parts => uptoBulkAll parts + 1
  | .iface _ d => uptoBulk d + 1
  | .map entries => uptoBulkEntries entries + 1
  | .held _ => 1
def uptoBulkAll {H : Type} : List (DataW H) → Nat
  | [] => 0
  | d :: r => uptoBulk d + uptoBulkAll r
def uptoBulkEntries {H : Type} : List (Lit × DataW H) → Nat
  | [] => 0
  | x :: r => uptoBulkEntry x + uptoBulkEntries r
def uptoBulkEntry {H : Type} : Lit × DataW H → Nat
  | (.string bytes, d) => bytes.length + uptoBulk d + 1
  | (_, d) => uptoBulk d + 1
 end
def uptoSmall : (H : Type) → List (DataW H) → Bool := fun _ ds => decide (uptoBulkAll ds ≤ 1048576)
def OpenSpec.upto (s : _root_.Go.ChangeSpec) : _root_.Go.OpenSpec := { _root_.Go.OpenSpec.ofChange s with cond := some uptoSmall }

/-- 'laws.FnExactScreenFault', WHERE WHAT IT READS IS OF BULK AT MOST 1048576: true; the input reads as it did. -/
def fnExactScreenFaultUptoRow : OpenClaim := { program := "ytgpmeejlpcmngaa", sum := "dbca2a194ce9dcbefa2e20b36de218ffcc654758cc31821ec63ef07f62efc560", func := "loop.example/g00523/laws.FnExactScreenFault", spec := "fnExactScreenFault", apart := false, narrowed := true }
def FnExactScreenFaultUptoSaid : Prop := fnExactScreenFaultUptoRow.holds Try.pinned (OpenSpec.upto fnExactScreenFaultSpec)

/-- 'laws.FnExactNewScreen', WHERE WHAT IT READS IS OF BULK AT MOST 1048576: true; the input reads as it did. -/
def fnExactNewScreenUptoRow : OpenClaim := { program := "ytgpmeejlpcmngaa", sum := "dbca2a194ce9dcbefa2e20b36de218ffcc654758cc31821ec63ef07f62efc560", func := "loop.example/g00523/laws.FnExactNewScreen", spec := "fnExactNewScreen", apart := false, narrowed := true }
def FnExactNewScreenUptoSaid : Prop := fnExactNewScreenUptoRow.holds Try.pinned (OpenSpec.upto fnExactNewScreenSpec)

/-- 'laws.FnExactResizeScreen', WHERE WHAT IT READS IS OF BULK AT MOST 1048576: true; the input reads as it did. -/
def fnExactResizeScreenUptoRow : OpenClaim := { program := "ytgpmeejlpcmngaa", sum := "dbca2a194ce9dcbefa2e20b36de218ffcc654758cc31821ec63ef07f62efc560", func := "loop.example/g00523/laws.FnExactResizeScreen", spec := "fnExactResizeScreen", unfollowed := true, recurses := true, apart := false, narrowed := true }
def FnExactResizeScreenUptoSaid : Prop := fnExactResizeScreenUptoRow.holds Try.pinned (OpenSpec.upto fnExactResizeScreenSpec)

/-- 'laws.FnExactRowText', WHERE WHAT IT READS IS OF BULK AT MOST 1048576: true; the input reads as it did. -/
def fnExactRowTextUptoRow : OpenClaim := { program := "ytgpmeejlpcmngaa", sum := "dbca2a194ce9dcbefa2e20b36de218ffcc654758cc31821ec63ef07f62efc560", func := "loop.example/g00523/laws.FnExactRowText", spec := "fnExactRowText", apart := false, narrowed := true }
def FnExactRowTextUptoSaid : Prop := fnExactRowTextUptoRow.holds Try.pinned (OpenSpec.upto fnExactRowTextSpec)

end Rows
end Go.Proofs.Ytgpmeejlpcmngaa
