/-
  No cell of these rows narrows 'for every input' (looked for: loops, veiled, ifaces, maps, wideKeys, modest, calm, conditions, laid).
  DERIVED. THE GIVEN ROWS OF THIS SEAT. 5 by the template 'for every input the law returns true; each argument reads behind the call as it read before'; 0 by the template 'total and deterministic' (their statements: YtaljegjflkebcaaTotals.lean).
  GIVEN WITH THE SEED: the statements are not yours to turn. If you find one false, say at which input.
  Laid BY PROGRAM, IN A SANDBOX (cutbox-rows.mjs): the forced cells as the released guide's own fill.sh prints them over the translation 83c560df4a8bd518… (all of the seat's roots in one cut). By AI agents, Wed Nov 11 2026. No macro, syntax, notation, axiom, sorry.
-/
import Derived.Test.YtaljegjflkebcaaChecked
import GoSem.Claim
import GoSem.ClaimJoined
import GoSem.ClaimMapViews
import Derived.JoinedTies
import Derived.KernelRfl
namespace Go.Proofs.Ytaljegjflkebcaa
/- THE CELL 'sum', in the pinned program and in every row, IS THE sha256 OF THE DUMP (.gsa) THAT YtaljegjflkebcaaProg.lean LOADS. Nothing in Lean hashes anything: it is a label: what it is worth is what the hold of that sum in a sandbox is worth. -/
noncomputable def Try.pinned : Pinned := { name := "ytaljegjflkebcaa", sum := "83c560df4a8bd5183751dd7083454229eec897d213b6496da10b623733cae41a", checked := Try.checked }
namespace Rows
def none {H : Type} : Left H := { results := [], args := [] }

/-- 'laws.FnExactParserFault': WHATEVER THE INPUT: true; the input reads as it did. -/
def fnExactParserFaultSpec : ChangeSpec := { name := "fnExactParserFault", fn := fun _ => fun
  | [d] => { results := [.lit (.bool true)], args := [d] }
  | _ => none }
def fnExactParserFaultRow : OpenClaim := { program := "ytaljegjflkebcaa", sum := "83c560df4a8bd5183751dd7083454229eec897d213b6496da10b623733cae41a", func := "loop.example/g00523/laws.FnExactParserFault", spec := "fnExactParserFault", apart := false }
def FnExactParserFaultSaid : Prop := fnExactParserFaultRow.holds Try.pinned (OpenSpec.ofChange fnExactParserFaultSpec)

/-- ITS FALSE NEIGHBOUR: 'it returns false'. Refute it at one input. -/
def fnExactParserFaultWrong : ChangeSpec := { name := "fnExactParserFault", fn := fun _ => fun
  | [d] => { results := [.lit (.bool false)], args := [d] }
  | _ => none }
def FnExactParserFaultWrongFalsely : Prop := fnExactParserFaultRow.holds Try.pinned (OpenSpec.ofChange fnExactParserFaultWrong)

/-- 'laws.FnExactStepParser': WHATEVER THE INPUT: true; the input reads as it did. -/
def fnExactStepParserSpec : ChangeSpec := { name := "fnExactStepParser", fn := fun _ => fun
  | [d1, d2] => { results := [.lit (.bool true)], args := [d1, d2] }
  | _ => none }
def fnExactStepParserRow : OpenClaim := { program := "ytaljegjflkebcaa", sum := "83c560df4a8bd5183751dd7083454229eec897d213b6496da10b623733cae41a", func := "loop.example/g00523/laws.FnExactStepParser", spec := "fnExactStepParser", apart := false }
def FnExactStepParserSaid : Prop := fnExactStepParserRow.holds Try.pinned (OpenSpec.ofChange fnExactStepParserSpec)

/-- ITS FALSE NEIGHBOUR: 'it returns false'. Refute it at one input. -/
def fnExactStepParserWrong : ChangeSpec := { name := "fnExactStepParser", fn := fun _ => fun
  | [d1, d2] => { results := [.lit (.bool false)], args := [d1, d2] }
  | _ => none }
def FnExactStepParserWrongFalsely : Prop := fnExactStepParserRow.holds Try.pinned (OpenSpec.ofChange fnExactStepParserWrong)

/-- 'laws.FnExactParseMany': WHATEVER THE INPUT: true; the input reads as it did. -/
def fnExactParseManySpec : ChangeSpec := { name := "fnExactParseMany", fn := fun _ => fun
  | [d1, d2] => { results := [.lit (.bool true)], args := [d1, d2] }
  | _ => none }
def fnExactParseManyRow : OpenClaim := { program := "ytaljegjflkebcaa", sum := "83c560df4a8bd5183751dd7083454229eec897d213b6496da10b623733cae41a", func := "loop.example/g00523/laws.FnExactParseMany", spec := "fnExactParseMany", apart := false }
def FnExactParseManySaid : Prop := fnExactParseManyRow.holds Try.pinned (OpenSpec.ofChange fnExactParseManySpec)

/-- ITS FALSE NEIGHBOUR: 'it returns false'. Refute it at one input. -/
def fnExactParseManyWrong : ChangeSpec := { name := "fnExactParseMany", fn := fun _ => fun
  | [d1, d2] => { results := [.lit (.bool false)], args := [d1, d2] }
  | _ => none }
def FnExactParseManyWrongFalsely : Prop := fnExactParseManyRow.holds Try.pinned (OpenSpec.ofChange fnExactParseManyWrong)

/-- 'laws.FnExactActionFault': WHATEVER THE INPUT: true; the input reads as it did. -/
def fnExactActionFaultSpec : ChangeSpec := { name := "fnExactActionFault", fn := fun _ => fun
  | [d] => { results := [.lit (.bool true)], args := [d] }
  | _ => none }
def fnExactActionFaultRow : OpenClaim := { program := "ytaljegjflkebcaa", sum := "83c560df4a8bd5183751dd7083454229eec897d213b6496da10b623733cae41a", func := "loop.example/g00523/laws.FnExactActionFault", spec := "fnExactActionFault", apart := false }
def FnExactActionFaultSaid : Prop := fnExactActionFaultRow.holds Try.pinned (OpenSpec.ofChange fnExactActionFaultSpec)

/-- ITS FALSE NEIGHBOUR: 'it returns false'. Refute it at one input. -/
def fnExactActionFaultWrong : ChangeSpec := { name := "fnExactActionFault", fn := fun _ => fun
  | [d] => { results := [.lit (.bool false)], args := [d] }
  | _ => none }
def FnExactActionFaultWrongFalsely : Prop := fnExactActionFaultRow.holds Try.pinned (OpenSpec.ofChange fnExactActionFaultWrong)

/-- 'laws.FnExactSameParsers': WHATEVER THE INPUT: true; the input reads as it did. -/
def fnExactSameParsersSpec : ChangeSpec := { name := "fnExactSameParsers", fn := fun _ => fun
  | [d1, d2] => { results := [.lit (.bool true)], args := [d1, d2] }
  | _ => none }
def fnExactSameParsersRow : OpenClaim := { program := "ytaljegjflkebcaa", sum := "83c560df4a8bd5183751dd7083454229eec897d213b6496da10b623733cae41a", func := "loop.example/g00523/laws.FnExactSameParsers", spec := "fnExactSameParsers", apart := false }
def FnExactSameParsersSaid : Prop := fnExactSameParsersRow.holds Try.pinned (OpenSpec.ofChange fnExactSameParsersSpec)

/-- ITS FALSE NEIGHBOUR: 'it returns false'. Refute it at one input. -/
def fnExactSameParsersWrong : ChangeSpec := { name := "fnExactSameParsers", fn := fun _ => fun
  | [d1, d2] => { results := [.lit (.bool false)], args := [d1, d2] }
  | _ => none }
def FnExactSameParsersWrongFalsely : Prop := fnExactSameParsersRow.holds Try.pinned (OpenSpec.ofChange fnExactSameParsersWrong)

/- THE SECOND FORM. 'bulk': how many values and letters a reading holds, each counted each time it is reached (what is shared counts as often as it is met; a slice's spare places count too). A statement '..UptoSaid' is the law's where the arguments, and the package variables that the reading takes, are together of bulk at most 1048576: NARROWER than '..Said'. Prove '..Said' where nothing that the law and all that it calls make is longer than what came in: it says more and counts as full. Else prove '..UptoSaid'. A law counts once. -/
mutual
def uptoBulk {H : Type} : DataW H → Nat
  | .lit (.string bytes) => bytes.length + 1
  | .lit _ => 1
  | .nil => 1
  | .ptr d => uptoBulk d + 1
  | .slice elems spare => uptoBulkAll elems + uptoBulkAll spare + 1
  | .agg parts => uptoBulkAll parts + 1
  | .iface _ d => uptoBulk d + 1
  | .map entries => uptoBulkEntries entries + 1
  | .held _ => 1
def uptoBulkAll {H : Type} : List (DataW H) → Nat
  | [] => 0
  | d :: r => uptoBulk d + uptoBulkAll r
def uptoBulkEntries {H : Type} : List (Lit × DataW H) → Nat
  | [] => 0
  | x :: r => uptoBulkEntry x + uptoBulkEntries r
def uptoBulkEntry {H : Type} : Lit × DataW H → Nat
  | (.string bytes, d) => bytes.length + uptoBulk d + 1
  | (_, d) => uptoBulk d + 1
 end
def uptoSmall : (H : Type) → List (DataW H) → Bool := fun _ ds => decide (uptoBulkAll ds ≤ 1048576)
def OpenSpec.upto (s : _root_.Go.ChangeSpec) : _root_.Go.OpenSpec := { _root_.Go.OpenSpec.ofChange s with cond := some uptoSmall }

/-- 'laws.FnExactParserFault', WHERE WHAT IT READS IS OF BULK AT MOST 1048576: true; the input reads as it did. -/
def fnExactParserFaultUptoRow : OpenClaim := { program := "ytaljegjflkebcaa", sum := "83c560df4a8bd5183751dd7083454229eec897d213b6496da10b623733cae41a", func := "loop.example/g00523/laws.FnExactParserFault", spec := "fnExactParserFault", apart := false, narrowed := true }
def FnExactParserFaultUptoSaid : Prop := fnExactParserFaultUptoRow.holds Try.pinned (OpenSpec.upto fnExactParserFaultSpec)

/-- 'laws.FnExactStepParser', WHERE WHAT IT READS IS OF BULK AT MOST 1048576: true; the input reads as it did. -/
def fnExactStepParserUptoRow : OpenClaim := { program := "ytaljegjflkebcaa", sum := "83c560df4a8bd5183751dd7083454229eec897d213b6496da10b623733cae41a", func := "loop.example/g00523/laws.FnExactStepParser", spec := "fnExactStepParser", apart := false, narrowed := true }
def FnExactStepParserUptoSaid : Prop := fnExactStepParserUptoRow.holds Try.pinned (OpenSpec.upto fnExactStepParserSpec)

/-- 'laws.FnExactParseMany', WHERE WHAT IT READS IS OF BULK AT MOST 1048576: true; the input reads as it did. -/
def fnExactParseManyUptoRow : OpenClaim := { program := "ytaljegjflkebcaa", sum := "83c560df4a8bd5183751dd7083454229eec897d213b6496da10b623733cae41a", func := "loop.example/g00523/laws.FnExactParseMany", spec := "fnExactParseMany", apart := false, narrowed := true }
def FnExactParseManyUptoSaid : Prop := fnExactParseManyUptoRow.holds Try.pinned (OpenSpec.upto fnExactParseManySpec)

/-- 'laws.FnExactActionFault', WHERE WHAT IT READS IS OF BULK AT MOST 1048576: true; the input reads as it did. -/
def fnExactActionFaultUptoRow : OpenClaim := { program := "ytaljegjflkebcaa", sum := "83c560df4a8bd5183751dd7083454229eec897d213b6496da10b623733cae41a", func := "loop.example/g00523/laws.FnExactActionFault", spec := "fnExactActionFault", apart := false, narrowed := true }
def FnExactActionFaultUptoSaid : Prop := fnExactActionFaultUptoRow.holds Try.pinned (OpenSpec.upto fnExactActionFaultSpec)

/-- 'laws.FnExactSameParsers', WHERE WHAT IT READS IS OF BULK AT MOST 1048576: true; the input reads as it did. -/
def fnExactSameParsersUptoRow : OpenClaim := { program := "ytaljegjflkebcaa", sum := "83c560df4a8bd5183751dd7083454229eec897d213b6496da10b623733cae41a", func := "loop.example/g00523/laws.FnExactSameParsers", spec := "fnExactSameParsers", apart := false, narrowed := true }
def FnExactSameParsersUptoSaid : Prop := fnExactSameParsersUptoRow.holds Try.pinned (OpenSpec.upto fnExactSameParsersSpec)

end Rows
end Go.Proofs.Ytaljegjflkebcaa
