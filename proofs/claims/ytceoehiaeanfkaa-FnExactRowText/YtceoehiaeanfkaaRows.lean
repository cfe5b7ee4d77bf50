/-
  No cell of these rows narrows 'for every input' (looked for: loops, veiled, ifaces, maps, wideKeys, modest, calm, conditions, laid).
  DERIVED. THE GIVEN ROWS OF THIS SEAT. 6 by the template 'for every input the law returns true; each argument reads behind the call as it read before'; 0 by the template 'total and deterministic' (their statements: YtceoehiaeanfkaaTotals.lean).
  GIVEN WITH THE SEED: the statements are not yours to turn. If you find one false, say at which input.
  Laid BY PROGRAM, IN A SANDBOX (cutbox-rows.mjs): the forced cells as the released guide's own fill.sh prints them over the translation 0237c518c803507e… (all of the seat's roots in one cut). By AI agents, Wed Nov 11 2026. No macro, syntax, notation, axiom, sorry.
-/
import Derived.Test.YtceoehiaeanfkaaChecked
import GoSem.Claim
import GoSem.ClaimJoined
import GoSem.ClaimMapViews
import Derived.JoinedTies
import Derived.KernelRfl
namespace Go.Proofs.Ytceoehiaeanfkaa
/- THE CELL 'sum', in the pinned program and in every row, IS THE sha256 OF THE DUMP (.gsa) THAT YtceoehiaeanfkaaProg.lean LOADS. Nothing in Lean hashes anything: it is a label: what it is worth is what the hold of that sum in a sandbox is worth. -/
noncomputable def Try.pinned : Pinned := { name := "ytceoehiaeanfkaa", sum := "0237c518c803507ed6f987f5f1124e46d87ca8c9539cd0a260d3b504696e56fe", checked := Try.checked }
namespace Rows
def none {H : Type} : Left H := { results := [], args := [] }

/-- 'laws.FnExactSameShown': WHATEVER THE INPUT: true; the input reads as it did. -/
def fnExactSameShownSpec : ChangeSpec := { name := "fnExactSameShown", fn := fun _ => fun
  | [d1, d2] => { results := [.lit (.bool true)], args := [d1, d2] }
  | _ => none }
def fnExactSameShownRow : OpenClaim := { program := "ytceoehiaeanfkaa", sum := "0237c518c803507ed6f987f5f1124e46d87ca8c9539cd0a260d3b504696e56fe", func := "loop.example/g00523/laws.FnExactSameShown", spec := "fnExactSameShown", apart := false }
def FnExactSameShownSaid : Prop := fnExactSameShownRow.holds Try.pinned (OpenSpec.ofChange fnExactSameShownSpec)

/-- ITS FALSE NEIGHBOUR: 'it returns false'. Refute it at one input. -/
def fnExactSameShownWrong : ChangeSpec := { name := "fnExactSameShown", fn := fun _ => fun
  | [d1, d2] => { results := [.lit (.bool false)], args := [d1, d2] }
  | _ => none }
def FnExactSameShownWrongFalsely : Prop := fnExactSameShownRow.holds Try.pinned (OpenSpec.ofChange fnExactSameShownWrong)

/-- 'laws.FnExactRowText': WHATEVER THE INPUT: true; the input reads as it did. -/
def fnExactRowTextSpec : ChangeSpec := { name := "fnExactRowText", fn := fun _ => fun
  | [d1, d2] => { results := [.lit (.bool true)], args := [d1, d2] }
  | _ => none }
def fnExactRowTextRow : OpenClaim := { program := "ytceoehiaeanfkaa", sum := "0237c518c803507ed6f987f5f1124e46d87ca8c9539cd0a260d3b504696e56fe", func := "loop.example/g00523/laws.FnExactRowText", spec := "fnExactRowText", apart := false }
def FnExactRowTextSaid : Prop := fnExactRowTextRow.holds Try.pinned (OpenSpec.ofChange fnExactRowTextSpec)

/-- ITS FALSE NEIGHBOUR: 'it returns false'. Refute it at one input. -/
def fnExactRowTextWrong : ChangeSpec := { name := "fnExactRowText", fn := fun _ => fun
  | [d1, d2] => { results := [.lit (.bool false)], args := [d1, d2] }
  | _ => none }
def FnExactRowTextWrongFalsely : Prop := fnExactRowTextRow.holds Try.pinned (OpenSpec.ofChange fnExactRowTextWrong)

/-- 'laws.FnExactResizeScreen': WHATEVER THE INPUT: true; the input reads as it did. -/
def fnExactResizeScreenSpec : ChangeSpec := { name := "fnExactResizeScreen", fn := fun _ => fun
  | [d1, d2, d3] => { results := [.lit (.bool true)], args := [d1, d2, d3] }
  | _ => none }
def fnExactResizeScreenRow : OpenClaim := { program := "ytceoehiaeanfkaa", sum := "0237c518c803507ed6f987f5f1124e46d87ca8c9539cd0a260d3b504696e56fe", func := "loop.example/g00523/laws.FnExactResizeScreen", spec := "fnExactResizeScreen", unfollowed := true, recurses := true, apart := false }
def FnExactResizeScreenSaid : Prop := fnExactResizeScreenRow.holds Try.pinned (OpenSpec.ofChange fnExactResizeScreenSpec)

/-- ITS FALSE NEIGHBOUR: 'it returns false'. Refute it at one input. -/
def fnExactResizeScreenWrong : ChangeSpec := { name := "fnExactResizeScreen", fn := fun _ => fun
  | [d1, d2, d3] => { results := [.lit (.bool false)], args := [d1, d2, d3] }
  | _ => none }
def FnExactResizeScreenWrongFalsely : Prop := fnExactResizeScreenRow.holds Try.pinned (OpenSpec.ofChange fnExactResizeScreenWrong)

/-- 'laws.FnExactVtFault': WHATEVER THE INPUT: true; the input reads as it did. -/
def fnExactVtFaultSpec : ChangeSpec := { name := "fnExactVtFault", fn := fun _ => fun
  | [d] => { results := [.lit (.bool true)], args := [d] }
  | _ => none }
def fnExactVtFaultRow : OpenClaim := { program := "ytceoehiaeanfkaa", sum := "0237c518c803507ed6f987f5f1124e46d87ca8c9539cd0a260d3b504696e56fe", func := "loop.example/g00523/laws.FnExactVtFault", spec := "fnExactVtFault", apart := false }
def FnExactVtFaultSaid : Prop := fnExactVtFaultRow.holds Try.pinned (OpenSpec.ofChange fnExactVtFaultSpec)

/-- ITS FALSE NEIGHBOUR: 'it returns false'. Refute it at one input. -/
def fnExactVtFaultWrong : ChangeSpec := { name := "fnExactVtFault", fn := fun _ => fun
  | [d] => { results := [.lit (.bool false)], args := [d] }
  | _ => none }
def FnExactVtFaultWrongFalsely : Prop := fnExactVtFaultRow.holds Try.pinned (OpenSpec.ofChange fnExactVtFaultWrong)

/-- 'laws.FnExactNewVt': WHATEVER THE INPUT: true; the input reads as it did. -/
def fnExactNewVtSpec : ChangeSpec := { name := "fnExactNewVt", fn := fun _ => fun
  | [d1, d2] => { results := [.lit (.bool true)], args := [d1, d2] }
  | _ => none }
def fnExactNewVtRow : OpenClaim := { program := "ytceoehiaeanfkaa", sum := "0237c518c803507ed6f987f5f1124e46d87ca8c9539cd0a260d3b504696e56fe", func := "loop.example/g00523/laws.FnExactNewVt", spec := "fnExactNewVt", apart := false }
def FnExactNewVtSaid : Prop := fnExactNewVtRow.holds Try.pinned (OpenSpec.ofChange fnExactNewVtSpec)

/-- ITS FALSE NEIGHBOUR: 'it returns false'. Refute it at one input. -/
def fnExactNewVtWrong : ChangeSpec := { name := "fnExactNewVt", fn := fun _ => fun
  | [d1, d2] => { results := [.lit (.bool false)], args := [d1, d2] }
  | _ => none }
def FnExactNewVtWrongFalsely : Prop := fnExactNewVtRow.holds Try.pinned (OpenSpec.ofChange fnExactNewVtWrong)

/-- 'laws.FnExactSameVts': WHATEVER THE INPUT: true; the input reads as it did. -/
def fnExactSameVtsSpec : ChangeSpec := { name := "fnExactSameVts", fn := fun _ => fun
  | [d1, d2] => { results := [.lit (.bool true)], args := [d1, d2] }
  | _ => none }
def fnExactSameVtsRow : OpenClaim := { program := "ytceoehiaeanfkaa", sum := "0237c518c803507ed6f987f5f1124e46d87ca8c9539cd0a260d3b504696e56fe", func := "loop.example/g00523/laws.FnExactSameVts", spec := "fnExactSameVts", apart := false }
def FnExactSameVtsSaid : Prop := fnExactSameVtsRow.holds Try.pinned (OpenSpec.ofChange fnExactSameVtsSpec)

/-- ITS FALSE NEIGHBOUR: 'it returns false'. Refute it at one input. -/
def fnExactSameVtsWrong : ChangeSpec := { name := "fnExactSameVts", fn := fun _ => fun
  | [d1, d2] => { results := [.lit (.bool false)], args := [d1, d2] }
  | _ => none }
def FnExactSameVtsWrongFalsely : Prop := fnExactSameVtsRow.holds Try.pinned (OpenSpec.ofChange fnExactSameVtsWrong)

/- THE SECOND FORM. 'bulk': how many values and letters a reading holds, each counted each time it is reached (what is shared counts as often as it is met; a slice's spare places count too). A statement '..UptoSaid' is the law's where the arguments, and the package variables that the reading takes, are together of bulk at most 1048576: NARROWER than '..Said'. Prove '..Said' where nothing that the law and all that it calls make is longer than what came in: it says more and counts as full. Else prove '..UptoSaid'. A law counts once. -/
mutual
def uptoBulk {H : Type} : DataW H → Nat
  | .lit (.string bytes) => bytes.length + 1
  | .lit _ => 1
  | .nil => 1
  | .ptr d => uptoBulk d + 1
  | .slice elems spare => uptoBulkAll elems + uptoBulkAll spare + 1
  | .agg parts => uptoBulkAll parts + 1
  | .iface _ d => uptoBulk d + 1
  | .map entries => uptoBulkEntries entries + 1
  | .held _ => 1
def uptoBulkAll {H : Type} : List (DataW H) → Nat
  | [] => 0
  | d :: r => uptoBulk d + uptoBulkAll r
def uptoBulkEntries {H : Type} : List (Lit × DataW H) → Nat
  | [] => 0
  | x :: r => uptoBulkEntry x + uptoBulkEntries r
def uptoBulkEntry {H : Type} : Lit × DataW H → Nat
  | (.string bytes, d) => bytes.length + uptoBulk d + 1
  | (_, d) => uptoBulk d + 1
 end
def uptoSmall : (H : Type) → List (DataW H) → Bool := fun _ ds => decide (uptoBulkAll ds ≤ 1048576)
def OpenSpec.upto (s : _root_.Go.ChangeSpec) : _root_.Go.OpenSpec := { _root_.Go.OpenSpec.ofChange s with cond := some uptoSmall }

/-- 'laws.FnExactSameShown', WHERE WHAT IT READS IS OF BULK AT MOST 1048576: true; the input reads as it did. -/
def fnExactSameShownUptoRow : OpenClaim := { program := "ytceoehiaeanfkaa", sum := "0237c518c803507ed6f987f5f1124e46d87ca8c9539cd0a260d3b504696e56fe", func := "loop.example/g00523/laws.FnExactSameShown", spec := "fnExactSameShown", apart := false, narrowed := true }
def FnExactSameShownUptoSaid : Prop := fnExactSameShownUptoRow.holds Try.pinned (OpenSpec.upto fnExactSameShownSpec)

/-- 'laws.FnExactRowText', WHERE WHAT IT READS IS OF BULK AT MOST 1048576: true; the input reads as it did. -/
def fnExactRowTextUptoRow : OpenClaim := { program := "ytceoehiaeanfkaa", sum := "0237c518c803507ed6f987f5f1124e46d87ca8c9539cd0a260d3b504696e56fe", func := "loop.example/g00523/laws.FnExactRowText", spec := "fnExactRowText", apart := false, narrowed := true }
def FnExactRowTextUptoSaid : Prop := fnExactRowTextUptoRow.holds Try.pinned (OpenSpec.upto fnExactRowTextSpec)

/-- 'laws.FnExactResizeScreen', WHERE WHAT IT READS IS OF BULK AT MOST 1048576: true; the input reads as it did. -/
def fnExactResizeScreenUptoRow : OpenClaim := { program := "ytceoehiaeanfkaa", sum := "0237c518c803507ed6f987f5f1124e46d87ca8c9539cd0a260d3b504696e56fe", func := "loop.example/g00523/laws.FnExactResizeScreen", spec := "fnExactResizeScreen", unfollowed := true, recurses := true, apart := false, narrowed := true }
def FnExactResizeScreenUptoSaid : Prop := fnExactResizeScreenUptoRow.holds Try.pinned (OpenSpec.upto fnExactResizeScreenSpec)

/-- 'laws.FnExactVtFault', WHERE WHAT IT READS IS OF BULK AT MOST 1048576: true; the input reads as it did. -/
def fnExactVtFaultUptoRow : OpenClaim := { program := "ytceoehiaeanfkaa", sum := "0237c518c803507ed6f987f5f1124e46d87ca8c9539cd0a260d3b504696e56fe", func := "loop.example/g00523/laws.FnExactVtFault", spec := "fnExactVtFault", apart := false, narrowed := true }
def FnExactVtFaultUptoSaid : Prop := fnExactVtFaultUptoRow.holds Try.pinned (OpenSpec.upto fnExactVtFaultSpec)

/-- 'laws.FnExactNewVt', WHERE WHAT IT READS IS OF BULK AT MOST 1048576: true; the input reads as it did. -/
def fnExactNewVtUptoRow : OpenClaim := { program := "ytceoehiaeanfkaa", sum := "0237c518c803507ed6f987f5f1124e46d87ca8c9539cd0a260d3b504696e56fe", func := "loop.example/g00523/laws.FnExactNewVt", spec := "fnExactNewVt", apart := false, narrowed := true }
def FnExactNewVtUptoSaid : Prop := fnExactNewVtUptoRow.holds Try.pinned (OpenSpec.upto fnExactNewVtSpec)

/-- 'laws.FnExactSameVts', WHERE WHAT IT READS IS OF BULK AT MOST 1048576: true; the input reads as it did. -/
def fnExactSameVtsUptoRow : OpenClaim := { program := "ytceoehiaeanfkaa", sum := "0237c518c803507ed6f987f5f1124e46d87ca8c9539cd0a260d3b504696e56fe", func := "loop.example/g00523/laws.FnExactSameVts", spec := "fnExactSameVts", apart := false, narrowed := true }
def FnExactSameVtsUptoSaid : Prop := fnExactSameVtsUptoRow.holds Try.pinned (OpenSpec.upto fnExactSameVtsSpec)

end Rows
end Go.Proofs.Ytceoehiaeanfkaa
