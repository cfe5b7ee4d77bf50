/-
  No cell of these rows narrows 'for every input' (looked for: loops, veiled, ifaces, maps, wideKeys, modest, calm, conditions, laid).
  DERIVED. THE GIVEN ROWS OF THIS SEAT. 6 by the template 'for every input the law returns true; each argument reads behind the call as it read before'; 0 by the template 'total and deterministic' (their statements: YtbndncfkkhjkoahTotals.lean).
  GIVEN WITH THE SEED: the statements are not yours to turn. If you find one false, say at which input.
  Laid BY PROGRAM, IN A SANDBOX (cutbox-rows.mjs): the forced cells as the released guide's own fill.sh prints them over the translation 3f8071fbd2706c01… (all of the seat's roots in one cut). By AI agents, Wed Nov 11 2026. No macro, syntax, notation, axiom, sorry.
-/
import Derived.Test.YtbndncfkkhjkoahChecked
import GoSem.Claim
import GoSem.ClaimJoined
import GoSem.ClaimMapViews
import Derived.JoinedTies
import Derived.KernelRfl
namespace Go.Proofs.Ytbndncfkkhjkoah
/- THE CELL 'sum', in the pinned program and in every row, IS THE sha256 OF THE DUMP (.gsa) THAT YtbndncfkkhjkoahProg.lean LOADS. Nothing in Lean hashes anything: it is a label: what it is worth is what the hold of that sum in a sandbox is worth. -/
noncomputable def Try.pinned : Pinned := { name := "ytbndncfkkhjkoah", sum := "3f8071fbd2706c013b417ead32e42e86efca45ed9fa0d8f2182f077c644c2f49", checked := Try.checked }
namespace Rows
def none {H : Type} : Left H := { results := [], args := [] }

/-- 'laws.FnExactPutPair': WHATEVER THE INPUT: true; the input reads as it did. -/
def fnExactPutPairSpec : ChangeSpec := { name := "fnExactPutPair", fn := fun _ => fun
  | [d1, d2] => { results := [.lit (.bool true)], args := [d1, d2] }
  | _ => none }
def fnExactPutPairRow : OpenClaim := { program := "ytbndncfkkhjkoah", sum := "3f8071fbd2706c013b417ead32e42e86efca45ed9fa0d8f2182f077c644c2f49", func := "loop.example/g00523/laws.FnExactPutPair", spec := "fnExactPutPair", recurses := true, plainKeys := false, apart := false }
def FnExactPutPairSaid : Prop := fnExactPutPairRow.holds Try.pinned (OpenSpec.ofChange fnExactPutPairSpec)

/-- ITS FALSE NEIGHBOUR: 'it returns false'. Refute it at one input. -/
def fnExactPutPairWrong : ChangeSpec := { name := "fnExactPutPair", fn := fun _ => fun
  | [d1, d2] => { results := [.lit (.bool false)], args := [d1, d2] }
  | _ => none }
def FnExactPutPairWrongFalsely : Prop := fnExactPutPairRow.holds Try.pinned (OpenSpec.ofChange fnExactPutPairWrong)

/-- 'laws.FnExactDropPair': WHATEVER THE INPUT: true; the input reads as it did. -/
def fnExactDropPairSpec : ChangeSpec := { name := "fnExactDropPair", fn := fun _ => fun
  | [d1, d2] => { results := [.lit (.bool true)], args := [d1, d2] }
  | _ => none }
def fnExactDropPairRow : OpenClaim := { program := "ytbndncfkkhjkoah", sum := "3f8071fbd2706c013b417ead32e42e86efca45ed9fa0d8f2182f077c644c2f49", func := "loop.example/g00523/laws.FnExactDropPair", spec := "fnExactDropPair", recurses := true, plainKeys := false, apart := false }
def FnExactDropPairSaid : Prop := fnExactDropPairRow.holds Try.pinned (OpenSpec.ofChange fnExactDropPairSpec)

/-- ITS FALSE NEIGHBOUR: 'it returns false'. Refute it at one input. -/
def fnExactDropPairWrong : ChangeSpec := { name := "fnExactDropPair", fn := fun _ => fun
  | [d1, d2] => { results := [.lit (.bool false)], args := [d1, d2] }
  | _ => none }
def FnExactDropPairWrongFalsely : Prop := fnExactDropPairRow.holds Try.pinned (OpenSpec.ofChange fnExactDropPairWrong)

/-- 'laws.FnExactGlyphOf': WHATEVER THE INPUT: true; the input reads as it did. -/
def fnExactGlyphOfSpec : ChangeSpec := { name := "fnExactGlyphOf", fn := fun _ => fun
  | [d1, d2] => { results := [.lit (.bool true)], args := [d1, d2] }
  | _ => none }
def fnExactGlyphOfRow : OpenClaim := { program := "ytbndncfkkhjkoah", sum := "3f8071fbd2706c013b417ead32e42e86efca45ed9fa0d8f2182f077c644c2f49", func := "loop.example/g00523/laws.FnExactGlyphOf", spec := "fnExactGlyphOf", plainKeys := false, apart := false }
def FnExactGlyphOfSaid : Prop := fnExactGlyphOfRow.holds Try.pinned (OpenSpec.ofChange fnExactGlyphOfSpec)

/-- ITS FALSE NEIGHBOUR: 'it returns false'. Refute it at one input. -/
def fnExactGlyphOfWrong : ChangeSpec := { name := "fnExactGlyphOf", fn := fun _ => fun
  | [d1, d2] => { results := [.lit (.bool false)], args := [d1, d2] }
  | _ => none }
def FnExactGlyphOfWrongFalsely : Prop := fnExactGlyphOfRow.holds Try.pinned (OpenSpec.ofChange fnExactGlyphOfWrong)

/-- 'laws.FnExactCharsOf': WHATEVER THE INPUT: true; the input reads as it did. -/
def fnExactCharsOfSpec : ChangeSpec := { name := "fnExactCharsOf", fn := fun _ => fun
  | [d1, d2] => { results := [.lit (.bool true)], args := [d1, d2] }
  | _ => none }
def fnExactCharsOfRow : OpenClaim := { program := "ytbndncfkkhjkoah", sum := "3f8071fbd2706c013b417ead32e42e86efca45ed9fa0d8f2182f077c644c2f49", func := "loop.example/g00523/laws.FnExactCharsOf", spec := "fnExactCharsOf", recurses := true, plainKeys := false, apart := false }
def FnExactCharsOfSaid : Prop := fnExactCharsOfRow.holds Try.pinned (OpenSpec.ofChange fnExactCharsOfSpec)

/-- ITS FALSE NEIGHBOUR: 'it returns false'. Refute it at one input. -/
def fnExactCharsOfWrong : ChangeSpec := { name := "fnExactCharsOf", fn := fun _ => fun
  | [d1, d2] => { results := [.lit (.bool false)], args := [d1, d2] }
  | _ => none }
def FnExactCharsOfWrongFalsely : Prop := fnExactCharsOfRow.holds Try.pinned (OpenSpec.ofChange fnExactCharsOfWrong)

/-- 'laws.FnExactTranslateChar': WHATEVER THE INPUT: true; the input reads as it did. -/
def fnExactTranslateCharSpec : ChangeSpec := { name := "fnExactTranslateChar", fn := fun _ => fun
  | [d1, d2] => { results := [.lit (.bool true)], args := [d1, d2] }
  | _ => none }
def fnExactTranslateCharRow : OpenClaim := { program := "ytbndncfkkhjkoah", sum := "3f8071fbd2706c013b417ead32e42e86efca45ed9fa0d8f2182f077c644c2f49", func := "loop.example/g00523/laws.FnExactTranslateChar", spec := "fnExactTranslateChar", plainKeys := false, apart := false }
def FnExactTranslateCharSaid : Prop := fnExactTranslateCharRow.holds Try.pinned (OpenSpec.ofChange fnExactTranslateCharSpec)

/-- ITS FALSE NEIGHBOUR: 'it returns false'. Refute it at one input. -/
def fnExactTranslateCharWrong : ChangeSpec := { name := "fnExactTranslateChar", fn := fun _ => fun
  | [d1, d2] => { results := [.lit (.bool false)], args := [d1, d2] }
  | _ => none }
def FnExactTranslateCharWrongFalsely : Prop := fnExactTranslateCharRow.holds Try.pinned (OpenSpec.ofChange fnExactTranslateCharWrong)

/-- 'laws.FnExactGridFault': WHATEVER THE INPUT: true; the input reads as it did. -/
def fnExactGridFaultSpec : ChangeSpec := { name := "fnExactGridFault", fn := fun _ => fun
  | [d] => { results := [.lit (.bool true)], args := [d] }
  | _ => none }
def fnExactGridFaultRow : OpenClaim := { program := "ytbndncfkkhjkoah", sum := "3f8071fbd2706c013b417ead32e42e86efca45ed9fa0d8f2182f077c644c2f49", func := "loop.example/g00523/laws.FnExactGridFault", spec := "fnExactGridFault", plainKeys := false, apart := false }
def FnExactGridFaultSaid : Prop := fnExactGridFaultRow.holds Try.pinned (OpenSpec.ofChange fnExactGridFaultSpec)

/-- ITS FALSE NEIGHBOUR: 'it returns false'. Refute it at one input. -/
def fnExactGridFaultWrong : ChangeSpec := { name := "fnExactGridFault", fn := fun _ => fun
  | [d] => { results := [.lit (.bool false)], args := [d] }
  | _ => none }
def FnExactGridFaultWrongFalsely : Prop := fnExactGridFaultRow.holds Try.pinned (OpenSpec.ofChange fnExactGridFaultWrong)

/- THE SECOND FORM. 'bulk': how many values and letters a reading holds, each counted each time it is reached (what is shared counts as often as it is met; a slice's spare places count too). A statement '..UptoSaid' is the law's where the arguments, and the package variables that the reading takes, are together of bulk at most 1048576: NARROWER than '..Said'. Prove '..Said' where nothing that the law and all that it calls make is longer than what came in: it says more and counts as full. Else prove '..UptoSaid'. A law counts once. -/
mutual
def uptoBulk {H : Type} : DataW H → Nat
  | .lit (.string bytes) => bytes.length + 1
  | .lit _ => 1
  | .nil => 1
  | .ptr d => uptoBulk d + 1
  | .slice elems spare => uptoBulkAll elems + uptoBulkAll spare + 1
  | .agg parts => uptoBulkAll parts + 1
  | .iface _ d => uptoBulk d + 1
  | .map entries => uptoBulkEntries entries + 1
  | .held _ => 1
def uptoBulkAll {H : Type} : List (DataW H) → Nat
  | [] => 0
  | d :: r => uptoBulk d + uptoBulkAll r
def uptoBulkEntries {H : Type} : List (Lit × DataW H) → Nat
  | [] => 0
  | x :: r => uptoBulkEntry x + uptoBulkEntries r
def uptoBulkEntry {H : Type} : Lit × DataW H → Nat
  | (.string bytes, d) => bytes.length + uptoBulk d + 1
  | (_, d) => uptoBulk d + 1
 end
def uptoSmall : (H : Type) → List (DataW H) → Bool := fun _ ds => decide (uptoBulkAll ds ≤ 1048576)
def OpenSpec.upto (s : _root_.Go.ChangeSpec) : _root_.Go.OpenSpec := { _root_.Go.OpenSpec.ofChange s with cond := some uptoSmall }

/-- 'laws.FnExactPutPair', WHERE WHAT IT READS IS OF BULK AT MOST 1048576: true; the input reads as it did. -/
def fnExactPutPairUptoRow : OpenClaim := { program := "ytbndncfkkhjkoah", sum := "3f8071fbd2706c013b417ead32e42e86efca45ed9fa0d8f2182f077c644c2f49", func := "loop.example/g00523/laws.FnExactPutPair", spec := "fnExactPutPair", recurses := true, plainKeys := false, apart := false, narrowed := true }
def FnExactPutPairUptoSaid : Prop := fnExactPutPairUptoRow.holds Try.pinned (OpenSpec.upto fnExactPutPairSpec)

/-- 'laws.FnExactDropPair', WHERE WHAT IT READS IS OF BULK AT MOST 1048576: true; the input reads as it did. -/
def fnExactDropPairUptoRow : OpenClaim := { program := "ytbndncfkkhjkoah", sum := "3f8071fbd2706c013b417ead32e42e86efca45ed9fa0d8f2182f077c644c2f49", func := "loop.example/g00523/laws.FnExactDropPair", spec := "fnExactDropPair", recurses := true, plainKeys := false, apart := false, narrowed := true }
def FnExactDropPairUptoSaid : Prop := fnExactDropPairUptoRow.holds Try.pinned (OpenSpec.upto fnExactDropPairSpec)

/-- 'laws.FnExactGlyphOf', WHERE WHAT IT READS IS OF BULK AT MOST 1048576: true; the input reads as it did. -/
def fnExactGlyphOfUptoRow : OpenClaim := { program := "ytbndncfkkhjkoah", sum := "3f8071fbd2706c013b417ead32e42e86efca45ed9fa0d8f2182f077c644c2f49", func := "loop.example/g00523/laws.FnExactGlyphOf", spec := "fnExactGlyphOf", plainKeys := false, apart := false, narrowed := true }
def FnExactGlyphOfUptoSaid : Prop := fnExactGlyphOfUptoRow.holds Try.pinned (OpenSpec.upto fnExactGlyphOfSpec)

/-- 'laws.FnExactCharsOf', WHERE WHAT IT READS IS OF BULK AT MOST 1048576: true; the input reads as it did. -/
def fnExactCharsOfUptoRow : OpenClaim := { program := "ytbndncfkkhjkoah", sum := "3f8071fbd2706c013b417ead32e42e86efca45ed9fa0d8f2182f077c644c2f49", func := "loop.example/g00523/laws.FnExactCharsOf", spec := "fnExactCharsOf", recurses := true, plainKeys := false, apart := false, narrowed := true }
def FnExactCharsOfUptoSaid : Prop := fnExactCharsOfUptoRow.holds Try.pinned (OpenSpec.upto fnExactCharsOfSpec)

/-- 'laws.FnExactTranslateChar', WHERE WHAT IT READS IS OF BULK AT MOST 1048576: true; the input reads as it did. -/
def fnExactTranslateCharUptoRow : OpenClaim := { program := "ytbndncfkkhjkoah", sum := "3f8071fbd2706c013b417ead32e42e86efca45ed9fa0d8f2182f077c644c2f49", func := "loop.example/g00523/laws.FnExactTranslateChar", spec := "fnExactTranslateChar", plainKeys := false, apart := false, narrowed := true }
def FnExactTranslateCharUptoSaid : Prop := fnExactTranslateCharUptoRow.holds Try.pinned (OpenSpec.upto fnExactTranslateCharSpec)

/-- 'laws.FnExactGridFault', WHERE WHAT IT READS IS OF BULK AT MOST 1048576: true; the input reads as it did. -/
def fnExactGridFaultUptoRow : OpenClaim := { program := "ytbndncfkkhjkoah", sum := "3f8071fbd2706c013b417ead32e42e86efca45ed9fa0d8f2182f077c644c2f49", func := "loop.example/g00523/laws.FnExactGridFault", spec := "fnExactGridFault", plainKeys := false, apart := false, narrowed := true }
def FnExactGridFaultUptoSaid : Prop := fnExactGridFaultUptoRow.holds Try.pinned (OpenSpec.upto fnExactGridFaultSpec)

end Rows
end Go.Proofs.Ytbndncfkkhjkoah
