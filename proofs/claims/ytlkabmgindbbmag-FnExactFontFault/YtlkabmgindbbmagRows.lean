/-
  No cell of these rows narrows 'for every input' (looked for: loops, veiled, ifaces, maps, wideKeys, modest, calm, conditions, laid).
  DERIVED. THE GIVEN ROWS OF THIS SEAT. 6 by the template 'for every input the law returns true; each argument reads behind the call as it read before'; 0 by the template 'total and deterministic' (their statements: YtlkabmgindbbmagTotals.lean).
  GIVEN WITH THE SEED: the statements are not yours to turn. If you find one false, say at which input.
  Laid BY PROGRAM, IN A SANDBOX (cutbox-rows.mjs): the forced cells as the released guide's own fill.sh prints them over the translation 4bf0e80826a26c8c… (all of the seat's roots in one cut). By AI agents, Wed Nov 11 2026. No macro, syntax, notation, axiom, sorry.
-/
import Derived.Test.YtlkabmgindbbmagChecked
import GoSem.Claim
import GoSem.ClaimJoined
import GoSem.ClaimMapViews
import Derived.JoinedTies
import Derived.KernelRfl
namespace Go.Proofs.Ytlkabmgindbbmag
/- THE CELL 'sum', in the pinned program and in every row, IS THE sha256 OF THE DUMP (.gsa) THAT YtlkabmgindbbmagProg.lean LOADS. Nothing in Lean hashes anything: it is a label: what it is worth is what the hold of that sum in a sandbox is worth. -/
noncomputable def Try.pinned : Pinned := { name := "ytlkabmgindbbmag", sum := "4bf0e80826a26c8c60a48fdfc8082b3bb1df34f396fb23acca1316d9730ae572", checked := Try.checked }
namespace Rows
def none {H : Type} : Left H := { results := [], args := [] }

/-- 'laws.FnExactStepDecoder': WHATEVER THE INPUT: true; the input reads as it did. -/
def fnExactStepDecoderSpec : ChangeSpec := { name := "fnExactStepDecoder", fn := fun _ => fun
  | [d1, d2] => { results := [.lit (.bool true)], args := [d1, d2] }
  | _ => none }
def fnExactStepDecoderRow : OpenClaim := { program := "ytlkabmgindbbmag", sum := "4bf0e80826a26c8c60a48fdfc8082b3bb1df34f396fb23acca1316d9730ae572", func := "loop.example/g00523/laws.FnExactStepDecoder", spec := "fnExactStepDecoder", apart := false }
def FnExactStepDecoderSaid : Prop := fnExactStepDecoderRow.holds Try.pinned (OpenSpec.ofChange fnExactStepDecoderSpec)

/-- ITS FALSE NEIGHBOUR: 'it returns false'. Refute it at one input. -/
def fnExactStepDecoderWrong : ChangeSpec := { name := "fnExactStepDecoder", fn := fun _ => fun
  | [d1, d2] => { results := [.lit (.bool false)], args := [d1, d2] }
  | _ => none }
def FnExactStepDecoderWrongFalsely : Prop := fnExactStepDecoderRow.holds Try.pinned (OpenSpec.ofChange fnExactStepDecoderWrong)

/-- 'laws.FnExactDecodeMany': WHATEVER THE INPUT: true; the input reads as it did. -/
def fnExactDecodeManySpec : ChangeSpec := { name := "fnExactDecodeMany", fn := fun _ => fun
  | [d1, d2] => { results := [.lit (.bool true)], args := [d1, d2] }
  | _ => none }
def fnExactDecodeManyRow : OpenClaim := { program := "ytlkabmgindbbmag", sum := "4bf0e80826a26c8c60a48fdfc8082b3bb1df34f396fb23acca1316d9730ae572", func := "loop.example/g00523/laws.FnExactDecodeMany", spec := "fnExactDecodeMany", apart := false }
def FnExactDecodeManySaid : Prop := fnExactDecodeManyRow.holds Try.pinned (OpenSpec.ofChange fnExactDecodeManySpec)

/-- ITS FALSE NEIGHBOUR: 'it returns false'. Refute it at one input. -/
def fnExactDecodeManyWrong : ChangeSpec := { name := "fnExactDecodeMany", fn := fun _ => fun
  | [d1, d2] => { results := [.lit (.bool false)], args := [d1, d2] }
  | _ => none }
def FnExactDecodeManyWrongFalsely : Prop := fnExactDecodeManyRow.holds Try.pinned (OpenSpec.ofChange fnExactDecodeManyWrong)

/-- 'laws.FnExactEncodeChar': WHATEVER THE INPUT: true; the input reads as it did. -/
def fnExactEncodeCharSpec : ChangeSpec := { name := "fnExactEncodeChar", fn := fun _ => fun
  | [d] => { results := [.lit (.bool true)], args := [d] }
  | _ => none }
def fnExactEncodeCharRow : OpenClaim := { program := "ytlkabmgindbbmag", sum := "4bf0e80826a26c8c60a48fdfc8082b3bb1df34f396fb23acca1316d9730ae572", func := "loop.example/g00523/laws.FnExactEncodeChar", spec := "fnExactEncodeChar", apart := false }
def FnExactEncodeCharSaid : Prop := fnExactEncodeCharRow.holds Try.pinned (OpenSpec.ofChange fnExactEncodeCharSpec)

/-- ITS FALSE NEIGHBOUR: 'it returns false'. Refute it at one input. -/
def fnExactEncodeCharWrong : ChangeSpec := { name := "fnExactEncodeChar", fn := fun _ => fun
  | [d] => { results := [.lit (.bool false)], args := [d] }
  | _ => none }
def FnExactEncodeCharWrongFalsely : Prop := fnExactEncodeCharRow.holds Try.pinned (OpenSpec.ofChange fnExactEncodeCharWrong)

/-- 'laws.FnExactEncodeAll': WHATEVER THE INPUT: true; the input reads as it did. -/
def fnExactEncodeAllSpec : ChangeSpec := { name := "fnExactEncodeAll", fn := fun _ => fun
  | [d] => { results := [.lit (.bool true)], args := [d] }
  | _ => none }
def fnExactEncodeAllRow : OpenClaim := { program := "ytlkabmgindbbmag", sum := "4bf0e80826a26c8c60a48fdfc8082b3bb1df34f396fb23acca1316d9730ae572", func := "loop.example/g00523/laws.FnExactEncodeAll", spec := "fnExactEncodeAll", apart := false }
def FnExactEncodeAllSaid : Prop := fnExactEncodeAllRow.holds Try.pinned (OpenSpec.ofChange fnExactEncodeAllSpec)

/-- ITS FALSE NEIGHBOUR: 'it returns false'. Refute it at one input. -/
def fnExactEncodeAllWrong : ChangeSpec := { name := "fnExactEncodeAll", fn := fun _ => fun
  | [d] => { results := [.lit (.bool false)], args := [d] }
  | _ => none }
def FnExactEncodeAllWrongFalsely : Prop := fnExactEncodeAllRow.holds Try.pinned (OpenSpec.ofChange fnExactEncodeAllWrong)

/-- 'laws.FnExactEndDecoder': WHATEVER THE INPUT: true; the input reads as it did. -/
def fnExactEndDecoderSpec : ChangeSpec := { name := "fnExactEndDecoder", fn := fun _ => fun
  | [d] => { results := [.lit (.bool true)], args := [d] }
  | _ => none }
def fnExactEndDecoderRow : OpenClaim := { program := "ytlkabmgindbbmag", sum := "4bf0e80826a26c8c60a48fdfc8082b3bb1df34f396fb23acca1316d9730ae572", func := "loop.example/g00523/laws.FnExactEndDecoder", spec := "fnExactEndDecoder", apart := false }
def FnExactEndDecoderSaid : Prop := fnExactEndDecoderRow.holds Try.pinned (OpenSpec.ofChange fnExactEndDecoderSpec)

/-- ITS FALSE NEIGHBOUR: 'it returns false'. Refute it at one input. -/
def fnExactEndDecoderWrong : ChangeSpec := { name := "fnExactEndDecoder", fn := fun _ => fun
  | [d] => { results := [.lit (.bool false)], args := [d] }
  | _ => none }
def FnExactEndDecoderWrongFalsely : Prop := fnExactEndDecoderRow.holds Try.pinned (OpenSpec.ofChange fnExactEndDecoderWrong)

/-- 'laws.FnExactFontFault': WHATEVER THE INPUT: true; the input reads as it did. -/
def fnExactFontFaultSpec : ChangeSpec := { name := "fnExactFontFault", fn := fun _ => fun
  | [d] => { results := [.lit (.bool true)], args := [d] }
  | _ => none }
def fnExactFontFaultRow : OpenClaim := { program := "ytlkabmgindbbmag", sum := "4bf0e80826a26c8c60a48fdfc8082b3bb1df34f396fb23acca1316d9730ae572", func := "loop.example/g00523/laws.FnExactFontFault", spec := "fnExactFontFault", apart := false }
def FnExactFontFaultSaid : Prop := fnExactFontFaultRow.holds Try.pinned (OpenSpec.ofChange fnExactFontFaultSpec)

/-- ITS FALSE NEIGHBOUR: 'it returns false'. Refute it at one input. -/
def fnExactFontFaultWrong : ChangeSpec := { name := "fnExactFontFault", fn := fun _ => fun
  | [d] => { results := [.lit (.bool false)], args := [d] }
  | _ => none }
def FnExactFontFaultWrongFalsely : Prop := fnExactFontFaultRow.holds Try.pinned (OpenSpec.ofChange fnExactFontFaultWrong)

/- THE SECOND FORM. 'bulk': how many values and letters a reading holds, each counted each time it is reached (what is shared counts as often as it is met; a slice's spare places count too). A statement '..UptoSaid' is the law's where the arguments, and the package variables that the reading takes, are together of bulk at most 1048576: NARROWER than '..Said'. Prove '..Said' where nothing that the law and all that it calls make is longer than what came in: it says more and counts as full. Else prove '..UptoSaid'. A law counts once. -/
mutual
def uptoBulk {H : Type} : DataW H → Nat
  | .lit (.string bytes) => bytes.length + 1
  | .lit _ => 1
  | .nil => 1
  | .ptr d => uptoBulk d + 1
  | .slice elems spare => uptoBulkAll elems + uptoBulkAll spare + 1
  | .agg parts => uptoBulkAll parts + 1
  | .iface _ d => uptoBulk d + 1
  | .map entries => uptoBulkEntries entries + 1
  | .held _ => 1
def uptoBulkAll {H : Type} : List (DataW H) → Nat
  | [] => 0
  | d :: r => uptoBulk d + uptoBulkAll r
def uptoBulkEntries {H : Type} : List (Lit × DataW H) → Nat
  | [] => 0
  | x :: r => uptoBulkEntry x + uptoBulkEntries r
def uptoBulkEntry {H : Type} : Lit × DataW H → Nat
  | (.string bytes, d) => bytes.length + uptoBulk d + 1
  | (_, d) => uptoBulk d + 1
 end
def uptoSmall : (H : Type) → List (DataW H) → Bool := fun _ ds => decide (uptoBulkAll ds ≤ 1048576)
def OpenSpec.upto (s : _root_.Go.ChangeSpec) : _root_.Go.OpenSpec := { _root_.Go.OpenSpec.ofChange s with cond := some uptoSmall }

/-- 'laws.FnExactStepDecoder', WHERE WHAT IT READS IS OF BULK AT MOST 1048576: true; the input reads as it did. -/
def fnExactStepDecoderUptoRow : OpenClaim := { program := "ytlkabmgindbbmag", sum := "4bf0e80826a26c8c60a48fdfc8082b3bb1df34f396fb23acca1316d9730ae572", func := "loop.example/g00523/laws.FnExactStepDecoder", spec := "fnExactStepDecoder", apart := false, narrowed := true }
def FnExactStepDecoderUptoSaid : Prop := fnExactStepDecoderUptoRow.holds Try.pinned (OpenSpec.upto fnExactStepDecoderSpec)

/-- 'laws.FnExactDecodeMany', WHERE WHAT IT READS IS OF BULK AT MOST 1048576: true; the input reads as it did. -/
def fnExactDecodeManyUptoRow : OpenClaim := { program := "ytlkabmgindbbmag", sum := "4bf0e80826a26c8c60a48fdfc8082b3bb1df34f396fb23acca1316d9730ae572", func := "loop.example/g00523/laws.FnExactDecodeMany", spec := "fnExactDecodeMany", apart := false, narrowed := true }
def FnExactDecodeManyUptoSaid : Prop := fnExactDecodeManyUptoRow.holds Try.pinned (OpenSpec.upto fnExactDecodeManySpec)

/-- 'laws.FnExactEncodeChar', WHERE WHAT IT READS IS OF BULK AT MOST 1048576: true; the input reads as it did. -/
def fnExactEncodeCharUptoRow : OpenClaim := { program := "ytlkabmgindbbmag", sum := "4bf0e80826a26c8c60a48fdfc8082b3bb1df34f396fb23acca1316d9730ae572", func := "loop.example/g00523/laws.FnExactEncodeChar", spec := "fnExactEncodeChar", apart := false, narrowed := true }
def FnExactEncodeCharUptoSaid : Prop := fnExactEncodeCharUptoRow.holds Try.pinned (OpenSpec.upto fnExactEncodeCharSpec)

/-- 'laws.FnExactEncodeAll', WHERE WHAT IT READS IS OF BULK AT MOST 1048576: true; the input reads as it did. -/
def fnExactEncodeAllUptoRow : OpenClaim := { program := "ytlkabmgindbbmag", sum := "4bf0e80826a26c8c60a48fdfc8082b3bb1df34f396fb23acca1316d9730ae572", func := "loop.example/g00523/laws.FnExactEncodeAll", spec := "fnExactEncodeAll", apart := false, narrowed := true }
def FnExactEncodeAllUptoSaid : Prop := fnExactEncodeAllUptoRow.holds Try.pinned (OpenSpec.upto fnExactEncodeAllSpec)

/-- 'laws.FnExactEndDecoder', WHERE WHAT IT READS IS OF BULK AT MOST 1048576: true; the input reads as it did. -/
def fnExactEndDecoderUptoRow : OpenClaim := { program := "ytlkabmgindbbmag", sum := "4bf0e80826a26c8c60a48fdfc8082b3bb1df34f396fb23acca1316d9730ae572", func := "loop.example/g00523/laws.FnExactEndDecoder", spec := "fnExactEndDecoder", apart := false, narrowed := true }
def FnExactEndDecoderUptoSaid : Prop := fnExactEndDecoderUptoRow.holds Try.pinned (OpenSpec.upto fnExactEndDecoderSpec)

/-- 'laws.FnExactFontFault', WHERE WHAT IT READS IS OF BULK AT MOST 1048576: true; the input reads as it did. -/
def fnExactFontFaultUptoRow : OpenClaim := { program := "ytlkabmgindbbmag", sum := "4bf0e80826a26c8c60a48fdfc8082b3bb1df34f396fb23acca1316d9730ae572", func := "loop.example/g00523/laws.FnExactFontFault", spec := "fnExactFontFault", apart := false, narrowed := true }
def FnExactFontFaultUptoSaid : Prop := fnExactFontFaultUptoRow.holds Try.pinned (OpenSpec.upto fnExactFontFaultSpec)

end Rows
end Go.Proofs.Ytlkabmgindbbmag
