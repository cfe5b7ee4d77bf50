/-
  No cell of these rows narrows 'for every input' (looked for: loops, veiled, ifaces, maps, wideKeys, modest, calm, conditions, laid).
  DERIVED. THE GIVEN ROWS OF THIS SEAT. 6 by the template 'for every input the law returns true; each argument reads behind the call as it read before'; 0 by the template 'total and deterministic' (their statements: YtbndncfkkhjkoaaTotals.lean).
  GIVEN WITH THE SEED: the statements are not yours to turn. If you find one false, say at which input.
  Laid BY PROGRAM, IN A SANDBOX (cutbox-rows.mjs): the forced cells as the released guide's own fill.sh prints them over the translation a5ebe9012cfc0bd6… (all of the seat's roots in one cut). By AI agents, Wed Nov 11 2026. No macro, syntax, notation, axiom, sorry.
-/
import Derived.Test.YtbndncfkkhjkoaaChecked
import GoSem.Claim
import GoSem.ClaimJoined
import GoSem.ClaimMapViews
import Derived.JoinedTies
import Derived.KernelRfl
namespace Go.Proofs.Ytbndncfkkhjkoaa
/- THE CELL 'sum', in the pinned program and in every row, IS THE sha256 OF THE DUMP (.gsa) THAT YtbndncfkkhjkoaaProg.lean LOADS. Nothing in Lean hashes anything: it is a label: what it is worth is what the hold of that sum in a sandbox is worth. -/
noncomputable def Try.pinned : Pinned := { name := "ytbndncfkkhjkoaa", sum := "a5ebe9012cfc0bd6d6c6b1c5376486d2262af2a7e83d52170159f2ee20bce01d", checked := Try.checked }
namespace Rows
def none {H : Type} : Left H := { results := [], args := [] }

/-- 'laws.FnChars': WHATEVER THE INPUT: true; the input reads as it did. -/
def fnCharsSpec : ChangeSpec := { name := "fnChars", fn := fun _ => fun
  | [d] => { results := [.lit (.bool true)], args := [d] }
  | _ => none }
def fnCharsRow : OpenClaim := { program := "ytbndncfkkhjkoaa", sum := "a5ebe9012cfc0bd6d6c6b1c5376486d2262af2a7e83d52170159f2ee20bce01d", func := "loop.example/g00523/laws.FnChars", spec := "fnChars", plainKeys := false, apart := false }
def FnCharsSaid : Prop := fnCharsRow.holds Try.pinned (OpenSpec.ofChange fnCharsSpec)

/-- ITS FALSE NEIGHBOUR: 'it returns false'. Refute it at one input. -/
def fnCharsWrong : ChangeSpec := { name := "fnChars", fn := fun _ => fun
  | [d] => { results := [.lit (.bool false)], args := [d] }
  | _ => none }
def FnCharsWrongFalsely : Prop := fnCharsRow.holds Try.pinned (OpenSpec.ofChange fnCharsWrong)

/-- 'laws.FnBytes': WHATEVER THE INPUT: true; the input reads as it did. -/
def fnBytesSpec : ChangeSpec := { name := "fnBytes", fn := fun _ => fun
  | [d] => { results := [.lit (.bool true)], args := [d] }
  | _ => none }
def fnBytesRow : OpenClaim := { program := "ytbndncfkkhjkoaa", sum := "a5ebe9012cfc0bd6d6c6b1c5376486d2262af2a7e83d52170159f2ee20bce01d", func := "loop.example/g00523/laws.FnBytes", spec := "fnBytes", plainKeys := false, apart := false }
def FnBytesSaid : Prop := fnBytesRow.holds Try.pinned (OpenSpec.ofChange fnBytesSpec)

/-- ITS FALSE NEIGHBOUR: 'it returns false'. Refute it at one input. -/
def fnBytesWrong : ChangeSpec := { name := "fnBytes", fn := fun _ => fun
  | [d] => { results := [.lit (.bool false)], args := [d] }
  | _ => none }
def FnBytesWrongFalsely : Prop := fnBytesRow.holds Try.pinned (OpenSpec.ofChange fnBytesWrong)

/-- 'laws.FnFonts': WHATEVER THE INPUT: true; the input reads as it did. -/
def fnFontsSpec : ChangeSpec := { name := "fnFonts", fn := fun _ => fun
  | [d] => { results := [.lit (.bool true)], args := [d] }
  | _ => none }
def fnFontsRow : OpenClaim := { program := "ytbndncfkkhjkoaa", sum := "a5ebe9012cfc0bd6d6c6b1c5376486d2262af2a7e83d52170159f2ee20bce01d", func := "loop.example/g00523/laws.FnFonts", spec := "fnFonts", recurses := true, plainKeys := false, apart := false }
def FnFontsSaid : Prop := fnFontsRow.holds Try.pinned (OpenSpec.ofChange fnFontsSpec)

/-- ITS FALSE NEIGHBOUR: 'it returns false'. Refute it at one input. -/
def fnFontsWrong : ChangeSpec := { name := "fnFonts", fn := fun _ => fun
  | [d] => { results := [.lit (.bool false)], args := [d] }
  | _ => none }
def FnFontsWrongFalsely : Prop := fnFontsRow.holds Try.pinned (OpenSpec.ofChange fnFontsWrong)

/-- 'laws.FnGlyphs': WHATEVER THE INPUT: true; the input reads as it did. -/
def fnGlyphsSpec : ChangeSpec := { name := "fnGlyphs", fn := fun _ => fun
  | [d] => { results := [.lit (.bool true)], args := [d] }
  | _ => none }
def fnGlyphsRow : OpenClaim := { program := "ytbndncfkkhjkoaa", sum := "a5ebe9012cfc0bd6d6c6b1c5376486d2262af2a7e83d52170159f2ee20bce01d", func := "loop.example/g00523/laws.FnGlyphs", spec := "fnGlyphs", recurses := true, plainKeys := false, apart := false }
def FnGlyphsSaid : Prop := fnGlyphsRow.holds Try.pinned (OpenSpec.ofChange fnGlyphsSpec)

/-- ITS FALSE NEIGHBOUR: 'it returns false'. Refute it at one input. -/
def fnGlyphsWrong : ChangeSpec := { name := "fnGlyphs", fn := fun _ => fun
  | [d] => { results := [.lit (.bool false)], args := [d] }
  | _ => none }
def FnGlyphsWrongFalsely : Prop := fnGlyphsRow.holds Try.pinned (OpenSpec.ofChange fnGlyphsWrong)

/-- 'laws.FnCells': WHATEVER THE INPUT: true; the input reads as it did. -/
def fnCellsSpec : ChangeSpec := { name := "fnCells", fn := fun _ => fun
  | [d] => { results := [.lit (.bool true)], args := [d] }
  | _ => none }
def fnCellsRow : OpenClaim := { program := "ytbndncfkkhjkoaa", sum := "a5ebe9012cfc0bd6d6c6b1c5376486d2262af2a7e83d52170159f2ee20bce01d", func := "loop.example/g00523/laws.FnCells", spec := "fnCells", plainKeys := false, apart := false }
def FnCellsSaid : Prop := fnCellsRow.holds Try.pinned (OpenSpec.ofChange fnCellsSpec)

/-- ITS FALSE NEIGHBOUR: 'it returns false'. Refute it at one input. -/
def fnCellsWrong : ChangeSpec := { name := "fnCells", fn := fun _ => fun
  | [d] => { results := [.lit (.bool false)], args := [d] }
  | _ => none }
def FnCellsWrongFalsely : Prop := fnCellsRow.holds Try.pinned (OpenSpec.ofChange fnCellsWrong)

/-- 'laws.FnScrolls': WHATEVER THE INPUT: true; the input reads as it did. -/
def fnScrollsSpec : ChangeSpec := { name := "fnScrolls", fn := fun _ => fun
  | [d] => { results := [.lit (.bool true)], args := [d] }
  | _ => none }
def fnScrollsRow : OpenClaim := { program := "ytbndncfkkhjkoaa", sum := "a5ebe9012cfc0bd6d6c6b1c5376486d2262af2a7e83d52170159f2ee20bce01d", func := "loop.example/g00523/laws.FnScrolls", spec := "fnScrolls", unfollowed := true, recurses := true, plainKeys := false, apart := false }
def FnScrollsSaid : Prop := fnScrollsRow.holds Try.pinned (OpenSpec.ofChange fnScrollsSpec)

/-- ITS FALSE NEIGHBOUR: 'it returns false'. Refute it at one input. -/
def fnScrollsWrong : ChangeSpec := { name := "fnScrolls", fn := fun _ => fun
  | [d] => { results := [.lit (.bool false)], args := [d] }
  | _ => none }
def FnScrollsWrongFalsely : Prop := fnScrollsRow.holds Try.pinned (OpenSpec.ofChange fnScrollsWrong)

/- THE SECOND FORM. 'bulk': how many values and letters a reading holds, each counted each time it is reached (what is shared counts as often as it is met; a slice's spare places count too). A statement '..UptoSaid' is the law's where the arguments, and the package variables that the reading takes, are together of bulk at most 1048576: NARROWER than '..Said'. Prove '..Said' where nothing that the law and all that it calls make is longer than what came in: it says more and counts as full. Else prove '..UptoSaid'. A law counts once. -/
mutual
def uptoBulk {H : Type} : DataW H → Nat
  | .lit (.string bytes) => bytes.length + 1
  | .lit _ => 1
  | .nil => 1
  | .ptr d => uptoBulk d + 1
  | .slice elems spare => uptoBulkAll elems + uptoBulkAll spare + 1
  | .agg parts => uptoBulkAll parts + 1
  | .iface _ d => uptoBulk d + 1
  | .map entries => uptoBulkEntries entries + 1
  | .held _ => 1
def uptoBulkAll {H : Type} : List (DataW H) → Nat
  | [] => 0
  | d :: r => uptoBulk d + uptoBulkAll r
def uptoBulkEntries {H : Type} : List (Lit × DataW H) → Nat
  | [] => 0
  | x :: r => uptoBulkEntry x + uptoBulkEntries r
def uptoBulkEntry {H : Type} : Lit × DataW H → Nat
  | (.string bytes, d) => bytes.length + uptoBulk d + 1
  | (_, d) => uptoBulk d + 1
 end
def uptoSmall : (H : Type) → List (DataW H) → Bool := fun _ ds => decide (uptoBulkAll ds ≤ 1048576)
def OpenSpec.upto (s : _root_.Go.ChangeSpec) : _root_.Go.OpenSpec := { _root_.Go.OpenSpec.ofChange s with cond := some uptoSmall }

/-- 'laws.FnChars', WHERE WHAT IT READS IS OF BULK AT MOST 1048576: true; the input reads as it did. -/
def fnCharsUptoRow : OpenClaim := { program := "ytbndncfkkhjkoaa", sum := "a5ebe9012cfc0bd6d6c6b1c5376486d2262af2a7e83d52170159f2ee20bce01d", func := "loop.example/g00523/laws.FnChars", spec := "fnChars", plainKeys := false, apart := false, narrowed := true }
def FnCharsUptoSaid : Prop := fnCharsUptoRow.holds Try.pinned (OpenSpec.upto fnCharsSpec)

/-- 'laws.FnBytes', WHERE WHAT IT READS IS OF BULK AT MOST 1048576: true; the input reads as it did. -/
def fnBytesUptoRow : OpenClaim := { program := "ytbndncfkkhjkoaa", sum := "a5ebe9012cfc0bd6d6c6b1c5376486d2262af2a7e83d52170159f2ee20bce01d", func := "loop.example/g00523/laws.FnBytes", spec := "fnBytes", plainKeys := false, apart := false, narrowed := true }
def FnBytesUptoSaid : Prop := fnBytesUptoRow.holds Try.pinned (OpenSpec.upto fnBytesSpec)

/-- 'laws.FnFonts', WHERE WHAT IT READS IS OF BULK AT MOST 1048576: true; the input reads as it did. -/
def fnFontsUptoRow : OpenClaim := { program := "ytbndncfkkhjkoaa", sum := "a5ebe9012cfc0bd6d6c6b1c5376486d2262af2a7e83d52170159f2ee20bce01d", func := "loop.example/g00523/laws.FnFonts", spec := "fnFonts", recurses := true, plainKeys := false, apart := false, narrowed := true }
def FnFontsUptoSaid : Prop := fnFontsUptoRow.holds Try.pinned (OpenSpec.upto fnFontsSpec)

/-- 'laws.FnGlyphs', WHERE WHAT IT READS IS OF BULK AT MOST 1048576: true; the input reads as it did. -/
def fnGlyphsUptoRow : OpenClaim := { program := "ytbndncfkkhjkoaa", sum := "a5ebe9012cfc0bd6d6c6b1c5376486d2262af2a7e83d52170159f2ee20bce01d", func := "loop.example/g00523/laws.FnGlyphs", spec := "fnGlyphs", recurses := true, plainKeys := false, apart := false, narrowed := true }
def FnGlyphsUptoSaid : Prop := fnGlyphsUptoRow.holds Try.pinned (OpenSpec.upto fnGlyphsSpec)

/-- 'laws.FnCells', WHERE WHAT IT READS IS OF BULK AT MOST 1048576: true; the input reads as it did. -/
def fnCellsUptoRow : OpenClaim := { program := "ytbndncfkkhjkoaa", sum := "a5ebe9012cfc0bd6d6c6b1c5376486d2262af2a7e83d52170159f2ee20bce01d", func := "loop.example/g00523/laws.FnCells", spec := "fnCells", plainKeys := false, apart := false, narrowed := true }
def FnCellsUptoSaid : Prop := fnCellsUptoRow.holds Try.pinned (OpenSpec.upto fnCellsSpec)

/-- 'laws.FnScrolls', WHERE WHAT IT READS IS OF BULK AT MOST 1048576: true; the input reads as it did. -/
def fnScrollsUptoRow : OpenClaim := { program := "ytbndncfkkhjkoaa", sum := "a5ebe9012cfc0bd6d6c6b1c5376486d2262af2a7e83d52170159f2ee20bce01d", func := "loop.example/g00523/laws.FnScrolls", spec := "fnScrolls", unfollowed := true, recurses := true, plainKeys := false, apart := false, narrowed := true }
def FnScrollsUptoSaid : Prop := fnScrollsUptoRow.holds Try.pinned (OpenSpec.upto fnScrollsSpec)

end Rows
end Go.Proofs.Ytbndncfkkhjkoaa
