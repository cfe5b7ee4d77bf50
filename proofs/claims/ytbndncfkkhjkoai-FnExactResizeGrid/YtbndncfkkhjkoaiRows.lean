/-
  No cell of these rows narrows 'for every input' (looked for: loops, veiled, ifaces, maps, wideKeys, modest, calm, conditions, laid).
  DERIVED. THE GIVEN ROWS OF THIS SEAT. 6 by the template 'for every input the law returns true; each argument reads behind the call as it read before'; 0 by the template 'total and deterministic' (their statements: YtbndncfkkhjkoaiTotals.lean).
  GIVEN WITH THE SEED: the statements are not yours to turn. If you find one false, say at which input.
  Laid BY PROGRAM, IN A SANDBOX (cutbox-rows.mjs): the forced cells as the released guide's own fill.sh prints them over the translation 1a08aa3c7aa34e21… (all of the seat's roots in one cut). By AI agents, Wed Nov 11 2026. No macro, syntax, notation, axiom, sorry.
-/
import Derived.Test.YtbndncfkkhjkoaiChecked
import GoSem.Claim
import GoSem.ClaimJoined
import GoSem.ClaimMapViews
import Derived.JoinedTies
import Derived.KernelRfl
namespace Go.Proofs.Ytbndncfkkhjkoai
/- THE CELL 'sum', in the pinned program and in every row, IS THE sha256 OF THE DUMP (.gsa) THAT YtbndncfkkhjkoaiProg.lean LOADS. Nothing in Lean hashes anything: it is a label: what it is worth is what the hold of that sum in a sandbox is worth. -/
noncomputable def Try.pinned : Pinned := { name := "ytbndncfkkhjkoai", sum := "1a08aa3c7aa34e21e9646925df8101651322b87a07ed93ef031d66c7400dff53", checked := Try.checked }
namespace Rows
def none {H : Type} : Left H := { results := [], args := [] }

/-- 'laws.FnExactNewGrid': WHATEVER THE INPUT: true; the input reads as it did. -/
def fnExactNewGridSpec : ChangeSpec := { name := "fnExactNewGrid", fn := fun _ => fun
  | [d1, d2] => { results := [.lit (.bool true)], args := [d1, d2] }
  | _ => none }
def fnExactNewGridRow : OpenClaim := { program := "ytbndncfkkhjkoai", sum := "1a08aa3c7aa34e21e9646925df8101651322b87a07ed93ef031d66c7400dff53", func := "loop.example/g00523/laws.FnExactNewGrid", spec := "fnExactNewGrid", apart := false }
def FnExactNewGridSaid : Prop := fnExactNewGridRow.holds Try.pinned (OpenSpec.ofChange fnExactNewGridSpec)

/-- ITS FALSE NEIGHBOUR: 'it returns false'. Refute it at one input. -/
def fnExactNewGridWrong : ChangeSpec := { name := "fnExactNewGrid", fn := fun _ => fun
  | [d1, d2] => { results := [.lit (.bool false)], args := [d1, d2] }
  | _ => none }
def FnExactNewGridWrongFalsely : Prop := fnExactNewGridRow.holds Try.pinned (OpenSpec.ofChange fnExactNewGridWrong)

/-- 'laws.FnExactPutCell': WHATEVER THE INPUT: true; the input reads as it did. -/
def fnExactPutCellSpec : ChangeSpec := { name := "fnExactPutCell", fn := fun _ => fun
  | [d1, d2, d3, d4] => { results := [.lit (.bool true)], args := [d1, d2, d3, d4] }
  | _ => none }
def fnExactPutCellRow : OpenClaim := { program := "ytbndncfkkhjkoai", sum := "1a08aa3c7aa34e21e9646925df8101651322b87a07ed93ef031d66c7400dff53", func := "loop.example/g00523/laws.FnExactPutCell", spec := "fnExactPutCell", apart := false }
def FnExactPutCellSaid : Prop := fnExactPutCellRow.holds Try.pinned (OpenSpec.ofChange fnExactPutCellSpec)

/-- ITS FALSE NEIGHBOUR: 'it returns false'. Refute it at one input. -/
def fnExactPutCellWrong : ChangeSpec := { name := "fnExactPutCell", fn := fun _ => fun
  | [d1, d2, d3, d4] => { results := [.lit (.bool false)], args := [d1, d2, d3, d4] }
  | _ => none }
def FnExactPutCellWrongFalsely : Prop := fnExactPutCellRow.holds Try.pinned (OpenSpec.ofChange fnExactPutCellWrong)

/-- 'laws.FnExactScrollGrid': WHATEVER THE INPUT: true; the input reads as it did. -/
def fnExactScrollGridSpec : ChangeSpec := { name := "fnExactScrollGrid", fn := fun _ => fun
  | [d1, d2, d3, d4, d5] => { results := [.lit (.bool true)], args := [d1, d2, d3, d4, d5] }
  | _ => none }
def fnExactScrollGridRow : OpenClaim := { program := "ytbndncfkkhjkoai", sum := "1a08aa3c7aa34e21e9646925df8101651322b87a07ed93ef031d66c7400dff53", func := "loop.example/g00523/laws.FnExactScrollGrid", spec := "fnExactScrollGrid", unfollowed := true, recurses := true, apart := false }
def FnExactScrollGridSaid : Prop := fnExactScrollGridRow.holds Try.pinned (OpenSpec.ofChange fnExactScrollGridSpec)

/-- ITS FALSE NEIGHBOUR: 'it returns false'. Refute it at one input. -/
def fnExactScrollGridWrong : ChangeSpec := { name := "fnExactScrollGrid", fn := fun _ => fun
  | [d1, d2, d3, d4, d5] => { results := [.lit (.bool false)], args := [d1, d2, d3, d4, d5] }
  | _ => none }
def FnExactScrollGridWrongFalsely : Prop := fnExactScrollGridRow.holds Try.pinned (OpenSpec.ofChange fnExactScrollGridWrong)

/-- 'laws.FnExactEraseCells': WHATEVER THE INPUT: true; the input reads as it did. -/
def fnExactEraseCellsSpec : ChangeSpec := { name := "fnExactEraseCells", fn := fun _ => fun
  | [d1, d2, d3, d4] => { results := [.lit (.bool true)], args := [d1, d2, d3, d4] }
  | _ => none }
def fnExactEraseCellsRow : OpenClaim := { program := "ytbndncfkkhjkoai", sum := "1a08aa3c7aa34e21e9646925df8101651322b87a07ed93ef031d66c7400dff53", func := "loop.example/g00523/laws.FnExactEraseCells", spec := "fnExactEraseCells", apart := false }
def FnExactEraseCellsSaid : Prop := fnExactEraseCellsRow.holds Try.pinned (OpenSpec.ofChange fnExactEraseCellsSpec)

/-- ITS FALSE NEIGHBOUR: 'it returns false'. Refute it at one input. -/
def fnExactEraseCellsWrong : ChangeSpec := { name := "fnExactEraseCells", fn := fun _ => fun
  | [d1, d2, d3, d4] => { results := [.lit (.bool false)], args := [d1, d2, d3, d4] }
  | _ => none }
def FnExactEraseCellsWrongFalsely : Prop := fnExactEraseCellsRow.holds Try.pinned (OpenSpec.ofChange fnExactEraseCellsWrong)

/-- 'laws.FnExactShiftCells': WHATEVER THE INPUT: true; the input reads as it did. -/
def fnExactShiftCellsSpec : ChangeSpec := { name := "fnExactShiftCells", fn := fun _ => fun
  | [d1, d2, d3, d4, d5] => { results := [.lit (.bool true)], args := [d1, d2, d3, d4, d5] }
  | _ => none }
def fnExactShiftCellsRow : OpenClaim := { program := "ytbndncfkkhjkoai", sum := "1a08aa3c7aa34e21e9646925df8101651322b87a07ed93ef031d66c7400dff53", func := "loop.example/g00523/laws.FnExactShiftCells", spec := "fnExactShiftCells", apart := false }
def FnExactShiftCellsSaid : Prop := fnExactShiftCellsRow.holds Try.pinned (OpenSpec.ofChange fnExactShiftCellsSpec)

/-- ITS FALSE NEIGHBOUR: 'it returns false'. Refute it at one input. -/
def fnExactShiftCellsWrong : ChangeSpec := { name := "fnExactShiftCells", fn := fun _ => fun
  | [d1, d2, d3, d4, d5] => { results := [.lit (.bool false)], args := [d1, d2, d3, d4, d5] }
  | _ => none }
def FnExactShiftCellsWrongFalsely : Prop := fnExactShiftCellsRow.holds Try.pinned (OpenSpec.ofChange fnExactShiftCellsWrong)

/-- 'laws.FnExactResizeGrid': WHATEVER THE INPUT: true; the input reads as it did. -/
def fnExactResizeGridSpec : ChangeSpec := { name := "fnExactResizeGrid", fn := fun _ => fun
  | [d1, d2, d3] => { results := [.lit (.bool true)], args := [d1, d2, d3] }
  | _ => none }
def fnExactResizeGridRow : OpenClaim := { program := "ytbndncfkkhjkoai", sum := "1a08aa3c7aa34e21e9646925df8101651322b87a07ed93ef031d66c7400dff53", func := "loop.example/g00523/laws.FnExactResizeGrid", spec := "fnExactResizeGrid", unfollowed := true, recurses := true, apart := false }
def FnExactResizeGridSaid : Prop := fnExactResizeGridRow.holds Try.pinned (OpenSpec.ofChange fnExactResizeGridSpec)

/-- ITS FALSE NEIGHBOUR: 'it returns false'. Refute it at one input. -/
def fnExactResizeGridWrong : ChangeSpec := { name := "fnExactResizeGrid", fn := fun _ => fun
  | [d1, d2, d3] => { results := [.lit (.bool false)], args := [d1, d2, d3] }
  | _ => none }
def FnExactResizeGridWrongFalsely : Prop := fnExactResizeGridRow.holds Try.pinned (OpenSpec.ofChange fnExactResizeGridWrong)

/- THE SECOND FORM. 'bulk': how many values and letters a reading holds, each counted each time it is reached (what is shared counts as often as it is met; a slice's spare places count too). A statement '..UptoSaid' is the law's where the arguments, and the package variables that the reading takes, are together of bulk at most 1048576: NARROWER than '..Said'. Prove '..Said' where nothing that the law and all that it calls make is longer than what came in: it says more and counts as full. Else prove '..UptoSaid'. A law counts once. -/
mutual
def uptoBulk {H : Type} : DataW H → Nat
  | .lit (.string bytes) => bytes.length + 1
  | .lit _ => 1
  | .nil => 1
  | .ptr d => uptoBulk d + 1
  | .slice elems spare => uptoBulkAll elems + uptoBulkAll spare + 1
  | .agg parts => uptoBulkAll parts + 1
  | .iface _ d => uptoBulk d + 1
  | .map entries => uptoBulkEntries entries + 1
  | .held _ => 1
def uptoBulkAll {H : Type} : List (DataW H) → Nat
  | [] => 0
  | d :: r => uptoBulk d + uptoBulkAll r
def uptoBulkEntries {H : Type} : List (Lit × DataW H) → Nat
  | [] => 0
  | x :: r => uptoBulkEntry x + uptoBulkEntries r
def uptoBulkEntry {H : Type} : Lit × DataW H → Nat
  | (.string bytes, d) => bytes.length + uptoBulk d + 1
  | (_, d) => uptoBulk d + 1
 end
def uptoSmall : (H : Type) → List (DataW H) → Bool := fun _ ds => decide (uptoBulkAll ds ≤ 1048576)
def OpenSpec.upto (s : _root_.Go.ChangeSpec) : _root_.Go.OpenSpec := { _root_.Go.OpenSpec.ofChange s with cond := some uptoSmall }

/-- 'laws.FnExactNewGrid', WHERE WHAT IT READS IS OF BULK AT MOST 1048576: true; the input reads as it did. -/
def fnExactNewGridUptoRow : OpenClaim := { program := "ytbndncfkkhjkoai", sum := "1a08aa3c7aa34e21e9646925df8101651322b87a07ed93ef031d66c7400dff53", func := "loop.example/g00523/laws.FnExactNewGrid", spec := "fnExactNewGrid", apart := false, narrowed := true }
def FnExactNewGridUptoSaid : Prop := fnExactNewGridUptoRow.holds Try.pinned (OpenSpec.upto fnExactNewGridSpec)

/-- 'laws.FnExactPutCell', WHERE WHAT IT READS IS OF BULK AT MOST 1048576: true; the input reads as it did. -/
def fnExactPutCellUptoRow : OpenClaim := { program := "ytbndncfkkhjkoai", sum := "1a08aa3c7aa34e21e9646925df8101651322b87a07ed93ef031d66c7400dff53", func := "loop.example/g00523/laws.FnExactPutCell", spec := "fnExactPutCell", apart := false, narrowed := true }
def FnExactPutCellUptoSaid : Prop := fnExactPutCellUptoRow.holds Try.pinned (OpenSpec.upto fnExactPutCellSpec)

/-- 'laws.FnExactScrollGrid', WHERE WHAT IT READS IS OF BULK AT MOST 1048576: true; the input reads as it did. -/
def fnExactScrollGridUptoRow : OpenClaim := { program := "ytbndncfkkhjkoai", sum := "1a08aa3c7aa34e21e9646925df8101651322b87a07ed93ef031d66c7400dff53", func := "loop.example/g00523/laws.FnExactScrollGrid", spec := "fnExactScrollGrid", unfollowed := true, recurses := true, apart := false, narrowed := true }
def FnExactScrollGridUptoSaid : Prop := fnExactScrollGridUptoRow.holds Try.pinned (OpenSpec.upto fnExactScrollGridSpec)

/-- 'laws.FnExactEraseCells', WHERE WHAT IT READS IS OF BULK AT MOST 1048576: true; the input reads as it did. -/
def fnExactEraseCellsUptoRow : OpenClaim := { program := "ytbndncfkkhjkoai", sum := "1a08aa3c7aa34e21e9646925df8101651322b87a07ed93ef031d66c7400dff53", func := "loop.example/g00523/laws.FnExactEraseCells", spec := "fnExactEraseCells", apart := false, narrowed := true }
def FnExactEraseCellsUptoSaid : Prop := fnExactEraseCellsUptoRow.holds Try.pinned (OpenSpec.upto fnExactEraseCellsSpec)

/-- 'laws.FnExactShiftCells', WHERE WHAT IT READS IS OF BULK AT MOST 1048576: true; the input reads as it did. -/
def fnExactShiftCellsUptoRow : OpenClaim := { program := "ytbndncfkkhjkoai", sum := "1a08aa3c7aa34e21e9646925df8101651322b87a07ed93ef031d66c7400dff53", func := "loop.example/g00523/laws.FnExactShiftCells", spec := "fnExactShiftCells", apart := false, narrowed := true }
def FnExactShiftCellsUptoSaid : Prop := fnExactShiftCellsUptoRow.holds Try.pinned (OpenSpec.upto fnExactShiftCellsSpec)

/-- 'laws.FnExactResizeGrid', WHERE WHAT IT READS IS OF BULK AT MOST 1048576: true; the input reads as it did. -/
def fnExactResizeGridUptoRow : OpenClaim := { program := "ytbndncfkkhjkoai", sum := "1a08aa3c7aa34e21e9646925df8101651322b87a07ed93ef031d66c7400dff53", func := "loop.example/g00523/laws.FnExactResizeGrid", spec := "fnExactResizeGrid", unfollowed := true, recurses := true, apart := false, narrowed := true }
def FnExactResizeGridUptoSaid : Prop := fnExactResizeGridUptoRow.holds Try.pinned (OpenSpec.upto fnExactResizeGridSpec)

end Rows
end Go.Proofs.Ytbndncfkkhjkoai
