/-
  No cell of these rows narrows 'for every input' (looked for: loops, veiled, ifaces, maps, wideKeys, modest, calm, conditions, laid).
  DERIVED. THE GIVEN ROWS OF THIS SEAT. 4 by the template 'for every input the law returns true; each argument reads behind the call as it read before'; 0 by the template 'total and deterministic' (their statements: YtdekegjplegkeaaGreatTotals.lean).
  GIVEN WITH THE SEED: the statements are not yours to turn. If you find one false, say at which input.
  Laid BY PROGRAM, IN A SANDBOX (cutbox-rows.mjs): the forced cells as the released guide's own fill.sh prints them over the translation 0f81b9ebf6987b36… (all of the seat's roots in one cut). By AI agents, Wed Nov 11 2026. No macro, syntax, notation, axiom, sorry.
-/
import Derived.Test.YtdekegjplegkeaaGreatChecked
import GoSem.Claim
import GoSem.ClaimJoined
import GoSem.ClaimMapViews
import Derived.JoinedTies
import Derived.KernelRfl
namespace Go.Proofs.YtdekegjplegkeaaGreat
/- THE CELL 'sum', in the pinned program and in every row, IS THE sha256 OF THE DUMP (.gsa) THAT YtdekegjplegkeaaGreatProg.lean LOADS. Nothing in Lean hashes anything: it is a label: what it is worth is what the hold of that sum in a sandbox is worth. -/
noncomputable def Tryz.pinned : Pinned := { name := "ytdekegjplegkeaagreat", sum := "0f81b9ebf6987b36d49af04c77a81de8ba1875a880740504ab47db46979d1aae", checked := Tryz.checked }
namespace Rows
def none {H : Type} : Left H := { results := [], args := [] }

/-- 'laws.FnExactDoAction': WHATEVER THE INPUT: true; the input reads as it did. -/
def fnExactDoActionSpec : ChangeSpec := { name := "fnExactDoAction", fn := fun _ => fun
  | [d1, d2] => { results := [.lit (.bool true)], args := [d1, d2] }
  | _ => none }
def fnExactDoActionRow : OpenClaim := { program := "ytdekegjplegkeaagreat", sum := "0f81b9ebf6987b36d49af04c77a81de8ba1875a880740504ab47db46979d1aae", func := "loop.example/g00523/laws.FnExactDoAction", spec := "fnExactDoAction", unfollowed := true, recurses := true, apart := false }
def FnExactDoActionSaid : Prop := fnExactDoActionRow.holds Tryz.pinned (OpenSpec.ofChange fnExactDoActionSpec)

/-- ITS FALSE NEIGHBOUR: 'it returns false'. Refute it at one input. -/
def fnExactDoActionWrong : ChangeSpec := { name := "fnExactDoAction", fn := fun _ => fun
  | [d1, d2] => { results := [.lit (.bool false)], args := [d1, d2] }
  | _ => none }
def FnExactDoActionWrongFalsely : Prop := fnExactDoActionRow.holds Tryz.pinned (OpenSpec.ofChange fnExactDoActionWrong)

/-- 'laws.FnExactDoAll': WHATEVER THE INPUT: true; the input reads as it did. -/
def fnExactDoAllSpec : ChangeSpec := { name := "fnExactDoAll", fn := fun _ => fun
  | [d1, d2] => { results := [.lit (.bool true)], args := [d1, d2] }
  | _ => none }
def fnExactDoAllRow : OpenClaim := { program := "ytdekegjplegkeaagreat", sum := "0f81b9ebf6987b36d49af04c77a81de8ba1875a880740504ab47db46979d1aae", func := "loop.example/g00523/laws.FnExactDoAll", spec := "fnExactDoAll", unfollowed := true, recurses := true, apart := false }
def FnExactDoAllSaid : Prop := fnExactDoAllRow.holds Tryz.pinned (OpenSpec.ofChange fnExactDoAllSpec)

/-- ITS FALSE NEIGHBOUR: 'it returns false'. Refute it at one input. -/
def fnExactDoAllWrong : ChangeSpec := { name := "fnExactDoAll", fn := fun _ => fun
  | [d1, d2] => { results := [.lit (.bool false)], args := [d1, d2] }
  | _ => none }
def FnExactDoAllWrongFalsely : Prop := fnExactDoAllRow.holds Tryz.pinned (OpenSpec.ofChange fnExactDoAllWrong)

/-- 'laws.FnExactWriteVt': WHATEVER THE INPUT: true; the input reads as it did. -/
def fnExactWriteVtSpec : ChangeSpec := { name := "fnExactWriteVt", fn := fun _ => fun
  | [d1, d2] => { results := [.lit (.bool true)], args := [d1, d2] }
  | _ => none }
def fnExactWriteVtRow : OpenClaim := { program := "ytdekegjplegkeaagreat", sum := "0f81b9ebf6987b36d49af04c77a81de8ba1875a880740504ab47db46979d1aae", func := "loop.example/g00523/laws.FnExactWriteVt", spec := "fnExactWriteVt", unfollowed := true, recurses := true, apart := false }
def FnExactWriteVtSaid : Prop := fnExactWriteVtRow.holds Tryz.pinned (OpenSpec.ofChange fnExactWriteVtSpec)

/-- ITS FALSE NEIGHBOUR: 'it returns false'. Refute it at one input. -/
def fnExactWriteVtWrong : ChangeSpec := { name := "fnExactWriteVt", fn := fun _ => fun
  | [d1, d2] => { results := [.lit (.bool false)], args := [d1, d2] }
  | _ => none }
def FnExactWriteVtWrongFalsely : Prop := fnExactWriteVtRow.holds Tryz.pinned (OpenSpec.ofChange fnExactWriteVtWrong)

/-- 'laws.FnExactResizeVt': WHATEVER THE INPUT: true; the input reads as it did. -/
def fnExactResizeVtSpec : ChangeSpec := { name := "fnExactResizeVt", fn := fun _ => fun
  | [d1, d2, d3] => { results := [.lit (.bool true)], args := [d1, d2, d3] }
  | _ => none }
def fnExactResizeVtRow : OpenClaim := { program := "ytdekegjplegkeaagreat", sum := "0f81b9ebf6987b36d49af04c77a81de8ba1875a880740504ab47db46979d1aae", func := "loop.example/g00523/laws.FnExactResizeVt", spec := "fnExactResizeVt", unfollowed := true, recurses := true, apart := false }
def FnExactResizeVtSaid : Prop := fnExactResizeVtRow.holds Tryz.pinned (OpenSpec.ofChange fnExactResizeVtSpec)

/-- ITS FALSE NEIGHBOUR: 'it returns false'. Refute it at one input. -/
def fnExactResizeVtWrong : ChangeSpec := { name := "fnExactResizeVt", fn := fun _ => fun
  | [d1, d2, d3] => { results := [.lit (.bool false)], args := [d1, d2, d3] }
  | _ => none }
def FnExactResizeVtWrongFalsely : Prop := fnExactResizeVtRow.holds Tryz.pinned (OpenSpec.ofChange fnExactResizeVtWrong)

/- THE SECOND FORM. 'bulk': how many values and letters a reading holds, each counted each time it is reached (what is shared counts as often as it is met; a slice's spare places count too). A statement '..UptoSaid' is the law's where the arguments, and the package variables that the reading takes, are together of bulk at most 1048576: NARROWER than '..Said'. Prove '..Said' where nothing that the law and all that it calls make is longer than what came in: it says more and counts as full. Else prove '..UptoSaid'. A law counts once. -/
mutual
def uptoBulk {H : Type} : DataW H → Nat
  | .lit (.string bytes) => bytes.length + 1
  | .lit _ => 1
  | .nil => 1
  | .ptr d => uptoBulk d + 1
  | .slice elems spare => uptoBulkAll elems + uptoBulkAll spare + 1
  | .agg parts => uptoBulkAll parts + 1
  | .iface _ d => uptoBulk d + 1
  | .map entries => uptoBulkEntries entries + 1
  | .held _ => 1
def uptoBulkAll {H : Type} : List (DataW H) → Nat
  | [] => 0
  | d :: r => uptoBulk d + uptoBulkAll r
def uptoBulkEntries {H : Type} : List (Lit × DataW H) → Nat
  | [] => 0
  | x :: r => uptoBulkEntry x + uptoBulkEntries r
def uptoBulkEntry {H : Type} : Lit × DataW H → Nat
  | (.string bytes, d) => bytes.length + uptoBulk d + 1
  | (_, d) => uptoBulk d + 1
 end
def uptoSmall : (H : Type) → List (DataW H) → Bool := fun _ ds => decide (uptoBulkAll ds ≤ 1048576)
def OpenSpec.upto (s : _root_.Go.ChangeSpec) : _root_.Go.OpenSpec := { _root_.Go.OpenSpec.ofChange s with cond := some uptoSmall }

/-- 'laws.FnExactDoAction', WHERE WHAT IT READS IS OF BULK AT MOST 1048576: true; the input reads as it did. -/
def fnExactDoActionUptoRow : OpenClaim := { program := "ytdekegjplegkeaagreat", sum := "0f81b9ebf6987b36d49af04c77a81de8ba1875a880740504ab47db46979d1aae", func := "loop.example/g00523/laws.FnExactDoAction", spec := "fnExactDoAction", unfollowed := true, recurses := true, apart := false, narrowed := true }
def FnExactDoActionUptoSaid : Prop := fnExactDoActionUptoRow.holds Tryz.pinned (OpenSpec.upto fnExactDoActionSpec)

/-- 'laws.FnExactDoAll', WHERE WHAT IT READS IS OF BULK AT MOST 1048576: true; the input reads as it did. -/
def fnExactDoAllUptoRow : OpenClaim := { program := "ytdekegjplegkeaagreat", sum := "0f81b9ebf6987b36d49af04c77a81de8ba1875a880740504ab47db46979d1aae", func := "loop.example/g00523/laws.FnExactDoAll", spec := "fnExactDoAll", unfollowed := true, recurses := true, apart := false, narrowed := true }
def FnExactDoAllUptoSaid : Prop := fnExactDoAllUptoRow.holds Tryz.pinned (OpenSpec.upto fnExactDoAllSpec)

/-- 'laws.FnExactWriteVt', WHERE WHAT IT READS IS OF BULK AT MOST 1048576: true; the input reads as it did. -/
def fnExactWriteVtUptoRow : OpenClaim := { program := "ytdekegjplegkeaagreat", sum := "0f81b9ebf6987b36d49af04c77a81de8ba1875a880740504ab47db46979d1aae", func := "loop.example/g00523/laws.FnExactWriteVt", spec := "fnExactWriteVt", unfollowed := true, recurses := true, apart := false, narrowed := true }
def FnExactWriteVtUptoSaid : Prop := fnExactWriteVtUptoRow.holds Tryz.pinned (OpenSpec.upto fnExactWriteVtSpec)

/-- 'laws.FnExactResizeVt', WHERE WHAT IT READS IS OF BULK AT MOST 1048576: true; the input reads as it did. -/
def fnExactResizeVtUptoRow : OpenClaim := { program := "ytdekegjplegkeaagreat", sum := "0f81b9ebf6987b36d49af04c77a81de8ba1875a880740504ab47db46979d1aae", func := "loop.example/g00523/laws.FnExactResizeVt", spec := "fnExactResizeVt", unfollowed := true, recurses := true, apart := false, narrowed := true }
def FnExactResizeVtUptoSaid : Prop := fnExactResizeVtUptoRow.holds Tryz.pinned (OpenSpec.upto fnExactResizeVtSpec)

end Rows
end Go.Proofs.YtdekegjplegkeaaGreat
