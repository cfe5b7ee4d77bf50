/-
  NARROWER THAN 'FOR EVERY INPUT', by the rows' own cells (each row's printed sentence says how): FnBinds: laid · FnAccents: laid · FnExactSymFault: laid · FnExactBindsFault: laid · FnExactPutBind: laid · FnExactSymOf: laid.
  DERIVED. THE GIVEN ROWS OF THIS SEAT. 6 by the template 'for every input the law returns true; each argument reads behind the call as it read before'; 0 by the template 'total and deterministic' (their statements: YtcfechnkgefhcaaDoorTotals.lean).
  GIVEN WITH THE SEED: the statements are not yours to turn. If you find one false, say at which input.
  Laid BY PROGRAM, IN A SANDBOX (cutbox-rows.mjs): the forced cells as the released guide's own fill.sh prints them over the translation a9c70fdf37af645b… (all of the seat's roots in one cut). By AI agents, Wed Nov 11 2026. No macro, syntax, notation, axiom, sorry.
-/
import Derived.Test.YtcfechnkgefhcaaDoorChecked
import GoSem.Claim
import GoSem.ClaimJoined
import GoSem.ClaimMapViews
import Derived.JoinedTies
import Derived.KernelRfl
namespace Go.Proofs.YtcfechnkgefhcaaDoor
/- THE CELL 'sum', in the pinned program and in every row, IS THE sha256 OF THE DUMP (.gsa) THAT YtcfechnkgefhcaaDoorProg.lean LOADS. Nothing in Lean hashes anything: it is a label: what it is worth is what the hold of that sum in a sandbox is worth. -/
noncomputable def Tryd.pinned : Pinned := { name := "ytcfechnkgefhcaadoor", sum := "a9c70fdf37af645b810841d7bbb2d6ad8f6940637e70ea108ea4217d256b4f84", checked := Tryd.checked }
namespace Rows
def none {H : Type} : Left H := { results := [], args := [] }

/- WHAT THE LISTED PACKAGE-LEVEL VARIABLES READ AS WHEN THE CALL BEGINS. Each datum BY PROGRAM (the guide's laid-datum.mjs) off the statement by which the dump's own 'gosem.cut.vars' lays the variable. In a bare row this is a premise. The card (YtcfechnkgefhcaaDoorCards.lean) ties it to the program's text. -/
def laid_loop_example_g00523_impl_fewSyms {H : Type} : DataW H := .agg [.agg [.lit (.int .i64 0), .lit (.int .i64 0)], .agg [.lit (.int .i64 3), .lit (.int .i64 1)], .agg [.lit (.int .i64 3), .lit (.int .i64 2)], .agg [.lit (.int .i64 3), .lit (.int .i64 4)], .agg [.lit (.int .i64 4), .lit (.int .i64 0)]]
def laid_loop_example_g00523_impl_letters {H : Type} : DataW H := .agg [.agg [.lit (.int .i64 1), .lit (.int .i64 97), .lit (.int .i64 224)], .agg [.lit (.int .i64 1), .lit (.int .i64 101), .lit (.int .i64 232)], .agg [.lit (.int .i64 1), .lit (.int .i64 111), .lit (.int .i64 242)], .agg [.lit (.int .i64 2), .lit (.int .i64 97), .lit (.int .i64 225)], .agg [.lit (.int .i64 2), .lit (.int .i64 101), .lit (.int .i64 233)], .agg [.lit (.int .i64 2), .lit (.int .i64 111), .lit (.int .i64 243)], .agg [.lit (.int .i64 3), .lit (.int .i64 97), .lit (.int .i64 228)], .agg [.lit (.int .i64 3), .lit (.int .i64 111), .lit (.int .i64 246)], .agg [.lit (.int .i64 3), .lit (.int .i64 117), .lit (.int .i64 252)]]

/-- 'laws.FnBinds': WHATEVER THE INPUT: true; the input reads as it did. -/
def fnBindsSpec : ChangeSpec := { name := "fnBinds", vars := ["loop.example/g00523/impl.fewSyms"], fn := fun _ => fun
  | [d, g1] => { results := [.lit (.bool true)], args := [d], vars := [g1] }
  | _ => none }
def fnBindsRow : OpenClaim := { program := "ytcfechnkgefhcaadoor", sum := "a9c70fdf37af645b810841d7bbb2d6ad8f6940637e70ea108ea4217d256b4f84", func := "loop.example/g00523/laws.FnBinds", spec := "fnBinds", inPlace := ["slices.overlaps[loop.example/g00523/impl.Bind]"], unfollowed := true, recurses := true, named := ["loop.example/g00523/impl.fewSyms"], apart := false, laid := [("loop.example/g00523/impl.fewSyms", laid_loop_example_g00523_impl_fewSyms)] }
def FnBindsSaid : Prop := fnBindsRow.holds Tryd.pinned (OpenSpec.ofChange fnBindsSpec)

/-- ITS FALSE NEIGHBOUR: 'it returns false'. Refute it at one input. -/
def fnBindsWrong : ChangeSpec := { name := "fnBinds", vars := ["loop.example/g00523/impl.fewSyms"], fn := fun _ => fun
  | [d, g1] => { results := [.lit (.bool false)], args := [d], vars := [g1] }
  | _ => none }
def FnBindsWrongFalsely : Prop := fnBindsRow.holds Tryd.pinned (OpenSpec.ofChange fnBindsWrong)

/-- 'laws.FnAccents': WHATEVER THE INPUT: true; the input reads as it did. -/
def fnAccentsSpec : ChangeSpec := { name := "fnAccents", vars := ["loop.example/g00523/impl.letters"], fn := fun _ => fun
  | [d, g1] => { results := [.lit (.bool true)], args := [d], vars := [g1] }
  | _ => none }
def fnAccentsRow : OpenClaim := { program := "ytcfechnkgefhcaadoor", sum := "a9c70fdf37af645b810841d7bbb2d6ad8f6940637e70ea108ea4217d256b4f84", func := "loop.example/g00523/laws.FnAccents", spec := "fnAccents", recurses := true, named := ["loop.example/g00523/impl.letters"], apart := false, laid := [("loop.example/g00523/impl.letters", laid_loop_example_g00523_impl_letters)] }
def FnAccentsSaid : Prop := fnAccentsRow.holds Tryd.pinned (OpenSpec.ofChange fnAccentsSpec)

/-- ITS FALSE NEIGHBOUR: 'it returns false'. Refute it at one input. -/
def fnAccentsWrong : ChangeSpec := { name := "fnAccents", vars := ["loop.example/g00523/impl.letters"], fn := fun _ => fun
  | [d, g1] => { results := [.lit (.bool false)], args := [d], vars := [g1] }
  | _ => none }
def FnAccentsWrongFalsely : Prop := fnAccentsRow.holds Tryd.pinned (OpenSpec.ofChange fnAccentsWrong)

/-- 'laws.FnExactSymFault': WHATEVER THE INPUT: true; the input reads as it did. -/
def fnExactSymFaultSpec : ChangeSpec := { name := "fnExactSymFault", vars := ["loop.example/g00523/impl.fewSyms"], fn := fun _ => fun
  | [d, g1] => { results := [.lit (.bool true)], args := [d], vars := [g1] }
  | _ => none }
def fnExactSymFaultRow : OpenClaim := { program := "ytcfechnkgefhcaadoor", sum := "a9c70fdf37af645b810841d7bbb2d6ad8f6940637e70ea108ea4217d256b4f84", func := "loop.example/g00523/laws.FnExactSymFault", spec := "fnExactSymFault", named := ["loop.example/g00523/impl.fewSyms"], apart := false, laid := [("loop.example/g00523/impl.fewSyms", laid_loop_example_g00523_impl_fewSyms)] }
def FnExactSymFaultSaid : Prop := fnExactSymFaultRow.holds Tryd.pinned (OpenSpec.ofChange fnExactSymFaultSpec)

/-- ITS FALSE NEIGHBOUR: 'it returns false'. Refute it at one input. -/
def fnExactSymFaultWrong : ChangeSpec := { name := "fnExactSymFault", vars := ["loop.example/g00523/impl.fewSyms"], fn := fun _ => fun
  | [d, g1] => { results := [.lit (.bool false)], args := [d], vars := [g1] }
  | _ => none }
def FnExactSymFaultWrongFalsely : Prop := fnExactSymFaultRow.holds Tryd.pinned (OpenSpec.ofChange fnExactSymFaultWrong)

/-- 'laws.FnExactBindsFault': WHATEVER THE INPUT: true; the input reads as it did. -/
def fnExactBindsFaultSpec : ChangeSpec := { name := "fnExactBindsFault", vars := ["loop.example/g00523/impl.fewSyms"], fn := fun _ => fun
  | [d, g1] => { results := [.lit (.bool true)], args := [d], vars := [g1] }
  | _ => none }
def fnExactBindsFaultRow : OpenClaim := { program := "ytcfechnkgefhcaadoor", sum := "a9c70fdf37af645b810841d7bbb2d6ad8f6940637e70ea108ea4217d256b4f84", func := "loop.example/g00523/laws.FnExactBindsFault", spec := "fnExactBindsFault", named := ["loop.example/g00523/impl.fewSyms"], apart := false, laid := [("loop.example/g00523/impl.fewSyms", laid_loop_example_g00523_impl_fewSyms)] }
def FnExactBindsFaultSaid : Prop := fnExactBindsFaultRow.holds Tryd.pinned (OpenSpec.ofChange fnExactBindsFaultSpec)

/-- ITS FALSE NEIGHBOUR: 'it returns false'. Refute it at one input. -/
def fnExactBindsFaultWrong : ChangeSpec := { name := "fnExactBindsFault", vars := ["loop.example/g00523/impl.fewSyms"], fn := fun _ => fun
  | [d, g1] => { results := [.lit (.bool false)], args := [d], vars := [g1] }
  | _ => none }
def FnExactBindsFaultWrongFalsely : Prop := fnExactBindsFaultRow.holds Tryd.pinned (OpenSpec.ofChange fnExactBindsFaultWrong)

/-- 'laws.FnExactPutBind': WHATEVER THE INPUT: true; the input reads as it did. -/
def fnExactPutBindSpec : ChangeSpec := { name := "fnExactPutBind", vars := ["loop.example/g00523/impl.fewSyms"], fn := fun _ => fun
  | [d1, d2, g1] => { results := [.lit (.bool true)], args := [d1, d2], vars := [g1] }
  | _ => none }
def fnExactPutBindRow : OpenClaim := { program := "ytcfechnkgefhcaadoor", sum := "a9c70fdf37af645b810841d7bbb2d6ad8f6940637e70ea108ea4217d256b4f84", func := "loop.example/g00523/laws.FnExactPutBind", spec := "fnExactPutBind", inPlace := ["slices.overlaps[loop.example/g00523/impl.Bind]"], unfollowed := true, recurses := true, named := ["loop.example/g00523/impl.fewSyms"], apart := false, laid := [("loop.example/g00523/impl.fewSyms", laid_loop_example_g00523_impl_fewSyms)] }
def FnExactPutBindSaid : Prop := fnExactPutBindRow.holds Tryd.pinned (OpenSpec.ofChange fnExactPutBindSpec)

/-- ITS FALSE NEIGHBOUR: 'it returns false'. Refute it at one input. -/
def fnExactPutBindWrong : ChangeSpec := { name := "fnExactPutBind", vars := ["loop.example/g00523/impl.fewSyms"], fn := fun _ => fun
  | [d1, d2, g1] => { results := [.lit (.bool false)], args := [d1, d2], vars := [g1] }
  | _ => none }
def FnExactPutBindWrongFalsely : Prop := fnExactPutBindRow.holds Tryd.pinned (OpenSpec.ofChange fnExactPutBindWrong)

/-- 'laws.FnExactSymOf': WHATEVER THE INPUT: true; the input reads as it did. -/
def fnExactSymOfSpec : ChangeSpec := { name := "fnExactSymOf", vars := ["loop.example/g00523/impl.fewSyms"], fn := fun _ => fun
  | [d1, d2, d3, g1] => { results := [.lit (.bool true)], args := [d1, d2, d3], vars := [g1] }
  | _ => none }
def fnExactSymOfRow : OpenClaim := { program := "ytcfechnkgefhcaadoor", sum := "a9c70fdf37af645b810841d7bbb2d6ad8f6940637e70ea108ea4217d256b4f84", func := "loop.example/g00523/laws.FnExactSymOf", spec := "fnExactSymOf", unfollowed := true, recurses := true, named := ["loop.example/g00523/impl.fewSyms"], apart := false, laid := [("loop.example/g00523/impl.fewSyms", laid_loop_example_g00523_impl_fewSyms)] }
def FnExactSymOfSaid : Prop := fnExactSymOfRow.holds Tryd.pinned (OpenSpec.ofChange fnExactSymOfSpec)

/-- ITS FALSE NEIGHBOUR: 'it returns false'. Refute it at one input. -/
def fnExactSymOfWrong : ChangeSpec := { name := "fnExactSymOf", vars := ["loop.example/g00523/impl.fewSyms"], fn := fun _ => fun
  | [d1, d2, d3, g1] => { results := [.lit (.bool false)], args := [d1, d2, d3], vars := [g1] }
  | _ => none }
def FnExactSymOfWrongFalsely : Prop := fnExactSymOfRow.holds Tryd.pinned (OpenSpec.ofChange fnExactSymOfWrong)

/- THE SECOND FORM. 'bulk': how many values and letters a reading holds, each counted each time it is reached (what is shared counts as often as it is met; a slice's spare places count too). A statement '..UptoSaid' is the law's where the arguments, and the package variables that the reading takes, are together of bulk at most 1048576: NARROWER than '..Said'. Prove '..Said' where nothing that the law and all that it calls make is longer than what came in: it says more and counts as full. Else prove '..UptoSaid'. A law counts once. -/
mutual
def uptoBulk {H : Type} : DataW H → Nat
  | .lit (.string bytes) => bytes.length + 1
  | .lit _ => 1
  | .nil => 1
  | .ptr d => uptoBulk d + 1
  | .slice elems spare => uptoBulkAll elems + uptoBulkAll spare + 1
  | .agg parts => uptoBulkAll parts + 1
  | .iface _ d => uptoBulk d + 1
  | .map entries => uptoBulkEntries entries + 1
  | .held _ => 1
def uptoBulkAll {H : Type} : List (DataW H) → Nat
  | [] => 0
  | d :: r => uptoBulk d + uptoBulkAll r
def uptoBulkEntries {H : Type} : List (Lit × DataW H) → Nat
  | [] => 0
  | x :: r => uptoBulkEntry x + uptoBulkEntries r
def uptoBulkEntry {H : Type} : Lit × DataW H → Nat
  | (.string bytes, d) => bytes.length + uptoBulk d + 1
  | (_, d) => uptoBulk d + 1
 end
def uptoSmall : (H : Type) → List (DataW H) → Bool := fun _ ds => decide (uptoBulkAll ds ≤ 1048576)
def OpenSpec.upto (s : _root_.Go.ChangeSpec) : _root_.Go.OpenSpec := { _root_.Go.OpenSpec.ofChange s with cond := some uptoSmall }

/-- 'laws.FnBinds', WHERE WHAT IT READS IS OF BULK AT MOST 1048576: true; the input reads as it did. -/
def fnBindsUptoRow : OpenClaim := { program := "ytcfechnkgefhcaadoor", sum := "a9c70fdf37af645b810841d7bbb2d6ad8f6940637e70ea108ea4217d256b4f84", func := "loop.example/g00523/laws.FnBinds", spec := "fnBinds", inPlace := ["slices.overlaps[loop.example/g00523/impl.Bind]"], unfollowed := true, recurses := true, named := ["loop.example/g00523/impl.fewSyms"], apart := false, laid := [("loop.example/g00523/impl.fewSyms", laid_loop_example_g00523_impl_fewSyms)], narrowed := true }
def FnBindsUptoSaid : Prop := fnBindsUptoRow.holds Tryd.pinned (OpenSpec.upto fnBindsSpec)

/-- 'laws.FnAccents', WHERE WHAT IT READS IS OF BULK AT MOST 1048576: true; the input reads as it did. -/
def fnAccentsUptoRow : OpenClaim := { program := "ytcfechnkgefhcaadoor", sum := "a9c70fdf37af645b810841d7bbb2d6ad8f6940637e70ea108ea4217d256b4f84", func := "loop.example/g00523/laws.FnAccents", spec := "fnAccents", recurses := true, named := ["loop.example/g00523/impl.letters"], apart := false, laid := [("loop.example/g00523/impl.letters", laid_loop_example_g00523_impl_letters)], narrowed := true }
def FnAccentsUptoSaid : Prop := fnAccentsUptoRow.holds Tryd.pinned (OpenSpec.upto fnAccentsSpec)

/-- 'laws.FnExactSymFault', WHERE WHAT IT READS IS OF BULK AT MOST 1048576: true; the input reads as it did. -/
def fnExactSymFaultUptoRow : OpenClaim := { program := "ytcfechnkgefhcaadoor", sum := "a9c70fdf37af645b810841d7bbb2d6ad8f6940637e70ea108ea4217d256b4f84", func := "loop.example/g00523/laws.FnExactSymFault", spec := "fnExactSymFault", named := ["loop.example/g00523/impl.fewSyms"], apart := false, laid := [("loop.example/g00523/impl.fewSyms", laid_loop_example_g00523_impl_fewSyms)], narrowed := true }
def FnExactSymFaultUptoSaid : Prop := fnExactSymFaultUptoRow.holds Tryd.pinned (OpenSpec.upto fnExactSymFaultSpec)

/-- 'laws.FnExactBindsFault', WHERE WHAT IT READS IS OF BULK AT MOST 1048576: true; the input reads as it did. -/
def fnExactBindsFaultUptoRow : OpenClaim := { program := "ytcfechnkgefhcaadoor", sum := "a9c70fdf37af645b810841d7bbb2d6ad8f6940637e70ea108ea4217d256b4f84", func := "loop.example/g00523/laws.FnExactBindsFault", spec := "fnExactBindsFault", named := ["loop.example/g00523/impl.fewSyms"], apart := false, laid := [("loop.example/g00523/impl.fewSyms", laid_loop_example_g00523_impl_fewSyms)], narrowed := true }
def FnExactBindsFaultUptoSaid : Prop := fnExactBindsFaultUptoRow.holds Tryd.pinned (OpenSpec.upto fnExactBindsFaultSpec)

/-- 'laws.FnExactPutBind', WHERE WHAT IT READS IS OF BULK AT MOST 1048576: true; the input reads as it did. -/
def fnExactPutBindUptoRow : OpenClaim := { program := "ytcfechnkgefhcaadoor", sum := "a9c70fdf37af645b810841d7bbb2d6ad8f6940637e70ea108ea4217d256b4f84", func := "loop.example/g00523/laws.FnExactPutBind", spec := "fnExactPutBind", inPlace := ["slices.overlaps[loop.example/g00523/impl.Bind]"], unfollowed := true, recurses := true, named := ["loop.example/g00523/impl.fewSyms"], apart := false, laid := [("loop.example/g00523/impl.fewSyms", laid_loop_example_g00523_impl_fewSyms)], narrowed := true }
def FnExactPutBindUptoSaid : Prop := fnExactPutBindUptoRow.holds Tryd.pinned (OpenSpec.upto fnExactPutBindSpec)

/-- 'laws.FnExactSymOf', WHERE WHAT IT READS IS OF BULK AT MOST 1048576: true; the input reads as it did. -/
def fnExactSymOfUptoRow : OpenClaim := { program := "ytcfechnkgefhcaadoor", sum := "a9c70fdf37af645b810841d7bbb2d6ad8f6940637e70ea108ea4217d256b4f84", func := "loop.example/g00523/laws.FnExactSymOf", spec := "fnExactSymOf", unfollowed := true, recurses := true, named := ["loop.example/g00523/impl.fewSyms"], apart := false, laid := [("loop.example/g00523/impl.fewSyms", laid_loop_example_g00523_impl_fewSyms)], narrowed := true }
def FnExactSymOfUptoSaid : Prop := fnExactSymOfUptoRow.holds Tryd.pinned (OpenSpec.upto fnExactSymOfSpec)

end Rows
end Go.Proofs.YtcfechnkgefhcaaDoor
