/-
  DERIVED. GIVEN WITH THE SEED: THE CARDS: each row of YtknkbihjboadjaaDoorRows.lean that lists a variable, with what it lists TIED to the program's text (the seventh form; the later family's looks); each row that meets fmt, with fmt's text TOLD by the authors' own Lean function (tested against real Go, not proved from fmt's source: count such statements apart). THE CARD IS WHAT COUNTS. Prove the row's statement (the work); the ties are given (YtknkbihjboadjaaDoorTie.lean); close each card by the builder's one call (the guide's Derived/Test/ToyasCard.lean, 'card_holds'). Laid BY PROGRAM, IN A SANDBOX (cutbox-door.mjs). By AI agents, Wed Nov 11 2026. No macro, syntax, notation, axiom, sorry.
-/
import Derived.Test.YtknkbihjboadjaaDoorRows
import GoSem.ClaimSeven
namespace Go.Proofs.YtknkbihjboadjaaDoor
namespace Rows

/-- THE TIED CARD OF 'laws.FnExactDumpScreen'. -/
def fnExactDumpScreenCard : Claim7 := { stood := { row := fnExactDumpScreenRow, standIns := [], harness := (true, "a45b8beb966be5ad85e744dab25897072155b8021963785b99f6f8e5f096f33c"), looks := false }, kinds := [], alts := [], laidByText := true, laidKinds := [.data, .data, .data], laidTests := true, laidLooks := .later }
def FnExactDumpScreenCardSaid : Prop := Claim7.holds Tryd.pinned (.plain (OpenSpec.ofChange fnExactDumpScreenSpec)) fnExactDumpScreenCard

/-- THE TIED CARD OF 'laws.FnExactAttrBytes'. -/
def fnExactAttrBytesCard : Claim7 := { stood := { row := fnExactAttrBytesRow, standIns := [], harness := (true, "a45b8beb966be5ad85e744dab25897072155b8021963785b99f6f8e5f096f33c"), looks := false }, kinds := [], alts := [], laidByText := true, laidKinds := [.data, .data, .data], laidTests := true, laidLooks := .later }
def FnExactAttrBytesCardSaid : Prop := Claim7.holds Tryd.pinned (.plain (OpenSpec.ofChange fnExactAttrBytesSpec)) fnExactAttrBytesCard

/-- THE TIED CARD OF 'laws.FnExactRowBytes'. -/
def fnExactRowBytesCard : Claim7 := { stood := { row := fnExactRowBytesRow, standIns := [], harness := (true, "a45b8beb966be5ad85e744dab25897072155b8021963785b99f6f8e5f096f33c"), looks := false }, kinds := [], alts := [], laidByText := true, laidKinds := [.data, .data, .data], laidTests := true, laidLooks := .later }
def FnExactRowBytesCardSaid : Prop := Claim7.holds Tryd.pinned (.plain (OpenSpec.ofChange fnExactRowBytesSpec)) fnExactRowBytesCard

/-- THE SECOND FORM's CARD OF 'laws.FnExactDumpScreen'. -/
def fnExactDumpScreenUptoCard : Claim7 := { stood := { row := fnExactDumpScreenUptoRow, standIns := [], harness := (true, "a45b8beb966be5ad85e744dab25897072155b8021963785b99f6f8e5f096f33c"), looks := false }, kinds := [], alts := [], laidByText := true, laidKinds := [.data, .data, .data], laidTests := true, laidLooks := .later }
def FnExactDumpScreenUptoCardSaid : Prop := Claim7.holds Tryd.pinned (.plain (OpenSpec.upto fnExactDumpScreenSpec)) fnExactDumpScreenUptoCard

/-- THE SECOND FORM's CARD OF 'laws.FnExactAttrBytes'. -/
def fnExactAttrBytesUptoCard : Claim7 := { stood := { row := fnExactAttrBytesUptoRow, standIns := [], harness := (true, "a45b8beb966be5ad85e744dab25897072155b8021963785b99f6f8e5f096f33c"), looks := false }, kinds := [], alts := [], laidByText := true, laidKinds := [.data, .data, .data], laidTests := true, laidLooks := .later }
def FnExactAttrBytesUptoCardSaid : Prop := Claim7.holds Tryd.pinned (.plain (OpenSpec.upto fnExactAttrBytesSpec)) fnExactAttrBytesUptoCard

/-- THE SECOND FORM's CARD OF 'laws.FnExactRowBytes'. -/
def fnExactRowBytesUptoCard : Claim7 := { stood := { row := fnExactRowBytesUptoRow, standIns := [], harness := (true, "a45b8beb966be5ad85e744dab25897072155b8021963785b99f6f8e5f096f33c"), looks := false }, kinds := [], alts := [], laidByText := true, laidKinds := [.data, .data, .data], laidTests := true, laidLooks := .later }
def FnExactRowBytesUptoCardSaid : Prop := Claim7.holds Tryd.pinned (.plain (OpenSpec.upto fnExactRowBytesSpec)) fnExactRowBytesUptoCard
end Rows
end Go.Proofs.YtknkbihjboadjaaDoor
