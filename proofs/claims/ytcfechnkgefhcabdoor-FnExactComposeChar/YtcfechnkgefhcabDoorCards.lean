/-
  DERIVED. GIVEN WITH THE SEED: THE CARDS: each row of YtcfechnkgefhcabDoorRows.lean that lists a variable, with what it lists TIED to the program's text (the seventh form; the later family's looks); each row that meets fmt, with fmt's text TOLD by the authors' own Lean function (tested against real Go, not proved from fmt's source: count such statements apart). THE CARD IS WHAT COUNTS. Prove the row's statement (the work); the ties are given (YtcfechnkgefhcabDoorTie.lean); close each card by the builder's one call (the guide's Derived/Test/ToyasCard.lean, 'card_holds'). Laid BY PROGRAM, IN A SANDBOX (cutbox-door.mjs). By AI agents, Wed Nov 11 2026. No macro, syntax, notation, axiom, sorry.
-/
import Derived.Test.YtcfechnkgefhcabDoorRows
import GoSem.ClaimSeven
namespace Go.Proofs.YtcfechnkgefhcabDoor
namespace Rows

/-- THE TIED CARD OF 'laws.FnExactComposeChar'. -/
def fnExactComposeCharCard : Claim7 := { stood := { row := fnExactComposeCharRow, standIns := [], harness := (true, "29047d2205a69e542641d0013731afbc7680345bad50c00eef4ef6a642b41d41"), looks := false }, kinds := [], alts := [], laidByText := true, laidKinds := [.data], laidTests := true, laidLooks := .later }
def FnExactComposeCharCardSaid : Prop := Claim7.holds Tryd.pinned (.plain (OpenSpec.ofChange fnExactComposeCharSpec)) fnExactComposeCharCard

/-- THE SECOND FORM's CARD OF 'laws.FnExactComposeChar'. -/
def fnExactComposeCharUptoCard : Claim7 := { stood := { row := fnExactComposeCharUptoRow, standIns := [], harness := (true, "29047d2205a69e542641d0013731afbc7680345bad50c00eef4ef6a642b41d41"), looks := false }, kinds := [], alts := [], laidByText := true, laidKinds := [.data], laidTests := true, laidLooks := .later }
def FnExactComposeCharUptoCardSaid : Prop := Claim7.holds Tryd.pinned (.plain (OpenSpec.upto fnExactComposeCharSpec)) fnExactComposeCharUptoCard
end Rows
end Go.Proofs.YtcfechnkgefhcabDoor
