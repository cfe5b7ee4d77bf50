/-
  DERIVED. GIVEN WITH THE SEED: THE CARDS: each row of YtcfechnkgefhcaaDoorRows.lean that lists a variable, with what it lists TIED to the program's text (the seventh form; the later family's looks); each row that meets fmt, with fmt's text TOLD by the authors' own Lean function (tested against real Go, not proved from fmt's source: count such statements apart). THE CARD IS WHAT COUNTS. Prove the row's statement (the work); the ties are given (YtcfechnkgefhcaaDoorTie.lean); close each card by the builder's one call (the guide's Derived/Test/ToyasCard.lean, 'card_holds'). Laid BY PROGRAM, IN A SANDBOX (cutbox-door.mjs). By AI agents, Wed Nov 11 2026. No macro, syntax, notation, axiom, sorry.
-/
import Derived.Test.YtcfechnkgefhcaaDoorRows
import GoSem.ClaimSeven
namespace Go.Proofs.YtcfechnkgefhcaaDoor
namespace Rows

/-- THE TIED CARD OF 'laws.FnBinds'. -/
def fnBindsCard : Claim7 := { stood := { row := fnBindsRow, standIns := [], harness := (true, "6dcc3b21a1cbd413541c898d60a5999d1e936ded4def648f8bdd9664439aae71"), looks := false }, kinds := [], alts := [], laidByText := true, laidKinds := [.data], laidTests := true, laidLooks := .later }
def FnBindsCardSaid : Prop := Claim7.holds Tryd.pinned (.plain (OpenSpec.ofChange fnBindsSpec)) fnBindsCard

/-- THE TIED CARD OF 'laws.FnAccents'. -/
def fnAccentsCard : Claim7 := { stood := { row := fnAccentsRow, standIns := [], harness := (true, "6dcc3b21a1cbd413541c898d60a5999d1e936ded4def648f8bdd9664439aae71"), looks := false }, kinds := [], alts := [], laidByText := true, laidKinds := [.data], laidTests := true, laidLooks := .later }
def FnAccentsCardSaid : Prop := Claim7.holds Tryd.pinned (.plain (OpenSpec.ofChange fnAccentsSpec)) fnAccentsCard

/-- THE TIED CARD OF 'laws.FnExactSymFault'. -/
def fnExactSymFaultCard : Claim7 := { stood := { row := fnExactSymFaultRow, standIns := [], harness := (true, "6dcc3b21a1cbd413541c898d60a5999d1e936ded4def648f8bdd9664439aae71"), looks := false }, kinds := [], alts := [], laidByText := true, laidKinds := [.data], laidTests := true, laidLooks := .later }
def FnExactSymFaultCardSaid : Prop := Claim7.holds Tryd.pinned (.plain (OpenSpec.ofChange fnExactSymFaultSpec)) fnExactSymFaultCard

/-- THE TIED CARD OF 'laws.FnExactBindsFault'. -/
def fnExactBindsFaultCard : Claim7 := { stood := { row := fnExactBindsFaultRow, standIns := [], harness := (true, "6dcc3b21a1cbd413541c898d60a5999d1e936ded4def648f8bdd9664439aae71"), looks := false }, kinds := [], alts := [], laidByText := true, laidKinds := [.data], laidTests := true, laidLooks := .later }
def FnExactBindsFaultCardSaid : Prop := Claim7.holds Tryd.pinned (.plain (OpenSpec.ofChange fnExactBindsFaultSpec)) fnExactBindsFaultCard

/-- THE TIED CARD OF 'laws.FnExactPutBind'. -/
def fnExactPutBindCard : Claim7 := { stood := { row := fnExactPutBindRow, standIns := [], harness := (true, "6dcc3b21a1cbd413541c898d60a5999d1e936ded4def648f8bdd9664439aae71"), looks := false }, kinds := [], alts := [], laidByText := true, laidKinds := [.data], laidTests := true, laidLooks := .later }
def FnExactPutBindCardSaid : Prop := Claim7.holds Tryd.pinned (.plain (OpenSpec.ofChange fnExactPutBindSpec)) fnExactPutBindCard

/-- THE TIED CARD OF 'laws.FnExactSymOf'. -/
def fnExactSymOfCard : Claim7 := { stood := { row := fnExactSymOfRow, standIns := [], harness := (true, "6dcc3b21a1cbd413541c898d60a5999d1e936ded4def648f8bdd9664439aae71"), looks := false }, kinds := [], alts := [], laidByText := true, laidKinds := [.data], laidTests := true, laidLooks := .later }
def FnExactSymOfCardSaid : Prop := Claim7.holds Tryd.pinned (.plain (OpenSpec.ofChange fnExactSymOfSpec)) fnExactSymOfCard

/-- THE SECOND FORM's CARD OF 'laws.FnBinds'. -/
def fnBindsUptoCard : Claim7 := { stood := { row := fnBindsUptoRow, standIns := [], harness := (true, "6dcc3b21a1cbd413541c898d60a5999d1e936ded4def648f8bdd9664439aae71"), looks := false }, kinds := [], alts := [], laidByText := true, laidKinds := [.data], laidTests := true, laidLooks := .later }
def FnBindsUptoCardSaid : Prop := Claim7.holds Tryd.pinned (.plain (OpenSpec.upto fnBindsSpec)) fnBindsUptoCard

/-- THE SECOND FORM's CARD OF 'laws.FnAccents'. -/
def fnAccentsUptoCard : Claim7 := { stood := { row := fnAccentsUptoRow, standIns := [], harness := (true, "6dcc3b21a1cbd413541c898d60a5999d1e936ded4def648f8bdd9664439aae71"), looks := false }, kinds := [], alts := [], laidByText := true, laidKinds := [.data], laidTests := true, laidLooks := .later }
def FnAccentsUptoCardSaid : Prop := Claim7.holds Tryd.pinned (.plain (OpenSpec.upto fnAccentsSpec)) fnAccentsUptoCard

/-- THE SECOND FORM's CARD OF 'laws.FnExactSymFault'. -/
def fnExactSymFaultUptoCard : Claim7 := { stood := { row := fnExactSymFaultUptoRow, standIns := [], harness := (true, "6dcc3b21a1cbd413541c898d60a5999d1e936ded4def648f8bdd9664439aae71"), looks := false }, kinds := [], alts := [], laidByText := true, laidKinds := [.data], laidTests := true, laidLooks := .later }
def FnExactSymFaultUptoCardSaid : Prop := Claim7.holds Tryd.pinned (.plain (OpenSpec.upto fnExactSymFaultSpec)) fnExactSymFaultUptoCard

/-- THE SECOND FORM's CARD OF 'laws.FnExactBindsFault'. -/
def fnExactBindsFaultUptoCard : Claim7 := { stood := { row := fnExactBindsFaultUptoRow, standIns := [], harness := (true, "6dcc3b21a1cbd413541c898d60a5999d1e936ded4def648f8bdd9664439aae71"), looks := false }, kinds := [], alts := [], laidByText := true, laidKinds := [.data], laidTests := true, laidLooks := .later }
def FnExactBindsFaultUptoCardSaid : Prop := Claim7.holds Tryd.pinned (.plain (OpenSpec.upto fnExactBindsFaultSpec)) fnExactBindsFaultUptoCard

/-- THE SECOND FORM's CARD OF 'laws.FnExactPutBind'. -/
def fnExactPutBindUptoCard : Claim7 := { stood := { row := fnExactPutBindUptoRow, standIns := [], harness := (true, "6dcc3b21a1cbd413541c898d60a5999d1e936ded4def648f8bdd9664439aae71"), looks := false }, kinds := [], alts := [], laidByText := true, laidKinds := [.data], laidTests := true, laidLooks := .later }
def FnExactPutBindUptoCardSaid : Prop := Claim7.holds Tryd.pinned (.plain (OpenSpec.upto fnExactPutBindSpec)) fnExactPutBindUptoCard

/-- THE SECOND FORM's CARD OF 'laws.FnExactSymOf'. -/
def fnExactSymOfUptoCard : Claim7 := { stood := { row := fnExactSymOfUptoRow, standIns := [], harness := (true, "6dcc3b21a1cbd413541c898d60a5999d1e936ded4def648f8bdd9664439aae71"), looks := false }, kinds := [], alts := [], laidByText := true, laidKinds := [.data], laidTests := true, laidLooks := .later }
def FnExactSymOfUptoCardSaid : Prop := Claim7.holds Tryd.pinned (.plain (OpenSpec.upto fnExactSymOfSpec)) fnExactSymOfUptoCard
end Rows
end Go.Proofs.YtcfechnkgefhcaaDoor
