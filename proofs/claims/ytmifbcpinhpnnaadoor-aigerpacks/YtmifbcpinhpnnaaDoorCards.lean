/-
  DERIVED. GIVEN WITH THE SEED: THE CARDS: each row of YtmifbcpinhpnnaaDoorRows.lean that lists a variable, with what it lists TIED to the program's text (the seventh form; the later family's looks); each row that meets fmt, with fmt's text TOLD by the authors' own Lean function (tested against real Go, not proved from fmt's source: count such statements apart). THE CARD IS WHAT COUNTS. Prove the row's statement (the work); the ties are given (YtmifbcpinhpnnaaDoorTie.lean); close each card by the builder's one call (the guide's Derived/Test/ToyasCard.lean, 'card_holds'). Laid BY PROGRAM, IN A SANDBOX (cutbox-door.mjs). By AI agents, Wed Nov 11 2026. No macro, syntax, notation, axiom, sorry.
-/
import Derived.Test.YtmifbcpinhpnnaaDoorRows
import GoSem.ClaimSeven
namespace Go.Proofs.YtmifbcpinhpnnaaDoor
namespace Rows

/-- THE TIED CARD OF 'gatewrightlaw.AigerPrints'. -/
def aigerPrintsCard : Claim7 := { stood := { row := aigerPrintsRow, standIns := [], harness := (true, "277f58a7e0be2bb260ae0e048fc6430d00536898c1c104b7d948071078e68994"), looks := false }, kinds := [], alts := [], laidByText := true, laidKinds := [.data, .data, .data], laidTests := true, laidLooks := .later }
def AigerPrintsCardSaid : Prop := Claim7.holds Tryd.pinned (.plain (OpenSpec.ofChange aigerPrintsSpec)) aigerPrintsCard

/-- THE TIED CARD OF 'gatewrightlaw.AigerPacks'. -/
def aigerPacksCard : Claim7 := { stood := { row := aigerPacksRow, standIns := [], harness := (true, "277f58a7e0be2bb260ae0e048fc6430d00536898c1c104b7d948071078e68994"), looks := false }, kinds := [], alts := [], laidByText := true, laidKinds := [.data, .data, .data], laidTests := true, laidLooks := .later }
def AigerPacksCardSaid : Prop := Claim7.holds Tryd.pinned (.plain (OpenSpec.ofChange aigerPacksSpec)) aigerPacksCard

/-- THE SECOND FORM's CARD OF 'gatewrightlaw.AigerPrints'. -/
def aigerPrintsUptoCard : Claim7 := { stood := { row := aigerPrintsUptoRow, standIns := [], harness := (true, "277f58a7e0be2bb260ae0e048fc6430d00536898c1c104b7d948071078e68994"), looks := false }, kinds := [], alts := [], laidByText := true, laidKinds := [.data, .data, .data], laidTests := true, laidLooks := .later }
def AigerPrintsUptoCardSaid : Prop := Claim7.holds Tryd.pinned (.plain (OpenSpec.upto aigerPrintsSpec)) aigerPrintsUptoCard

/-- THE SECOND FORM's CARD OF 'gatewrightlaw.AigerPacks'. -/
def aigerPacksUptoCard : Claim7 := { stood := { row := aigerPacksUptoRow, standIns := [], harness := (true, "277f58a7e0be2bb260ae0e048fc6430d00536898c1c104b7d948071078e68994"), looks := false }, kinds := [], alts := [], laidByText := true, laidKinds := [.data, .data, .data], laidTests := true, laidLooks := .later }
def AigerPacksUptoCardSaid : Prop := Claim7.holds Tryd.pinned (.plain (OpenSpec.upto aigerPacksSpec)) aigerPacksUptoCard
end Rows
end Go.Proofs.YtmifbcpinhpnnaaDoor
