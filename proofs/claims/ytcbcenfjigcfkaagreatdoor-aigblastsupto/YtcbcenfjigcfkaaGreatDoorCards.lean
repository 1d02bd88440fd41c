/-
  DERIVED. GIVEN WITH THE SEED: THE CARDS: each row of YtcbcenfjigcfkaaGreatDoorRows.lean that lists a variable, with what it lists TIED to the program's text (the seventh form; the later family's looks); each row that meets fmt, with fmt's text TOLD by the authors' own Lean function (tested against real Go, not proved from fmt's source: count such statements apart). THE CARD IS WHAT COUNTS. Prove the row's statement (the work); the ties are given (YtcbcenfjigcfkaaGreatDoorTie.lean); close each card by the builder's one call (the guide's Derived/Test/ToyasCard.lean, 'card_holds'). Laid BY PROGRAM, IN A SANDBOX (cutbox-door.mjs). By AI agents, Wed Nov 11 2026. No macro, syntax, notation, axiom, sorry.
-/
import Derived.Test.YtcbcenfjigcfkaaGreatDoorRows
import GoSem.ClaimSeven
namespace Go.Proofs.YtcbcenfjigcfkaaGreatDoor
namespace Rows

/-- THE TIED CARD OF 'gatewrightlaw.AigBlasts'. -/
def aigBlastsCard : Claim7 := { stood := { row := aigBlastsRow, standIns := [], harness := (true, "e93babadae9f003f4f39295f5bfc2fba31695f5d3b4ee2bce258db6f4b976430"), looks := true }, kinds := [], alts := [], laidByText := true, laidKinds := [.handle], laidTests := true, laidLooks := .later }
def AigBlastsCardSaid : Prop := Claim7.holds Tryz.pinned (.plain (OpenSpec.ofChange aigBlastsSpec)) aigBlastsCard

/-- THE SECOND FORM's CARD OF 'gatewrightlaw.AigBlasts'. -/
def aigBlastsUptoCard : Claim7 := { stood := { row := aigBlastsUptoRow, standIns := [], harness := (true, "e93babadae9f003f4f39295f5bfc2fba31695f5d3b4ee2bce258db6f4b976430"), looks := true }, kinds := [], alts := [], laidByText := true, laidKinds := [.handle], laidTests := true, laidLooks := .later }
def AigBlastsUptoCardSaid : Prop := Claim7.holds Tryz.pinned (.plain (OpenSpec.upto aigBlastsSpec)) aigBlastsUptoCard
end Rows
end Go.Proofs.YtcbcenfjigcfkaaGreatDoor
