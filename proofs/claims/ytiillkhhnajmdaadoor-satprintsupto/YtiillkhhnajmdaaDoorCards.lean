/-
  DERIVED. GIVEN WITH THE SEED: THE CARDS: each row of YtiillkhhnajmdaaDoorRows.lean that lists a variable, with what it lists TIED to the program's text (the seventh form; the later family's looks); each row that meets fmt, with fmt's text TOLD by the authors' own Lean function (tested against real Go, not proved from fmt's source: count such statements apart). THE CARD IS WHAT COUNTS. Prove the row's statement (the work); the ties are given (YtiillkhhnajmdaaDoorTie.lean); close each card by the builder's one call (the guide's Derived/Test/ToyasCard.lean, 'card_holds'). Laid BY PROGRAM, IN A SANDBOX (cutbox-door.mjs). By AI agents, Wed Nov 11 2026. No macro, syntax, notation, axiom, sorry.
-/
import Derived.Test.YtiillkhhnajmdaaDoorRows
import GoSem.ClaimSeven
namespace Go.Proofs.YtiillkhhnajmdaaDoor
namespace Rows

/-- THE TIED CARD OF 'gatewrightlaw.SatPrints'. -/
def satPrintsCard : Claim7 := { stood := { row := satPrintsRow, standIns := [], harness := (true, "88a5b373e057b04619c34e97b26dfb3b67e2baf09924f28ec6f4a976f56d9ef2"), looks := false }, kinds := [], alts := [], laidByText := true, laidKinds := [.data, .data, .data], laidTests := true, laidLooks := .later }
def SatPrintsCardSaid : Prop := Claim7.holds Tryd.pinned (.plain (OpenSpec.ofChange satPrintsSpec)) satPrintsCard

/-- THE SECOND FORM's CARD OF 'gatewrightlaw.SatPrints'. -/
def satPrintsUptoCard : Claim7 := { stood := { row := satPrintsUptoRow, standIns := [], harness := (true, "88a5b373e057b04619c34e97b26dfb3b67e2baf09924f28ec6f4a976f56d9ef2"), looks := false }, kinds := [], alts := [], laidByText := true, laidKinds := [.data, .data, .data], laidTests := true, laidLooks := .later }
def SatPrintsUptoCardSaid : Prop := Claim7.holds Tryd.pinned (.plain (OpenSpec.upto satPrintsSpec)) satPrintsUptoCard
end Rows
end Go.Proofs.YtiillkhhnajmdaaDoor
