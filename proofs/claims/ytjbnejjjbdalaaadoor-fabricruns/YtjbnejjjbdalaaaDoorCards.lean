/-
  DERIVED. GIVEN WITH THE SEED: THE CARDS: each row of YtjbnejjjbdalaaaDoorRows.lean that lists a variable, with what it lists TIED to the program's text (the seventh form; the later family's looks); each row that meets fmt, with fmt's text TOLD by the authors' own Lean function (tested against real Go, not proved from fmt's source: count such statements apart). THE CARD IS WHAT COUNTS. Prove the row's statement (the work); the ties are given (YtjbnejjjbdalaaaDoorTie.lean); close each card by the builder's one call (the guide's Derived/Test/ToyasCard.lean, 'card_holds'). Laid BY PROGRAM, IN A SANDBOX (cutbox-door.mjs). By AI agents, Wed Nov 11 2026. No macro, syntax, notation, axiom, sorry.
-/
import Derived.Test.YtjbnejjjbdalaaaDoorRows
import GoSem.ClaimSeven
namespace Go.Proofs.YtjbnejjjbdalaaaDoor
namespace Rows

/-- THE TIED CARD OF 'gatewrightlaw.FabricRuns'. -/
def fabricRunsCard : Claim7 := { stood := { row := fabricRunsRow, standIns := [], harness := (true, "05d53ab448de1585df953f85b502046d3a540962276b7c310e16395486907ac9"), looks := true }, kinds := [], alts := [], laidByText := true, laidKinds := [.handle], laidTests := true, laidLooks := .later }
def FabricRunsCardSaid : Prop := Claim7.holds Tryd.pinned (.plain (OpenSpec.ofChange fabricRunsSpec)) fabricRunsCard

/-- THE SECOND FORM's CARD OF 'gatewrightlaw.FabricRuns'. -/
def fabricRunsUptoCard : Claim7 := { stood := { row := fabricRunsUptoRow, standIns := [], harness := (true, "05d53ab448de1585df953f85b502046d3a540962276b7c310e16395486907ac9"), looks := true }, kinds := [], alts := [], laidByText := true, laidKinds := [.handle], laidTests := true, laidLooks := .later }
def FabricRunsUptoCardSaid : Prop := Claim7.holds Tryd.pinned (.plain (OpenSpec.upto fabricRunsSpec)) fabricRunsUptoCard
end Rows
end Go.Proofs.YtjbnejjjbdalaaaDoor
