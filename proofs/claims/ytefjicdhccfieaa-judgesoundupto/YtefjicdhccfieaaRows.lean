/-
  No cell of these rows narrows 'for every input' (looked for: loops, veiled, ifaces, maps, wideKeys, modest, calm, conditions, laid).
  DERIVED. THE GIVEN ROWS OF THIS SEAT. 4 by the template 'for every input the law returns true; each argument reads behind the call as it read before'; 0 by the template 'total and deterministic' (their statements: YtefjicdhccfieaaTotals.lean).
  GIVEN WITH THE SEED: the statements are not yours to turn. If you find one false, say at which input.
  Laid BY PROGRAM, IN A SANDBOX (cutbox-rows.mjs): the forced cells as the released guide's own fill.sh prints them over the translation b630ad807fe0d937… (all of the seat's roots in one cut). By AI agents, Wed Nov 11 2026. No macro, syntax, notation, axiom, sorry.
-/
import Derived.Test.YtefjicdhccfieaaChecked
import GoSem.Claim
import GoSem.ClaimJoined
import GoSem.ClaimMapViews
import Derived.JoinedTies
import Derived.KernelRfl
namespace Go.Proofs.Ytefjicdhccfieaa
/- THE CELL 'sum', in the pinned program and in every row, IS THE sha256 OF THE DUMP (.gsa) THAT YtefjicdhccfieaaProg.lean LOADS. Nothing in Lean hashes anything: it is a label: what it is worth is what the hold of that sum in a sandbox is worth. -/
noncomputable def Try.pinned : Pinned := { name := "ytefjicdhccfieaa", sum := "b630ad807fe0d93711f1d8df181deda748dfce189f629789579caec80e014990", checked := Try.checked }
namespace Rows
def none {H : Type} : Left H := { results := [], args := [] }

/-- 'gatewrightlaw.RefuteChecks': WHATEVER THE INPUT: true; the input reads as it did. -/
def refuteChecksSpec : ChangeSpec := { name := "refuteChecks", fn := fun _ => fun
  | [d1, d2] => { results := [.lit (.bool true)], args := [d1, d2] }
  | _ => none }
def refuteChecksRow : OpenClaim := { program := "ytefjicdhccfieaa", sum := "b630ad807fe0d93711f1d8df181deda748dfce189f629789579caec80e014990", func := "gatewright/gatewrightlaw.RefuteChecks", spec := "refuteChecks", apart := false }
def RefuteChecksSaid : Prop := refuteChecksRow.holds Try.pinned (OpenSpec.ofChange refuteChecksSpec)

/-- ITS FALSE NEIGHBOUR: 'it returns false'. Refute it at one input. -/
def refuteChecksWrong : ChangeSpec := { name := "refuteChecks", fn := fun _ => fun
  | [d1, d2] => { results := [.lit (.bool false)], args := [d1, d2] }
  | _ => none }
def RefuteChecksWrongFalsely : Prop := refuteChecksRow.holds Try.pinned (OpenSpec.ofChange refuteChecksWrong)

/-- 'gatewrightlaw.JudgeFormulas': WHATEVER THE INPUT: true; the input reads as it did. -/
def judgeFormulasSpec : ChangeSpec := { name := "judgeFormulas", fn := fun _ => fun
  | [d1, d2, d3] => { results := [.lit (.bool true)], args := [d1, d2, d3] }
  | _ => none }
def judgeFormulasRow : OpenClaim := { program := "ytefjicdhccfieaa", sum := "b630ad807fe0d93711f1d8df181deda748dfce189f629789579caec80e014990", func := "gatewright/gatewrightlaw.JudgeFormulas", spec := "judgeFormulas", unfollowed := true, recurses := true, apart := false }
def JudgeFormulasSaid : Prop := judgeFormulasRow.holds Try.pinned (OpenSpec.ofChange judgeFormulasSpec)

/-- ITS FALSE NEIGHBOUR: 'it returns false'. Refute it at one input. -/
def judgeFormulasWrong : ChangeSpec := { name := "judgeFormulas", fn := fun _ => fun
  | [d1, d2, d3] => { results := [.lit (.bool false)], args := [d1, d2, d3] }
  | _ => none }
def JudgeFormulasWrongFalsely : Prop := judgeFormulasRow.holds Try.pinned (OpenSpec.ofChange judgeFormulasWrong)

/-- 'gatewrightlaw.JudgeHolds': WHATEVER THE INPUT: true; the input reads as it did. -/
def judgeHoldsSpec : ChangeSpec := { name := "judgeHolds", fn := fun _ => fun
  | [d1, d2, d3] => { results := [.lit (.bool true)], args := [d1, d2, d3] }
  | _ => none }
def judgeHoldsRow : OpenClaim := { program := "ytefjicdhccfieaa", sum := "b630ad807fe0d93711f1d8df181deda748dfce189f629789579caec80e014990", func := "gatewright/gatewrightlaw.JudgeHolds", spec := "judgeHolds", unfollowed := true, recurses := true, apart := false }
def JudgeHoldsSaid : Prop := judgeHoldsRow.holds Try.pinned (OpenSpec.ofChange judgeHoldsSpec)

/-- ITS FALSE NEIGHBOUR: 'it returns false'. Refute it at one input. -/
def judgeHoldsWrong : ChangeSpec := { name := "judgeHolds", fn := fun _ => fun
  | [d1, d2, d3] => { results := [.lit (.bool false)], args := [d1, d2, d3] }
  | _ => none }
def JudgeHoldsWrongFalsely : Prop := judgeHoldsRow.holds Try.pinned (OpenSpec.ofChange judgeHoldsWrong)

/-- 'gatewrightlaw.JudgeSound': WHATEVER THE INPUT: true; the input reads as it did. -/
def judgeSoundSpec : ChangeSpec := { name := "judgeSound", fn := fun _ => fun
  | [d1, d2, d3, d4] => { results := [.lit (.bool true)], args := [d1, d2, d3, d4] }
  | _ => none }
def judgeSoundRow : OpenClaim := { program := "ytefjicdhccfieaa", sum := "b630ad807fe0d93711f1d8df181deda748dfce189f629789579caec80e014990", func := "gatewright/gatewrightlaw.JudgeSound", spec := "judgeSound", unfollowed := true, recurses := true, apart := false }
def JudgeSoundSaid : Prop := judgeSoundRow.holds Try.pinned (OpenSpec.ofChange judgeSoundSpec)

/-- ITS FALSE NEIGHBOUR: 'it returns false'. Refute it at one input. -/
def judgeSoundWrong : ChangeSpec := { name := "judgeSound", fn := fun _ => fun
  | [d1, d2, d3, d4] => { results := [.lit (.bool false)], args := [d1, d2, d3, d4] }
  | _ => none }
def JudgeSoundWrongFalsely : Prop := judgeSoundRow.holds Try.pinned (OpenSpec.ofChange judgeSoundWrong)

/- THE SECOND FORM. 'bulk': how many values and letters a reading holds, each counted each time it is reached (what is shared counts as often as it is met; a slice's spare places count too). A statement '..UptoSaid' is the law's where the arguments, and the package variables that the reading takes, are together of bulk at most 1048576: NARROWER than '..Said'. Prove '..Said' where nothing that the law and all that it calls make is longer than what came in: it says more and counts as full. Else prove '..UptoSaid'. A law counts once. -/
mutual
def uptoBulk {H : Type} : DataW H → Nat
  | .lit (.string bytes) => bytes.length + 1
  | .lit _ => 1
  | .nil => 1
  | .ptr d => uptoBulk d + 1
  | .slice elems spare => uptoBulkAll elems + uptoBulkAll spare + 1
  | .agg parts => uptoBulkAll parts + 1
  | .iface _ d => uptoBulk d + 1
  | .map entries => uptoBulkEntries entries + 1
  | .held _ => 1
def uptoBulkAll {H : Type} : List (DataW H) → Nat
  | [] => 0
  | d :: r => uptoBulk d + uptoBulkAll r
def uptoBulkEntries {H : Type} : List (Lit × DataW H) → Nat
  | [] => 0
  | x :: r => uptoBulkEntry x + uptoBulkEntries r
def uptoBulkEntry {H : Type} : Lit × DataW H → Nat
  | (.string bytes, d) => bytes.length + uptoBulk d + 1
  | (_, d) => uptoBulk d + 1
 end
def uptoSmall : (H : Type) → List (DataW H) → Bool := fun _ ds => decide (uptoBulkAll ds ≤ 1048576)
def OpenSpec.upto (s : _root_.Go.ChangeSpec) : _root_.Go.OpenSpec := { _root_.Go.OpenSpec.ofChange s with cond := some uptoSmall }

/-- 'gatewrightlaw.RefuteChecks', WHERE WHAT IT READS IS OF BULK AT MOST 1048576: true; the input reads as it did. -/
def refuteChecksUptoRow : OpenClaim := { program := "ytefjicdhccfieaa", sum := "b630ad807fe0d93711f1d8df181deda748dfce189f629789579caec80e014990", func := "gatewright/gatewrightlaw.RefuteChecks", spec := "refuteChecks", apart := false, narrowed := true }
def RefuteChecksUptoSaid : Prop := refuteChecksUptoRow.holds Try.pinned (OpenSpec.upto refuteChecksSpec)

/-- 'gatewrightlaw.JudgeFormulas', WHERE WHAT IT READS IS OF BULK AT MOST 1048576: true; the input reads as it did. -/
def judgeFormulasUptoRow : OpenClaim := { program := "ytefjicdhccfieaa", sum := "b630ad807fe0d93711f1d8df181deda748dfce189f629789579caec80e014990", func := "gatewright/gatewrightlaw.JudgeFormulas", spec := "judgeFormulas", unfollowed := true, recurses := true, apart := false, narrowed := true }
def JudgeFormulasUptoSaid : Prop := judgeFormulasUptoRow.holds Try.pinned (OpenSpec.upto judgeFormulasSpec)

/-- 'gatewrightlaw.JudgeHolds', WHERE WHAT IT READS IS OF BULK AT MOST 1048576: true; the input reads as it did. -/
def judgeHoldsUptoRow : OpenClaim := { program := "ytefjicdhccfieaa", sum := "b630ad807fe0d93711f1d8df181deda748dfce189f629789579caec80e014990", func := "gatewright/gatewrightlaw.JudgeHolds", spec := "judgeHolds", unfollowed := true, recurses := true, apart := false, narrowed := true }
def JudgeHoldsUptoSaid : Prop := judgeHoldsUptoRow.holds Try.pinned (OpenSpec.upto judgeHoldsSpec)

/-- 'gatewrightlaw.JudgeSound', WHERE WHAT IT READS IS OF BULK AT MOST 1048576: true; the input reads as it did. -/
def judgeSoundUptoRow : OpenClaim := { program := "ytefjicdhccfieaa", sum := "b630ad807fe0d93711f1d8df181deda748dfce189f629789579caec80e014990", func := "gatewright/gatewrightlaw.JudgeSound", spec := "judgeSound", unfollowed := true, recurses := true, apart := false, narrowed := true }
def JudgeSoundUptoSaid : Prop := judgeSoundUptoRow.holds Try.pinned (OpenSpec.upto judgeSoundSpec)

end Rows
end Go.Proofs.Ytefjicdhccfieaa
