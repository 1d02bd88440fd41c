import Derived.Test.YtefjicdhccfieaaJuL
import Derived.Test.YtefjicdhccfieaaSaB
namespace Go.Proofs.Ytefjicdhccfieaa
open Go.RowKit

/-- how long all clauses are, and one more for each -/
def totL (F : List (List Int)) : Nat := (F.map fun c => c.length + 1).sum
theorem totL_app (a b : List (List Int)) : totL (a ++ b) = totL a + totL b := by simp [totL]
theorem totL_cl (cls : List CL) : total cls = totL (cls.map CL.l) := by simp [total, totL, Function.comp_def]
theorem totL_flat (f : Nat → List (List Int)) (n : Nat) (hf : ∀ i, totL (f i) ≤ n) (k : Nat) : totL ((List.range k).flatMap f) ≤ n * k := by
  induction k with
  | zero => simp [totL]
  | succ k ih => rw [flat_next, totL_app, Nat.mul_succ]; have := hf k; omega
theorem gateF_tot (sz k : Int) (G : GrD) (i : Nat) : totL (gateF sz k G i) ≤ 10 := by unfold gateF; split <;> simp [totL]
theorem initF_tot (sz : Int) (G : GrD) (i : Nat) : totL (initF sz G i) ≤ 2 := by unfold initF; split <;> simp [totL]
theorem goOnF_tot (sz : Int) (G : GrD) (i : Nat) : totL (goOnF sz G i) ≤ 6 := by unfold goOnF; split <;> simp [totL]
theorem alikeF_tot (sz k : Int) (prs : List AndD) (i : Nat) : totL (alikeF sz k prs i) ≤ 6 := by unfold alikeF; split <;> simp [totL]
theorem unlikeF_tot (sz k bf : Int) (prs : List AndD) (i : Nat) : totL (unlikeF sz k bf prs i) ≤ 8 := by unfold unlikeF; split <;> simp [totL]
theorem someF_tot (bf : Int) (n : Nat) : totL [someF bf n] = n + 1 := by simp [totL, someF]
theorem frameF_tot (sz k : Int) (G : GrD) : totL (frameF sz k G) ≤ 2 + 10 * G.ands.length := by
  unfold frameF
  rw [totL_app]
  have := totL_flat _ 10 (gateF_tot sz k G) G.ands.length
  simp only [totL, List.map_cons, List.map_nil, List.sum_cons, List.sum_nil, List.length_cons, List.length_nil] at *
  omega
/-- a formula of a graph that is not too great is none either -/
theorem formF_tot {G : GrD} (ha : G.ands.length ≤ 200000) (hl : G.lats.length ≤ 20000) (ho : G.outs.length ≤ 200000) (prs : List AndD) (hp : prs.length ≤ 400000) (which : Nat) : totL (formF G prs which) ≤ 12000000 := by
  have f0 := frameF_tot G.vars 0 G
  have f1 := frameF_tot G.vars 1 G
  have hop := outPrs_len G.outs
  unfold formF
  split
  · rw [totL_app, totL_app, totL_app, someF_tot]
    have h1 := totL_flat _ 2 (initF_tot G.vars G) G.lats.length
    have h2 := totL_flat _ 8 (unlikeF_tot G.vars 0 (1 * G.vars) prs) prs.length
    omega
  · split
    · rw [totL_app, totL_app, totL_app, totL_app, totL_app, someF_tot]
      have h1 := totL_flat _ 6 (goOnF_tot G.vars G) G.lats.length
      have h2 := totL_flat _ 8 (unlikeF_tot G.vars 1 (2 * G.vars) prs) prs.length
      have h3 := totL_flat _ 6 (alikeF_tot G.vars 0 prs) prs.length
      omega
    · rw [totL_app, totL_app, totL_app, someF_tot]
      have h2 := totL_flat _ 8 (unlikeF_tot G.vars 0 (1 * G.vars) (outPrs G.outs)) (outPrs G.outs).length
      have h3 := totL_flat _ 6 (alikeF_tot G.vars 0 prs) prs.length
      omega
theorem fm_clAt {w' : World} {a : Option Addr} {cls : List CL} {F : List (List Int)} (hcl : cls.map CL.l = F) (hrow : RowAt w'.heap.size w' a 1 (cls.map CL.cells)) (heach : ∀ t, t ∈ cls → RowAt w'.heap.size w' t.a 1 (t.l.map intC)) (ht : totL F ≤ 12000000) : ClAt w'.heap.size w' a cls ∧ total cls ≤ 12000000 := by
  have e : total cls = totL F := by rw [totL_cl, hcl]
  exact ⟨⟨hrow, heach, by rw [e]; omega⟩, by rw [e]; exact ht⟩

end Go.Proofs.Ytefjicdhccfieaa
