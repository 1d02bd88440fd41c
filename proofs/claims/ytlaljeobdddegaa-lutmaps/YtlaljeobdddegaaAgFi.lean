import Derived.Test.YtlaljeobdddegaaAgL
import Derived.Laws.OwnMore
namespace Go.Proofs.Ytlaljeobdddegaa
open Go.RowKit

def firstN (G : GrD) : Nat := 1 + G.ins.toNat + G.lats.length
/-- what a valid graph has -/
structure FineG (G : GrD) (ni n : Nat) : Prop where
  ins : G.ins = (ni : Int)
  first : firstN G = 1 + ni + G.lats.length
  all : firstN G + G.ands.length = n
  le : n ≤ 60000
  ll : G.lats.length ≤ 6000
  lo : G.outs.length ≤ 60000
  ands : ∀ (k : Nat) (d : AndD), G.ands[k]? = some d → (0 ≤ d.x ∧ d.x < 2 * ((firstN G + k : Nat) : Int)) ∧ (0 ≤ d.y ∧ d.y < 2 * ((firstN G + k : Nat) : Int))
  lats : ∀ z, z ∈ G.lats → 0 ≤ z.next ∧ z.next < 2 * (n : Int)
  outs : ∀ z, z ∈ G.outs → 0 ≤ z ∧ z < 2 * (n : Int)
theorem fine_of {G : GrD} (h : GrOk G = true) : ∃ ni n, FineG G ni n := by
  unfold GrOk at h
  simp only [Bool.and_eq_true, decide_eq_true_eq] at h
  obtain ⟨⟨⟨⟨h0, h1, h2, h3, h4⟩, ha⟩, hl⟩, ho⟩ := h
  have hf : G.first = (firstN G : Int) := by unfold GrD.first firstN; omega
  have hv : G.vars = ((firstN G + G.ands.length : Nat) : Int) := by unfold GrD.vars; rw [hf]; omega
  refine ⟨G.ins.toNat, firstN G + G.ands.length, by omega, rfl, rfl, by omega, h2, h3, ?_, ?_, ?_⟩
  · intro k d hd
    have hk := (List.getElem?_eq_some_iff.1 hd).1
    have := List.all_eq_true.1 ha k (List.mem_range.2 hk)
    rw [andOk_of hd, hf] at this
    simp only [litOk, Bool.and_eq_true, decide_eq_true_eq] at this
    omega
  · intro z hz
    have := List.all_eq_true.1 hl z hz
    unfold latOk at this
    rw [hv] at this
    simpa only [litOk, decide_eq_true_eq] using this
  · intro z hz
    have := List.all_eq_true.1 ho z hz
    rw [hv] at this
    simpa only [litOk, decide_eq_true_eq] using this
/-- an own row, by its elements -/
theorem own_row {w : World} {C e sz n : Nat} {v : Value} {els : List (List Value)} (h : w.ownsRow C e sz v n els.flatten) (hs : ∀ l, l ∈ els → l.length = sz) (hz : 0 < sz) : ∃ a c, v = .slice a n c ∧ RowAt w.heap.size w a sz els := by
  rcases h.2 with ⟨h0, h1⟩ | ⟨g, cap, cur, hv, h1⟩
  · refine ⟨none, 0, by rw [h0, h1], ?_⟩
    have hl := h.1
    rw [h1, Nat.zero_mul] at hl
    intro hne
    exfalso
    cases els with
    | nil => exact hne rfl
    | cons x t =>
      have := hs x List.mem_cons_self
      rw [List.flatten_cons, List.length_append] at hl
      omega
  · subst hv
    refine ⟨_, cap, rfl, rowAt_flat (h.lt g rfl).2 hs fun m v hm => ?_⟩
    have := (List.getElem?_eq_some_iff.1 hm).1
    rw [h.cellAt m (by have := h.1; omega)]; exact hm

end Go.Proofs.Ytlaljeobdddegaa
