import Derived.Test.YtlaljeobdddegaaAhB
namespace Go.Proofs.Ytlaljeobdddegaa
open Go.RowKit

/-! What Hash makes is valid, has no more gates, and each gate once (pure) -/
theorem hash_ok {G : GrD} {ni n : Nat} (hF : FineG G ni n) : HashOk (firstN G) G.ands (hashK (firstN G) G.ands) :=
  hash_all (by have := hF.first; omega) G.ands hF.ands
theorem hash_few {G : GrD} {ni n : Nat} (hF : FineG G ni n) : (hashG G).ands.length ≤ G.ands.length := (hash_ok hF).few
theorem hash_first (G : GrD) : (hashG G).first = G.first := by unfold GrD.first hashG; simp
theorem hash_valid {G : GrD} {ni n : Nat} (hF : FineG G ni n) : GrOk (hashG G) = true := by
  have hA := hash_ok hF
  have f1 := hF.first
  have f2 := hF.all
  have f3 := hF.le
  have f4 := hF.ll
  have f5 := hF.lo
  have hfi : G.first = (firstN G : Int) := by unfold GrD.first; rw [hF.ins]; omega
  have hva : (hashG G).vars = ((firstN G + (hashG G).ands.length : Nat) : Int) := by unfold GrD.vars; rw [hash_first, hfi]; omega
  have hfw := hash_few hF
  have hre : ∀ l : Int, 0 ≤ l → l < 2 * (n : Int) → 0 ≤ renL (hashK (firstN G) G.ands).2 l ∧ renL (hashK (firstN G) G.ands).2 l < 2 * ((firstN G + (hashG G).ands.length : Nat) : Int) := fun l h0 h1 => by
    have := (renL_ok hA h0 (by omega)).1
    refine ⟨this.1, ?_⟩
    have e : (hashG G).ands.length = (hashK (firstN G) G.ands).1.length := rfl
    omega
  unfold GrOk
  simp only [Bool.and_eq_true, decide_eq_true_eq]
  refine ⟨⟨⟨⟨?_, ?_, ?_, ?_, ?_⟩, ?_⟩, ?_⟩, ?_⟩
  · show 0 ≤ G.ins; rw [hF.ins]; omega
  · show G.ins ≤ 60000; rw [hF.ins]; omega
  · show (G.lats.map _).length ≤ 6000; rw [List.length_map]; exact f4
  · show (G.outs.map _).length ≤ 60000; rw [List.length_map]; exact f5
  · rw [hva]; omega
  · refine List.all_eq_true.2 fun i hi => ?_
    have hi := List.mem_range.1 hi
    obtain ⟨d, hd⟩ := getElem_lt hi
    rw [andOk_of hd, hash_first, hfi]
    have := hA.hs.low i d hd
    simp only [litOk, Bool.and_eq_true, decide_eq_true_eq]
    omega
  · refine List.all_eq_true.2 fun z hz => ?_
    obtain ⟨l, hl, rfl⟩ := List.mem_map.1 hz
    have := hF.lats l hl
    unfold latOk
    rw [hva]
    simp only [litOk, decide_eq_true_eq]
    exact hre _ this.1 this.2
  · refine List.all_eq_true.2 fun z hz => ?_
    obtain ⟨l, hl, rfl⟩ := List.mem_map.1 hz
    have := hF.outs l hl
    rw [hva]
    simp only [litOk, decide_eq_true_eq]
    exact hre _ this.1 this.2

end Go.Proofs.Ytlaljeobdddegaa
