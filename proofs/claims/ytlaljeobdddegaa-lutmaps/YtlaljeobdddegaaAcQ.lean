import Derived.Test.YtlaljeobdddegaaAcP
namespace Go.Proofs.Ytlaljeobdddegaa
open Go.RowKit

def nextsOf (G : GrD) : List Nat := G.lats.map nOf
def rootsV (G : GrD) : List Nat := G.outs.map vOf
/-- what is found so far -/
structure Good (G : GrD) (ni n : Nat) (pd : List Nat) (s : List Bool × List Nat) : Prop where
  wait : Wait (firstN G) ni (opsOf G) (nextsOf G) (rootsV G) pd s.1 s.2
  len : s.1.length = n
  cnt : s.1.count false + s.2.length ≤ n
  low : ∀ v, v < firstN G → On s.1 v
theorem needC_cnt {v : Nat} {s : List Bool × List Nat} (hv : v < s.1.length) : (needC v s).1.count false + (needC v s).2.length = s.1.count false + s.2.length := by
  unfold needC
  split
  · rfl
  · next hn =>
    have := count_set hv hn
    simp only [List.length_append, List.length_singleton]
    omega
theorem Good.need {G : GrD} {ni n : Nat} {pd : List Nat} {s : List Bool × List Nat} (h : Good G ni n pd s) {v : Nat} (hv : v < n) (hs : v < firstN G ∨ Nd (firstN G) (opsOf G) (nextsOf G ++ rootsV G) v) : Good G ni n pd (needC v s) :=
  ⟨h.wait.need v (by rw [h.len]; exact hv) hs, (needC_len v s).trans h.len, by rw [needC_cnt (by rw [h.len]; exact hv)]; exact h.cnt, fun x hx => needC_keep (h.low x hx)⟩
theorem Good.begun {G : GrD} {ni n : Nat} (hF : FineG G ni n) : Good G ni n [] (begunC ni G.lats.length (n - firstN G)) := by
  have h1 := hF.first
  have h2 := hF.all
  have hw := begunC_wait ni G.lats.length (n - firstN G) (opsOf G) (nextsOf G) (rootsV G) (by unfold nextsOf; simp)
  rw [← h1] at hw
  refine ⟨hw, ?_, ?_, fun v hv => ?_⟩
  · unfold begunC; simp; omega
  · unfold begunC
    simp only [List.count_append, List.count_replicate, List.length_map, List.length_range]
    simp; omega
  · unfold On begunC
    rw [List.getElem?_append_left (by simp; omega), List.getElem?_replicate, if_pos (by omega)]
theorem Good.look {G : GrD} {ni n : Nat} (hF : FineG G ni n) {nd : List Bool} {wt : List Nat} {v : Nat} (h : Good G ni n [] (nd, wt ++ [v])) :
    Good G ni n [] (lookC G v (nd, wt)) ∧ leftC (lookC G v (nd, wt)) < leftC (nd, wt ++ [v]) ∧ ni < v ∧ v < n ∧ (∀ x, On nd x → On (lookC G v (nd, wt)).1 x) := by
  have hp := h.wait.pop
  have hvw := h.wait.wts v (by simp)
  have hl : nd.length = n := h.len
  have hvn : v < n := by have := hvw.2.1; simp only at this; omega
  have hc : nd.count false + wt.length ≤ n := by have := h.cnt; simp at this; omega
  have h0 : Good G ni n [v] (nd, wt) := ⟨hp, hl, hc, h.low⟩
  have hlt : leftC (nd, wt) < leftC (nd, wt ++ [v]) := by unfold leftC; simp
  have h1 := hF.first
  have h2 := hF.all
  refine ⟨?_, ?_, hvw.1, hvn, ?_⟩
  · unfold lookC
    split
    · next hf =>
      have hi : v - 1 - G.ins.toNat < G.lats.length := by rw [hF.ins]; have := hvw.1; omega
      obtain ⟨l, hll⟩ := getElem_lt hi
      rw [hll]
      have hin := hF.lats l (List.mem_of_getElem? hll)
      have hm : l.next.toNat / 2 ∈ nextsOf G := List.mem_map.2 ⟨l, List.mem_of_getElem? hll, rfl⟩
      have hg := h0.need (v := l.next.toNat / 2) (by omega) (.inr (nd_root (List.mem_append.2 (.inl hm))))
      refine ⟨hg.wait.looked (fun i a b ho e => by omega) (fun i x hx e => ?_), hg.len, hg.cnt, hg.low⟩
      have hi2 : i = v - 1 - G.ins.toNat := by rw [hF.ins]; omega
      unfold nextsOf at hx
      rw [List.getElem?_map, hi2, hll] at hx
      have hx' : nOf l = x := by simpa using hx
      rw [← hx']
      exact needC_on (by simp only; rw [hl]; omega)
    · next hf =>
      have hi : v - firstN G < G.ands.length := by omega
      obtain ⟨d, hd⟩ := getElem_lt hi
      rw [hd]
      have hin := hF.ands _ d hd
      have hop : (opsOf G)[v - firstN G]? = some (d.x.toNat / 2, d.y.toNat / 2) := by unfold opsOf; rw [List.getElem?_map, hd]; rfl
      have hnd : Nd (firstN G) (opsOf G) (nextsOf G ++ rootsV G) (firstN G + (v - firstN G)) := by
        rw [show firstN G + (v - firstN G) = v by omega]
        rcases hp.sound v hvw.2.2 with h3 | h3
        · exact absurd h3 hf
        · exact h3
      obtain ⟨ha, hb⟩ := nd_op hop hnd
      have g1 := h0.need (v := d.x.toNat / 2) (by omega) (.inr ha)
      have g2 := g1.need (v := d.y.toNat / 2) (by omega) (.inr hb)
      refine ⟨g2.wait.looked (fun i a b ho e => ?_) (fun i x hx e => ?_), g2.len, g2.cnt, g2.low⟩
      · have hi2 : i = v - firstN G := by omega
        rw [hi2, hop] at ho
        have e1 : d.x.toNat / 2 = a ∧ d.y.toNat / 2 = b := by simpa using ho
        rw [← e1.1, ← e1.2]
        exact ⟨needC_keep (needC_on (by simp only; omega)), needC_on (by rw [g1.len]; omega)⟩
      · have := (List.getElem?_eq_some_iff.1 hx).1
        unfold nextsOf at this
        simp at this
        omega
  · refine Nat.lt_of_le_of_lt ?_ hlt
    unfold lookC
    split
    · next hf =>
      split
      · next l hll =>
        have hin := hF.lats l (List.mem_of_getElem? hll)
        exact needC_left (by simp only; omega)
      · exact Nat.le_refl _
    · next hf =>
      split
      · next d hd =>
        have hin := hF.ands _ d hd
        have hk := (List.getElem?_eq_some_iff.1 hd).1
        exact Nat.le_trans (needC_left (by rw [needC_len]; simp only; omega)) (needC_left (by simp only; omega))
      · exact Nat.le_refl _
  · intro x hx
    unfold lookC
    split
    · split
      · exact needC_keep hx
      · exact hx
    · split
      · exact needC_keep (needC_keep hx)
      · exact hx
/-- what the program finds is what the document finds -/
theorem found_nk {G : GrD} {ni n : Nat} (hF : FineG G ni n) {nd : List Bool} (h : Good G ni n [] (nd, [])) (hr : ∀ r, r ∈ rootsV G → On nd r) : nd = List.replicate (firstN G) true ++ nkOf G := by
  have h1 := hF.first
  have h2 := hF.all
  have hl : nd.length = n := h.len
  have e1 := low_on (first := firstN G) (nd := nd) (by omega) h.low
  have hA : ∀ v, firstN G ≤ v → (On nd v ↔ Nd (firstN G) (opsOf G) (nextsOf G ++ rootsV G) v) := fun v hv => h.wait.done hr v hv
  have hops : ∀ (i a b : Nat), (opsOf G)[i]? = some (a, b) → a < firstN G + i ∧ b < firstN G + i ∧ i < G.ands.length := by
    intro i a b ho
    unfold opsOf at ho
    rw [List.getElem?_map] at ho
    cases hd : G.ands[i]? with
    | none => rw [hd] at ho; cases ho
    | some d =>
      rw [hd] at ho
      have e : d.x.toNat / 2 = a ∧ d.y.toNat / 2 = b := by simpa using ho
      have hin := hF.ands i d hd
      have := (List.getElem?_eq_some_iff.1 hd).1
      omega
  have hB : ∀ v, firstN G ≤ v → (On (needR G) v ↔ Nd (firstN G) (opsOf G) (nextsOf G ++ rootsV G) v) := by
    intro v _
    have hlen : (opsOf G).length = G.ands.length := by unfold opsOf; simp
    have := sweepC_all (first := firstN G) (ops := opsOf G) (roots := nextsOf G ++ rootsV G) (nd := nd0C G) (fun i a b ho => ⟨(hops i a b ho).1, (hops i a b ho).2.1⟩) (fun i a b ho => by
      have := hops i a b ho
      rw [nd0C_len]; omega) (fun x => ?_) v
    · rw [hlen] at this
      exact this
    · unfold nd0C
      rw [marks_on, marks_on]
      · have hF0 : ¬ On (List.replicate (firstN G + G.ands.length) false) x := by
          unfold On
          rw [List.getElem?_replicate]
          split <;> simp
        rw [List.mem_append]
        unfold nextsOf rootsV
        simp [hF0]
      · intro r hrm
        obtain ⟨o, ho, rfl⟩ := List.mem_map.1 hrm
        have := hF.outs o ho
        rw [List.length_replicate]; unfold vOf; omega
      · intro r hrm
        obtain ⟨l, hlm, rfl⟩ := List.mem_map.1 hrm
        have := hF.lats l hlm
        rw [marks_len, List.length_replicate]; unfold nOf; omega
  have e2 := same_nk (first := firstN G) (by rw [needR_len]; omega) hA hB
  rw [e1, e2]
  have : (List.replicate (firstN G) true ++ (needR G).drop (firstN G)) = List.replicate (firstN G) true ++ nkOf G := rfl
  rw [this]

end Go.Proofs.Ytlaljeobdddegaa
