import Derived.Test.YtlaljeobdddegaaAhA
namespace Go.Proofs.Ytlaljeobdddegaa
open Go.RowKit

/-- what is made of the first gates -/
structure HashOk (first : Nat) (ands : List AndD) (s : List AndD × List Int) : Prop where
  hs : HsOk first s.1
  len : s.2.length = first + ands.length
  few : s.1.length ≤ ands.length
  lits : ∀ (v : Nat) (x : Int), s.2[v]? = some x → 0 ≤ x ∧ x < 2 * ((first : Int) + (s.1.length : Int))
  same : ∀ v0 : List Bool, v0.length = first → v0[0]? = some false → ∀ (v : Nat) (x : Int), s.2[v]? = some x → litV (andsN v0 s.1) x = (andsN v0 ands)[v]?.getD false
theorem renL_ok {first : Nat} {ands : List AndD} {s : List AndD × List Int} (h : HashOk first ands s) {l : Int} (h0 : 0 ≤ l) (h1 : l < 2 * ((first : Int) + (ands.length : Int))) :
    (0 ≤ renL s.2 l ∧ renL s.2 l < 2 * ((first : Int) + (s.1.length : Int))) ∧ ∀ v0 : List Bool, v0.length = first → v0[0]? = some false → litV (andsN v0 s.1) (renL s.2 l) = litV (andsN v0 ands) l := by
  have hv : (l / 2).toNat < s.2.length := by rw [h.len]; omega
  obtain ⟨x, hx⟩ := getElem_lt hv
  have hd : s.2.getD (l / 2).toNat 0 = x := by rw [List.getD_eq_getElem?_getD, hx]; rfl
  have hl := h.lits _ x hx
  obtain ⟨f1, f2, f3, f4⟩ := flipI_facts x hl.1
  unfold renL
  rw [hd]
  refine ⟨?_, fun v0 hv0 h00 => ?_⟩
  · split
    · refine ⟨f1, ?_⟩
      have : flipI x / 2 < (first : Int) + (s.1.length : Int) := by rw [f2]; omega
      omega
    · exact hl
  · have hs := h.same v0 hv0 h00 _ x hx
    by_cases hb : l % 2 = 1
    · rw [if_pos hb, litV_flip _ _ hl.1, hs]
      unfold litV
      simp [hb]
    · rw [if_neg hb, hs]
      unfold litV
      simp [hb]
theorem hash_start (first : Nat) : HashOk first [] (startH first) := by
  refine ⟨⟨fun i d h => by simp [startH] at h, fun i j d e h => by simp [startH] at h⟩, by simp [startH], by simp [startH], fun v x hx => ?_, fun v0 hv h0 v x hx => ?_⟩
  · unfold startH at hx
    rw [List.getElem?_map] at hx
    have hlt : v < first := by
      rcases Nat.lt_or_ge v first with h | h
      · exact h
      · rw [List.getElem?_eq_none (by simpa using h)] at hx; cases hx
    rw [List.getElem?_range hlt] at hx
    have : 2 * (v : Int) = x := by simpa using hx
    simp only [startH, List.length_nil]
    omega
  · unfold startH at hx
    rw [List.getElem?_map] at hx
    have hlt : v < first := by
      rcases Nat.lt_or_ge v first with h | h
      · exact h
      · rw [List.getElem?_eq_none (by simpa using h)] at hx; cases hx
    rw [List.getElem?_range hlt] at hx
    have e : 2 * (v : Int) = x := by simpa using hx
    subst e
    show litV v0 _ = v0[v]?.getD false
    unfold litV
    rw [show (2 * (v : Int) / 2).toNat = v by omega]
    simp
theorem hash_step {first : Nat} (hf : 1 ≤ first) {ands : List AndD} {s : List AndD × List Int} (h : HashOk first ands s) {d : AndD} (hx : 0 ≤ d.x ∧ d.x < 2 * ((first : Int) + (ands.length : Int))) (hy : 0 ≤ d.y ∧ d.y < 2 * ((first : Int) + (ands.length : Int))) : HashOk first (ands ++ [d]) (stepH first s d) := by
  obtain ⟨rx, sx⟩ := renL_ok h hx.1 hx.2
  obtain ⟨ry, sy⟩ := renL_ok h hy.1 hy.2
  obtain ⟨⟨r, hr, hrl⟩, hok, hlit, hval⟩ := andH_ok hf h.hs rx ry
  unfold stepH
  generalize hA : andH first s.1 (renL s.2 d.x) (renL s.2 d.y) = A at *
  have hle : s.1.length ≤ A.1.length := by rw [hr, List.length_append]; omega
  have keep : ∀ v0 : List Bool, v0.length = first → ∀ x : Int, 0 ≤ x → x < 2 * ((first : Int) + (s.1.length : Int)) → litV (andsN v0 A.1) x = litV (andsN v0 s.1) x := fun v0 hv x h0 h1 => by
    obtain ⟨r2, hr2⟩ := ands_app v0 s.1 r
    rw [hr, hr2]
    exact litV_app _ _ x h0 (by rw [ands_length, hv]; omega)
  refine ⟨hok, by simp [h.len]; omega, by simp only [List.length_append, List.length_cons, List.length_nil]; have := h.few; rw [hr, List.length_append]; omega, fun v x hv => ?_, fun v0 hv0 h00 v x hv => ?_⟩
  · simp only at hv
    rcases Nat.lt_or_ge v s.2.length with h1 | h1
    · rw [List.getElem?_append_left h1] at hv
      have := h.lits v x hv
      simp only
      omega
    · rw [List.getElem?_append_right h1] at hv
      have h2 : v - s.2.length = 0 := by have := (List.getElem?_eq_some_iff.1 hv).1; simp at this; omega
      rw [h2] at hv
      have : A.2 = x := by simpa using hv
      rw [← this]; exact hlit
  · simp only at hv ⊢
    rw [ands_snoc]
    have hal : (andsN v0 ands).length = first + ands.length := by rw [ands_length, hv0]
    rcases Nat.lt_or_ge v s.2.length with h1 | h1
    · rw [List.getElem?_append_left h1] at hv
      have hl := h.lits v x hv
      rw [keep v0 hv0 x hl.1 hl.2, h.same v0 hv0 h00 v x hv, List.getElem?_append_left (by rw [hal, ← h.len]; exact h1)]
    · rw [List.getElem?_append_right h1] at hv
      have h2 : v - s.2.length = 0 := by have := (List.getElem?_eq_some_iff.1 hv).1; simp at this; omega
      rw [h2] at hv
      have e : A.2 = x := by simpa using hv
      rw [← e, hval v0 hv0 h00, sx v0 hv0 h00, sy v0 hv0 h00]
      have hvl : v = first + ands.length := by rw [← h.len]; omega
      rw [hvl, ← hal, List.getElem?_append_right (Nat.le_refl _)]
      simp
theorem hash_all {first : Nat} (hf : 1 ≤ first) (ands : List AndD) (h : ∀ (k : Nat) (d : AndD), ands[k]? = some d → (0 ≤ d.x ∧ d.x < 2 * ((first + k : Nat) : Int)) ∧ (0 ≤ d.y ∧ d.y < 2 * ((first + k : Nat) : Int))) : HashOk first ands (hashK first ands) := by
  have key : ∀ k, k ≤ ands.length → HashOk first (ands.take k) (hashK first (ands.take k)) := by
    intro k
    induction k with
    | zero => intro _; exact hash_start first
    | succ k ih =>
      intro hk
      obtain ⟨d, hd⟩ := getElem_lt (show k < ands.length by omega)
      rw [take_next ands k d hd, hashK_next]
      have h1 := h k d hd
      have hl : (ands.take k).length = k := by rw [List.length_take]; omega
      exact hash_step hf (ih (by omega)) (by rw [hl]; omega) (by rw [hl]; omega)
  have := key ands.length (Nat.le_refl _)
  rw [List.take_length] at this
  exact this
/-- what is made shows the same at every state -/
theorem hash_same {G : GrD} {ni n : Nat} (hF : FineG G ni n) (row st : List Bool) (hst : st.length = G.lats.length) :
    outN (hashG G) (cycN (hashG G) row st) = outN G (cycN G row st) ∧ nextN (hashG G) (cycN (hashG G) row st) = nextN G (cycN G row st) := by
  have f1 := hF.first
  have f2 := hF.all
  have hA := hash_all (first := firstN G) (by omega) G.ands hF.ands
  have hv : ([false] ++ inRow G.ins.toNat row ++ st).length = firstN G := by
    simp only [List.length_append, List.length_cons, List.length_nil, inRow_length, hst]
    unfold firstN; omega
  have h0 : ([false] ++ inRow G.ins.toNat row ++ st)[0]? = some false := by simp
  have key : ∀ l : Int, 0 ≤ l → l < 2 * (n : Int) → litV (cycN (hashG G) row st) (renL (hashK (firstN G) G.ands).2 l) = litV (cycN G row st) l := fun l h1 h2 => by
    exact (renL_ok hA h1 (by omega)).2 _ hv h0
  constructor
  · unfold outN
    show List.map _ (G.outs.map _) = _
    rw [List.map_map]
    apply List.map_congr_left
    intro x hx
    have := hF.outs x hx
    exact key x this.1 this.2
  · unfold nextN
    show List.map _ (G.lats.map _) = _
    rw [List.map_map]
    apply List.map_congr_left
    intro d hd
    have := hF.lats d hd
    exact key d.next this.1 this.2

end Go.Proofs.Ytlaljeobdddegaa
