import Derived.Test.YtlaljeobdddegaaMpC
namespace Go.Proofs.Ytlaljeobdddegaa
namespace Mp
/-! the program's cuts (pure) -/
def toldB (K : Nat → List (List Nat)) (v : Nat) (c : List Nat) : Bool := (K v).any fun k => wit k c
def beatsB (K : Nat → List (List Nat)) (one other : List Nat) : Bool := decide (one.length ≤ other.length) && other.all fun v => toldB K v one
def keepS (K : Nat → List (List Nat)) (kept : List (List Nat)) (c : List Nat) : List (List Nat) := if kept.any (fun k => beatsB K k c) then kept else kept.filter (fun k => !beatsB K c k) ++ [c]
def keepA (K : Nat → List (List Nat)) (cs : List (List Nat)) : List (List Nat) := cs.foldl (keepS K) []
/-- the pairs that are small, joined, in their order -/
def cands (x y : List (List Nat)) : List (List Nat) := x.flatMap fun a => (y.map fun b => joinL a b).filter fun c => decide (c.length ≤ 4)
theorem cands_mem {x y : List (List Nat)} {c : List Nat} : c ∈ cands x y ↔ ∃ a b, a ∈ x ∧ b ∈ y ∧ c = joinL a b ∧ c.length ≤ 4 := by
  unfold cands
  rw [List.mem_flatMap]
  constructor
  · rintro ⟨a, ha, h⟩
    obtain ⟨h1, h2⟩ := List.mem_filter.1 h
    obtain ⟨b, hb, rfl⟩ := List.mem_map.1 h1
    exact ⟨a, b, ha, hb, rfl, of_decide_eq_true h2⟩
  · rintro ⟨a, b, ha, hb, rfl, hl⟩
    exact ⟨a, ha, List.mem_filter.2 ⟨List.mem_map.2 ⟨b, hb, rfl⟩, decide_eq_true hl⟩⟩
theorem wit_sub {a b : List Nat} (h : wit a b = true) : ∀ x, x ∈ a → x ∈ b := fun x hx => by
  have := List.all_eq_true.1 h x hx
  simpa using this
/-- no more leaves, and they tell all of the others -/
def Dom (G : Gr) (k c : List Nat) : Prop := k.length ≤ c.length ∧ TlAll G k c
theorem Dom.refl (G : Gr) (c : List Nat) : Dom G c c := ⟨Nat.le_refl _, fun _ hu => .leaf hu⟩
theorem Dom.trans {G : Gr} {a b c : List Nat} (h : Dom G a b) (k : Dom G b c) : Dom G a c := ⟨Nat.le_trans h.1 k.1, h.2.trans k.2⟩
theorem beats_dom {G : Gr} {K : Nat → List (List Nat)} {n : Nat} (hs : ∀ v, v < n → ∀ c, c ∈ K v → Tl G c v) {one other : List Nat} (hn : ∀ u, u ∈ other → u < n) (h : beatsB K one other = true) : Dom G one other := by
  unfold beatsB at h
  rw [Bool.and_eq_true] at h
  refine ⟨of_decide_eq_true h.1, fun u hu => ?_⟩
  have := List.all_eq_true.1 h.2 u hu
  unfold toldB at this
  obtain ⟨k, hk, hw⟩ := List.any_eq_true.1 this
  exact (hs u (hn u hu) k hk).mono (wit_sub hw)
theorem keepS_mem {K : Nat → List (List Nat)} {kept : List (List Nat)} {c x : List Nat} (h : x ∈ keepS K kept c) : x ∈ kept ∨ x = c := by
  unfold keepS at h
  split at h
  · exact Or.inl h
  · rcases List.mem_append.1 h with h | h
    · exact Or.inl (List.mem_filter.1 h).1
    · exact Or.inr (List.mem_singleton.1 h)
theorem keepA_mem {K : Nat → List (List Nat)} : ∀ (cs kept : List (List Nat)) {x : List Nat}, x ∈ cs.foldl (keepS K) kept → x ∈ kept ∨ x ∈ cs
  | [], _, _, h => Or.inl h
  | c :: r, kept, x, h => by
    rcases keepA_mem r (keepS K kept c) h with h | h
    · rcases keepS_mem h with h | rfl
      · exact Or.inl h
      · exact Or.inr List.mem_cons_self
    · exact Or.inr (List.mem_cons_of_mem _ h)
theorem keepS_dom {G : Gr} {K : Nat → List (List Nat)} {n : Nat} (hs : ∀ v, v < n → ∀ c, c ∈ K v → Tl G c v) {kept : List (List Nat)} {c d : List Nat} (hc : ∀ u, u ∈ c → u < n) (hk : ∀ k, k ∈ kept → ∀ u, u ∈ k → u < n) (h : (∃ k, k ∈ kept ∧ Dom G k d) ∨ d = c) : ∃ k, k ∈ keepS K kept c ∧ Dom G k d := by
  unfold keepS
  by_cases hb : kept.any (fun k => beatsB K k c) = true
  · rw [if_pos hb]
    rcases h with h | rfl
    · exact h
    · obtain ⟨k, hk1, hk2⟩ := List.any_eq_true.1 hb
      exact ⟨k, hk1, beats_dom hs hc hk2⟩
  · rw [if_neg hb]
    have hmem : c ∈ kept.filter (fun k => !beatsB K c k) ++ [c] := List.mem_append.2 (Or.inr (List.mem_singleton.2 rfl))
    rcases h with ⟨k, hk1, hk2⟩ | rfl
    · by_cases hck : beatsB K c k = true
      · exact ⟨c, hmem, (beats_dom hs (hk k hk1) hck).trans hk2⟩
      · exact ⟨k, List.mem_append.2 (Or.inl (List.mem_filter.2 ⟨hk1, by simpa using hck⟩)), hk2⟩
    · exact ⟨_, hmem, Dom.refl G _⟩
theorem keepA_dom {G : Gr} {K : Nat → List (List Nat)} {n : Nat} (hs : ∀ v, v < n → ∀ c, c ∈ K v → Tl G c v) : ∀ (cs kept : List (List Nat)), (∀ c, c ∈ cs → ∀ u, u ∈ c → u < n) → (∀ k, k ∈ kept → ∀ u, u ∈ k → u < n) → ∀ d, ((∃ k, k ∈ kept ∧ Dom G k d) ∨ d ∈ cs) → ∃ k, k ∈ cs.foldl (keepS K) kept ∧ Dom G k d
  | [], kept, _, _, d, h => by
    rcases h with h | h
    · exact h
    · cases h
  | c :: r, kept, hcs, hk, d, h => by
    have hc := hcs c List.mem_cons_self
    refine keepA_dom hs r (keepS K kept c) (fun x hx => hcs x (List.mem_cons_of_mem _ hx)) (fun k hkm => ?_) d ?_
    · rcases keepS_mem hkm with h | rfl
      · exact hk k h
      · exact hc
    · rcases h with h | h
      · exact Or.inl (keepS_dom hs hc hk (Or.inl h))
      · rcases List.mem_cons.1 h with rfl | h
        · exact Or.inl (keepS_dom hs hc hk (Or.inr rfl))
        · exact Or.inr h
/-- the cuts of all variables, as the program finds them -/
structure CutsP (G : Gr) (N : Nat) (K : Nat → List (List Nat)) (dp : Nat → Nat) : Prop where
  zero : K 0 = [[]]
  src : ∀ v, 0 < v → v < G.first → K v = [[v]]
  gate : ∀ v, v < N → G.first ≤ v → K v = [v] :: keepA K (cands (K (G.a v)) (K (G.b v)))
  d0 : ∀ v, v < G.first → dp v = 0
  dle : ∀ v, v < N → G.first ≤ v → ∀ k, k ∈ keepA K (cands (K (G.a v)) (K (G.b v))) → dp v ≤ 1 + mxC dp k
  dex : ∀ v, v < N → G.first ≤ v → ∃ k, k ∈ keepA K (cands (K (G.a v)) (K (G.b v))) ∧ dp v = 1 + mxC dp k
theorem CutsP.sound {G : Gr} {N : Nat} {K : Nat → List (List Nat)} {dp : Nat → Nat} (h : CutsP G N K dp) (v : Nat) (hv : v < N) : (∀ c, c ∈ K v → Ris c ∧ c.length ≤ 4 ∧ Tl G c v ∧ ∀ u, u ∈ c → u ≤ v) ∧ (0 < v → [v] ∈ K v) ∧ ∀ c, G.first ≤ v → c ∈ keepA K (cands (K (G.a v)) (K (G.b v))) → Tl G c (G.a v) ∧ Tl G c (G.b v) ∧ ∀ u, u ∈ c → u < v := by
  induction v using Nat.strongRecOn with
  | _ v ih =>
    have hvia : ∀ c, G.first ≤ v → c ∈ keepA K (cands (K (G.a v)) (K (G.b v))) → (Ris c ∧ c.length ≤ 4) ∧ Tl G c (G.a v) ∧ Tl G c (G.b v) ∧ ∀ u, u ∈ c → u < v := fun c hg hc => by
      have hla := G.la v hg
      have hlb := G.lb v hg
      rcases keepA_mem _ [] hc with h1 | h1
      · cases h1
      · obtain ⟨a, b, ha, hb, rfl, hl⟩ := cands_mem.1 h1
        obtain ⟨a1, a2, a3, a4⟩ := (ih _ hla (by omega)).1 a ha
        obtain ⟨b1, b2, b3, b4⟩ := (ih _ hlb (by omega)).1 b hb
        refine ⟨⟨joinL_ris a1 b1, hl⟩, a3.mono (fun u hu => (joinL_mem _ _ _).2 (Or.inl hu)), b3.mono (fun u hu => (joinL_mem _ _ _).2 (Or.inr hu)), fun u hu => ?_⟩
        rcases (joinL_mem _ _ _).1 hu with hu | hu
        · have := a4 u hu; omega
        · have := b4 u hu; omega
    have hself : Ris [v] ∧ [v].length ≤ 4 ∧ Tl G [v] v ∧ ∀ u, u ∈ [v] → u ≤ v := ⟨.cons (fun x hx => by cases hx) .nil, by simp, .leaf (List.mem_singleton.2 rfl), fun u hu => by rw [List.mem_singleton.1 hu]; exact Nat.le_refl _⟩
    refine ⟨fun c hc => ?_, fun hp => ?_, fun c hg hc => (hvia c hg hc).2⟩
    · by_cases h0 : v = 0
      · subst h0
        rw [h.zero] at hc
        rw [List.mem_singleton.1 hc]
        exact ⟨.nil, by simp, .zero, fun u hu => by cases hu⟩
      · by_cases hg : v < G.first
        · rw [h.src v (by omega) hg] at hc
          rw [List.mem_singleton.1 hc]; exact hself
        · rw [h.gate v hv (by omega)] at hc
          rcases List.mem_cons.1 hc with rfl | hc
          · exact hself
          · obtain ⟨⟨h1, h2⟩, h3, h4, h5⟩ := hvia c (by omega) hc
            exact ⟨h1, h2, .gate (by omega) h3 h4, fun u hu => by have := h5 u hu; omega⟩
    · by_cases hg : v < G.first
      · rw [h.src v hp hg]; exact List.mem_singleton.2 rfl
      · rw [h.gate v hv (by omega)]; exact List.mem_cons_self
theorem CutsP.kept {G : Gr} {N : Nat} {K : Nat → List (List Nat)} {dp : Nat → Nat} (h : CutsP G N K dp) : Kept G N K := by
  have hin : ∀ v, v < N → G.first ≤ v → ∀ c, c ∈ K v → v ∉ c → c ∈ keepA K (cands (K (G.a v)) (K (G.b v))) := fun v hv hg c hc hvc => by
    rw [h.gate v hv hg] at hc
    rcases List.mem_cons.1 hc with rfl | hc
    · exact absurd (List.mem_singleton.2 rfl) hvc
    · exact hc
  refine ⟨fun v hv c hc => ?_, by rw [h.zero]; exact List.mem_singleton.2 rfl, fun v hv hp => (h.sound v hv).2.1 hp, fun v hv hg c hc hvc => ?_, fun v hv hg x hx y hy c hc h4 hxy => ?_⟩
  · obtain ⟨h1, h2, _⟩ := (h.sound v hv).1 c hc
    exact ⟨h1.nodup, h2⟩
  · obtain ⟨h1, h2, _⟩ := (h.sound v hv).2.2 c hg (hin v hv hg c hc hvc)
    exact ⟨h1, h2⟩
  · have hla := G.la v hg
    have hlb := G.lb v hg
    obtain ⟨x1, x2, x3, x4⟩ := (h.sound _ (show G.a v < N by omega)).1 x hx
    obtain ⟨y1, y2, y3, y4⟩ := (h.sound _ (show G.b v < N by omega)).1 y hy
    have hjr := (joinL_ris x1 y1).nodup
    have hjl : (joinL x y).length ≤ c.length := nd_len hjr (fun u hu => (hxy u).2 ((joinL_mem _ _ _).1 hu))
    have hcm : joinL x y ∈ cands (K (G.a v)) (K (G.b v)) := cands_mem.2 ⟨x, y, hx, hy, rfl, by omega⟩
    have hlt : ∀ d, d ∈ cands (K (G.a v)) (K (G.b v)) → ∀ u, u ∈ d → u < v := fun d hd u hu => by
      obtain ⟨a, b, ha, hb, rfl, _⟩ := cands_mem.1 hd
      rcases (joinL_mem _ _ _).1 hu with hu | hu
      · have := ((h.sound _ (show G.a v < N by omega)).1 a ha).2.2.2 u hu; omega
      · have := ((h.sound _ (show G.b v < N by omega)).1 b hb).2.2.2 u hu; omega
    obtain ⟨k, hk, hd⟩ := keepA_dom (G := G) (K := K) (n := v) (fun u hu c hc => ((h.sound u (by omega)).1 c hc).2.2.1) _ [] hlt (fun k hk => by cases hk) (joinL x y) (Or.inr hcm)
    refine ⟨k, by rw [h.gate v hv hg]; exact List.mem_cons_of_mem _ hk, fun hvk => ?_, Nat.le_trans hd.1 hjl, fun u hu => hd.2 u ((joinL_mem _ _ _).2 ((hxy u).1 hu))⟩
    have := ((h.sound v hv).2.2 k hg hk).2.2 v hvk
    omega
theorem CutsP.deep {G : Gr} {N : Nat} {K : Nat → List (List Nat)} {dp : Nat → Nat} (h : CutsP G N K dp) : Deep G N K dp := by
  have hin : ∀ v, v < N → G.first ≤ v → ∀ c, c ∈ K v → v ∉ c → c ∈ keepA K (cands (K (G.a v)) (K (G.b v))) := fun v hv hg c hc hvc => by
    rw [h.gate v hv hg] at hc
    rcases List.mem_cons.1 hc with rfl | hc
    · exact absurd (List.mem_singleton.2 rfl) hvc
    · exact hc
  have hmx : ∀ (c : List Nat) (m : Nat), (∀ u, u ∈ c → dp u ≤ m) → mxC dp c ≤ m := fun c m hc => by
    have : ∀ (c : List Nat) (d : Nat), d ≤ m → (∀ u, u ∈ c → dp u ≤ m) → c.foldl (fun d u => max d (dp u)) d ≤ m := by
      intro c
      induction c with
      | nil => intro d hd _; exact hd
      | cons a r ih => intro d hd hc; exact ih _ (Nat.max_le.2 ⟨hd, hc a List.mem_cons_self⟩) (fun u hu => hc u (List.mem_cons_of_mem _ hu))
    exact this c 0 (Nat.zero_le _) hc
  refine ⟨h.d0, fun v hv hg k hk hvk m hm => ?_, fun v hv hg => ?_⟩
  · have h1 := h.dle v hv hg k (hin v hv hg k hk hvk)
    have h2 := hmx k m hm
    omega
  · obtain ⟨k, hk, he⟩ := h.dex v hv hg
    refine ⟨by omega, k, by rw [h.gate v hv hg]; exact List.mem_cons_of_mem _ hk, fun hvk => ?_, fun u hu => by have := mxC_le dp k u hu; omega⟩
    have := ((h.sound v hv).2.2 k hg hk).2.2 v hvk
    omega
end Mp
end Go.Proofs.Ytlaljeobdddegaa
