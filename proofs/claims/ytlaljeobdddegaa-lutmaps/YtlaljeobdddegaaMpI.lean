import Derived.Test.YtlaljeobdddegaaMpH
namespace Go.Proofs.Ytlaljeobdddegaa
namespace Mp
/-! what is kept is important: so it is little (pure) -/
/-- what tells a variable tells what it hangs on, or has something above that -/
theorem tell_down {G : Gr} {E a : List Nat} {c u : Nat} (he : Tl G E u) (ha : Tl G a u) (hn : ¬ Tl G (a.erase c) u) : Tl G E c ∨ ∃ d, d ∈ E ∧ Tl G a d ∧ ¬ Tl G (a.erase c) d ∧ d ≠ c := by
  induction he with
  | @leaf u h =>
    by_cases e : u = c
    · rw [← e]; exact Or.inl (.leaf h)
    · exact Or.inr ⟨u, h, ha, hn, e⟩
  | zero => exact absurd .zero hn
  | @gate u hg h1 h2 ih1 ih2 =>
    cases ha with
    | leaf h =>
      by_cases e : u = c
      · rw [← e]; exact Or.inl (.gate hg h1 h2)
      · exact absurd (.leaf ((List.mem_erase_of_ne e).2 h)) hn
    | zero => exact absurd .zero hn
    | gate _ k1 k2 =>
      by_cases hc : Tl G (a.erase c) (G.a u)
      · exact ih2 k2 (fun hc2 => hn (.gate hg hc hc2))
      · exact ih1 k1 hc
/-- what is least behind two bare cuts is bare itself -/
theorem min_bare {G : Gr} {D C a b : List Nat} {p q : Nat} (hD : D.Nodup) (hDC : TlAll G D C) (hmin : ∀ x, x ∈ D → ¬ TlAll G (D.erase x) C) (hC : ∀ x, x ∈ C ↔ x ∈ a ∨ x ∈ b) (ha : Tl G a p) (hb : Tl G b q) (ba : a = [p] ∨ ∀ x, x ∈ a → ¬ Tl G (a.erase x) p) (bb : b = [q] ∨ ∀ x, x ∈ b → ¬ Tl G (b.erase x) q) : ∀ x, x ∈ D → ¬ (Tl G (D.erase x) p ∧ Tl G (D.erase x) q) := by
  intro x hx ⟨hp, hq⟩
  have key : ∀ (a : List Nat) (p : Nat), (∀ y, y ∈ a → y ∈ C) → Tl G a p → (a = [p] ∨ ∀ x, x ∈ a → ¬ Tl G (a.erase x) p) → Tl G (D.erase x) p → ∀ c, c ∈ a → Tl G (D.erase x) c := by
    intro a p hac ha ba hp c hc
    rcases ba with rfl | ba
    · rw [List.mem_singleton.1 hc]; exact hp
    · rcases tell_down hp ha (ba c hc) with h | ⟨d, hd, h1, h2, h3⟩
      · exact h
      · have hdD := List.mem_of_mem_erase hd
        have hda : d ∉ a := fun h => h2 (.leaf ((List.mem_erase_of_ne h3).2 h))
        have hlow : ∀ u, u < d → Tl G D u → Tl G (D.erase d) u := fun u hu ht => (ht.low u (Nat.le_refl _)).mono (fun y hy => by
          obtain ⟨h4, h5⟩ := List.mem_filter.1 hy
          have := of_decide_eq_true h5
          exact (hD.mem_erase_iff).2 ⟨by omega, h4⟩)
        have hdt : Tl G (D.erase d) d := (h1.low d (Nat.le_refl _)).trans (fun y hy => by
          obtain ⟨h4, h5⟩ := List.mem_filter.1 hy
          have h6 := of_decide_eq_true h5
          have hne : y ≠ d := fun e => hda (e ▸ h4)
          exact hlow y (by omega) (hDC y (hac y h4)))
        refine absurd (fun u hu => (hDC u hu).trans (fun y hy => ?_)) (hmin d hdD)
        by_cases e : y = d
        · rw [e]; exact hdt
        · exact .leaf ((hD.mem_erase_iff).2 ⟨e, hy⟩)
  refine hmin x hx (fun c hc => ?_)
  rcases (hC c).1 hc with h | h
  · exact key a p (fun y hy => (hC y).2 (Or.inl hy)) ha ba hp c h
  · exact key b q (fun y hy => (hC y).2 (Or.inr hy)) hb bb hq c h
/-- none beats another -/
def NoB (K : Nat → List (List Nat)) (x y : List Nat) : Prop := beatsB K x y = false ∧ beatsB K y x = false
theorem keepS_no {K : Nat → List (List Nat)} {kept : List (List Nat)} {c : List Nat} (h : kept.Pairwise (NoB K)) : (keepS K kept c).Pairwise (NoB K) := by
  unfold keepS
  by_cases hb : kept.any (fun k => beatsB K k c) = true
  · rw [if_pos hb]; exact h
  · rw [if_neg hb, List.pairwise_append]
    refine ⟨h.filter _, List.pairwise_singleton _ _, fun x hx y hy => ?_⟩
    obtain ⟨hx1, hx2⟩ := List.mem_filter.1 hx
    rw [List.mem_singleton.1 hy]
    refine ⟨?_, by simpa using hx2⟩
    cases e : beatsB K x c with
    | false => rfl
    | true => exact absurd (List.any_eq_true.2 ⟨x, hx1, e⟩) hb
theorem keepA_no {K : Nat → List (List Nat)} : ∀ (cs kept : List (List Nat)), kept.Pairwise (NoB K) → (cs.foldl (keepS K) kept).Pairwise (NoB K)
  | [], _, h => h
  | _ :: r, _, h => keepA_no r _ (keepS_no h)
theorem no_all {K : Nat → List (List Nat)} {l : List (List Nat)} (h : l.Pairwise (NoB K)) : ∀ x, x ∈ l → ∀ y, y ∈ l → x ≠ y → NoB K x y := by
  induction h with
  | nil => intro x hx; cases hx
  | @cons a l ha hl ih =>
    intro x hx y hy hne
    rcases List.mem_cons.1 hx with e | hx'
    · rcases List.mem_cons.1 hy with e2 | hy'
      · exact absurd (e.trans e2.symm) hne
      · rw [e]; exact ha y hy'
    · rcases List.mem_cons.1 hy with e2 | hy'
      · rw [e2]; exact ⟨(ha x hx').2, (ha x hx').1⟩
      · exact ih x hx' y hy' hne
theorem wit_of {a b : List Nat} (h : ∀ x, x ∈ a → x ∈ b) : wit a b = true := List.all_eq_true.2 (fun x hx => by simpa using h x hx)
/-- what is tight beats all that it tells -/
theorem tight_beats {G : Gr} {N : Nat} {K : Nat → List (List Nat)} (h : Kept G N K) {k c : List Nat} (hk : k.Nodup) (h4 : k.length ≤ 4) (ht : Tight G k) (hl : k.length ≤ c.length) (hc : ∀ u, u ∈ c → u < N) (htl : TlAll G k c) : beatsB K k c = true := by
  unfold beatsB
  rw [Bool.and_eq_true]
  refine ⟨decide_eq_true hl, List.all_eq_true.2 (fun u hu => ?_)⟩
  obtain ⟨k', hk', hs, hb⟩ := bare_of hk (htl u hu)
  have := nd_len hk' hs
  obtain ⟨kk, hkk, he⟩ := h.tight u (hc u hu) k' hk' (by omega) (ht.sub hk hk' hs) hb
  exact List.any_eq_true.2 ⟨kk, hkk, wit_of (fun x hx => hs x ((he x).1 hx))⟩
theorem CutsP.imp {G : Gr} {N : Nat} {K : Nat → List (List Nat)} {dp : Nat → Nat} (h : CutsP G N K dp) (v : Nat) (hv : v < N) (hg : G.first ≤ v) : ∀ c, c ∈ keepA K (cands (K (G.a v)) (K (G.b v))) → Imp G [] [G.a v, G.b v] c := by
  induction v using Nat.strongRecOn with
  | _ v ih =>
    have hK := h.kept
    intro c hc
    have hla := G.la v hg
    have hlb := G.lb v hg
    have hin : ∀ p, p < v → ∀ x, x ∈ K p → x = [p] ∨ ∀ y, y ∈ x → ¬ Tl G (x.erase y) p := fun p hp x hx => by
      by_cases h0 : p = 0
      · subst h0
        rw [h.zero] at hx
        rw [List.mem_singleton.1 hx]
        exact Or.inr (fun y hy => by cases hy)
      · by_cases hpg : p < G.first
        · rw [h.src p (by omega) hpg] at hx
          exact Or.inl (List.mem_singleton.1 hx)
        · have hx0 := hx
          rw [h.gate p (by omega) (by omega)] at hx
          rcases List.mem_cons.1 hx with e | hx
          · exact Or.inl e
          · have hi := ih p hp (by omega) (by omega) x hx
            refine Or.inr (fun y hy ht => hi.bare y hy (fun u hu => ?_))
            rw [List.append_nil]
            cases ht with
            | leaf hm => have := ((h.sound p (by omega)).2.2 x (by omega) hx).2.2 p (List.mem_of_mem_erase hm); omega
            | zero => exact absurd rfl h0
            | gate _ k1 k2 =>
              rcases List.mem_cons.1 hu with rfl | hu
              · exact k1
              · rw [List.mem_singleton.1 hu]; exact k2
    have hc1 : c ∈ cands (K (G.a v)) (K (G.b v)) := by
      rcases keepA_mem _ [] hc with h1 | h1
      · cases h1
      · exact h1
    obtain ⟨x, y, hx, hy, rfl, hl4⟩ := cands_mem.1 hc1
    obtain ⟨x1, x2, x3, x4⟩ := (h.sound _ (show G.a v < N by omega)).1 x hx
    obtain ⟨y1, y2, y3, y4⟩ := (h.sound _ (show G.b v < N by omega)).1 y hy
    have hr := joinL_ris x1 y1
    have hcv : ∀ u, u ∈ joinL x y → u < v := fun u hu => by
      rcases (joinL_mem _ _ _).1 hu with hu | hu
      · have := x4 u hu; omega
      · have := y4 u hu; omega
    obtain ⟨D, hD, hDC, hDl, hDt, hDn, hDe⟩ := tight_of (G := G) hr.nodup v hcv
    have hbare := min_bare hD hDC hDe (joinL_mem x y) x3 y3 (hin _ hla x hx) (hin _ hlb y hy)
    have ta : Tl G D (G.a v) := (x3.mono (fun u hu => (joinL_mem x y u).2 (Or.inl hu))).trans hDC
    have tb : Tl G D (G.b v) := (y3.mono (fun u hu => (joinL_mem x y u).2 (Or.inr hu))).trans hDC
    have hB : Bare G D v := ⟨.gate hg ta tb, fun z hz ht => by
      cases ht with
      | leaf hm => have := hDn v (List.mem_of_mem_erase hm); omega
      | zero => have := G.pos; omega
      | gate _ k1 k2 => exact hbare z hz ⟨k1, k2⟩⟩
    obtain ⟨k, hk, hke⟩ := hK.tight v hv D hD (by omega) hDt hB
    have hkr := ((h.sound v hv).1 k hk)
    have hkA : k ∈ keepA K (cands (K (G.a v)) (K (G.b v))) := by
      rw [h.gate v hv hg] at hk
      rcases List.mem_cons.1 hk with e | hk
      · rw [e] at hke
        have := hDn v ((hke v).1 (List.mem_singleton.2 rfl))
        omega
      · exact hk
    have hkl : k.length = D.length := Nat.le_antisymm (nd_len hkr.1.nodup (fun z hz => (hke z).1 hz)) (nd_len hD (fun z hz => (hke z).2 hz))
    have hkt : Tight G k := hDt.sub hD hkr.1.nodup (fun z hz => (hke z).1 hz)
    have hkc : TlAll G k (joinL x y) := fun u hu => (hDC u hu).mono (fun z hz => (hke z).2 hz)
    have hbt := tight_beats hK (c := joinL x y) hkr.1.nodup hkr.2.1 hkt (by omega) (fun u hu => by have := hcv u hu; omega) hkc
    have hno := no_all (keepA_no (K := K) (cands (K (G.a v)) (K (G.b v))) [] List.Pairwise.nil) k hkA (joinL x y) hc
    have he : k = joinL x y := by
      by_cases e : k = joinL x y
      · exact e
      · have := (hno e).1
        rw [hbt] at this
        cases this
    rw [← he]
    refine ⟨hkr.1.nodup, fun u hu => ?_, fun F hF hFt hFl => hkt F hF (fun u hu => by have := hFt u hu; rwa [List.append_nil] at this) hFl, fun z hz ht => ?_⟩
    · rw [List.append_nil]
      rcases List.mem_cons.1 hu with rfl | hu
      · exact ta.mono (fun z hz => (hke z).2 hz)
      · rw [List.mem_singleton.1 hu]; exact tb.mono (fun z hz => (hke z).2 hz)
    · have mv : ∀ u, Tl G (k.erase z) u → Tl G (D.erase z) u := fun u hu => hu.mono (fun s hs => by
        obtain ⟨h1, h2⟩ := (hkr.1.nodup.mem_erase_iff).1 hs
        exact (hD.mem_erase_iff).2 ⟨h1, (hke s).1 h2⟩)
      have k1 := ht (G.a v) List.mem_cons_self
      have k2 := ht (G.b v) (List.mem_cons_of_mem _ (List.mem_singleton.2 rfl))
      rw [List.append_nil] at k1 k2
      exact hbare z ((hke z).1 hz) ⟨mv _ k1, mv _ k2⟩
theorem beats_self {K : Nat → List (List Nat)} {c : List Nat} (h : ∀ u, u ∈ c → [u] ∈ K u) : beatsB K c c = true := by
  unfold beatsB
  rw [Bool.and_eq_true]
  refine ⟨decide_eq_true (Nat.le_refl _), List.all_eq_true.2 (fun u hu => List.any_eq_true.2 ⟨[u], h u hu, wit_of (fun x hx => by rw [List.mem_singleton.1 hx]; exact hu)⟩)⟩
theorem CutsP.few {G : Gr} {N : Nat} {K : Nat → List (List Nat)} {dp : Nat → Nat} (h : CutsP G N K dp) (v : Nat) (hv : v < N) (hg : G.first ≤ v) : (keepA K (cands (K (G.a v)) (K (G.b v)))).length ≤ 256 := by
  have hall : ∀ c, c ∈ keepA K (cands (K (G.a v)) (K (G.b v))) → Ris c ∧ c.length ≤ 4 ∧ ∀ u, u ∈ c → u < v := fun c hc => by
    have hk : c ∈ K v := by rw [h.gate v hv hg]; exact List.mem_cons_of_mem _ hc
    obtain ⟨h1, h2, _⟩ := (h.sound v hv).1 c hk
    exact ⟨h1, h2, ((h.sound v hv).2.2 c hg hc).2.2⟩
  have hnd : (keepA K (cands (K (G.a v)) (K (G.b v)))).Nodup := by
    refine List.Pairwise.imp_of_mem (fun {a b} ha hb hno e => ?_) (keepA_no (K := K) (cands (K (G.a v)) (K (G.b v))) [] List.Pairwise.nil)
    subst e
    have := beats_self (K := K) (c := a) (fun u hu => (h.sound u (by have := (hall a ha).2.2 u hu; omega)).2.1 (by
      by_cases e : u = 0
      · exfalso
        subst e
        have hi := (h.imp v hv hg a ha).bare 0 hu
        refine hi (fun w hw => ?_)
        refine ((h.imp v hv hg a ha).tell w hw).trans (fun y hy => ?_)
        rw [List.append_nil] at hy ⊢
        by_cases e : y = 0
        · rw [e]; exact .zero
        · exact .leaf ((List.mem_erase_of_ne e).2 hy)
      · omega))
    rw [hno.1] at this
    cases this
  exact Mp.few G 8 4 0 [] [G.a v, G.b v] (by omega) (fun _ _ _ => Nat.zero_le _) _ hnd (fun S hS => ⟨(hall S hS).1, (hall S hS).2.1, h.imp v hv hg S hS⟩)
end Mp
end Go.Proofs.Ytlaljeobdddegaa
