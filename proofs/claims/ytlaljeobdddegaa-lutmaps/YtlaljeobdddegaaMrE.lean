import Derived.Test.YtlaljeobdddegaaMrD
namespace Go.Proofs.Ytlaljeobdddegaa
open Go.RowKit Mp

/-- what is known of the cuts -/
structure CutE (P : (Nat → Bool) → Prop) (F N : Nat) (Cs : List (List Ct)) (dp : Nat → Nat) : Prop where
  src : ∀ v, v < F → dp v = 0
  gate : ∀ v, F ≤ v → v < N → ∃ c0 ct, Cs.getD v [] = c0 :: ct ∧ (∀ c, c ∈ ct → TOk P v c ∧ c.lv.length ≤ 4 ∧ ∀ u, u ∈ c.lv → u < v ∧ dp u ≤ c.dep) ∧ ∃ c, c ∈ ct ∧ c.dep + 1 = dp v
theorem Mp.FOk.cutE {G : Gr} {ia ib : Nat → Bool} {N n : Nat} {s : List (List Ct) × List Nat} (h : FOk G ia ib N n s) : CutE (ValG G ia ib N) G.first (G.first + n) s.1 (dOf s.2) := by
  refine ⟨h.cp.d0, fun v hF hv => ?_⟩
  have hg := h.cp.gate v hv hF
  have hok := h.ok v hv
  have hs := h.cp.sound v hv
  have hex := h.cp.dex v hv hF
  unfold KOf at hg
  cases e : s.1.getD v [] with
  | nil => rw [e] at hg; simp at hg
  | cons c0 ct =>
    rw [e] at hg hok
    rw [List.map_cons] at hg
    injection hg with h1 h2
    refine ⟨c0, ct, rfl, fun c hc => ?_, ?_⟩
    · have hm : c.lv ∈ keepA (KOf s.1) (cands (KOf s.1 (G.a v)) (KOf s.1 (G.b v))) := by
        have : c.lv ∈ ct.map Ct.lv := List.mem_map_of_mem hc
        rw [h2] at this; exact this
      obtain ⟨k1, k2⟩ := hok c (List.mem_cons_of_mem _ hc)
      have h4 : c.lv ∈ KOf s.1 v := by
        unfold KOf; rw [e]; exact List.mem_map_of_mem (List.mem_cons_of_mem _ hc)
      refine ⟨k1, (hs.1 c.lv h4).2.1, fun u hu => ⟨(hs.2.2 c.lv hF hm).2.2 u hu, ?_⟩⟩
      rw [k2]; exact mxC_le _ _ u hu
    · obtain ⟨k, hk, hd⟩ := hex
      have hk' : k ∈ ct.map Ct.lv := by rw [h2]; exact hk
      obtain ⟨c, hc, rfl⟩ := List.mem_map.1 hk'
      refine ⟨c, hc, ?_⟩
      rw [(hok c (List.mem_cons_of_mem _ hc)).2, hd]; omega
def mU (t x : Nat) : Nat := if x = 0 ∨ t < x then t else x
theorem mU_mU (t x : Nat) : mU t (mU t x) = mU t x := by
  unfold mU
  by_cases h : x = 0 ∨ t < x
  · rw [if_pos h]; split <;> rfl
  · rw [if_neg h, if_neg h]
theorem needU_same (U : Nat → Nat) (v t : Nat) : needU U v t v = mU t (U v) := by
  unfold needU mU
  split
  · rw [upd_same]
  · rfl
theorem needs_in {t u : Nat} : ∀ {l : List Nat} {U : Nat → Nat}, u ∈ l → needs U l t u = mU t (U u)
  | a :: r, U, h => by
    show needs (needU U a t) r t u = _
    by_cases e : u = a
    · subst e
      by_cases hr : u ∈ r
      · rw [needs_in hr, needU_same, mU_mU]
      · rw [needs_ne hr, needU_same]
    · have hr : u ∈ r := by rcases List.mem_cons.1 h with h | h; exact absurd h e; exact h
      rw [needs_in hr, needU_ne e]
theorem lvW_mem {c : Ct} {u : Nat} (h : u ∈ lvW c) : u ∈ c.lv := by
  obtain ⟨p, hp, rfl⟩ := List.mem_map.1 h
  have := wtyL_lt p hp
  rw [List.getD_eq_getElem?_getD, List.getElem?_eq_getElem this]
  exact List.getElem_mem _
/-- what is chosen so far: the gates from v on -/
structure CovI (P : (Nat → Bool) → Prop) (F N : Nat) (dp : Nat → Nat) (dl : Nat) (E : Nat → Prop) (v : Nat) (U : Nat → Nat) (gs : List Nat) (Ls : List (List Nat)) (bs : List Nat) : Prop where
  l1 : Ls.length = gs.length
  l2 : bs.length = gs.length
  dec : gs.Pairwise (· > ·)
  gin : ∀ g, g ∈ gs → v ≤ g ∧ F ≤ g ∧ g < N ∧ 0 < U g
  all : ∀ u, F ≤ u → v ≤ u → u < N → 0 < U u → u ∈ gs
  ends : ∀ u, E u → F ≤ u → u < N → 0 < U u
  ok : ∀ u, F ≤ u → u < N → 0 < U u → dp u ≤ U u ∧ U u ≤ dl
  tab : ∀ (i g : Nat) (ls : List Nat) (b : Nat), gs[i]? = some g → Ls[i]? = some ls → bs[i]? = some b → ls.length ≤ 4 ∧ (∀ u, u ∈ ls → u < g ∧ (F ≤ u → 0 < U u ∧ U u < U g)) ∧ (∀ val, P val → b.testBit (spl (ls.map val)) = val g) ∧ b < 2 ^ 2 ^ ls.length
theorem CovI.skip {P : (Nat → Bool) → Prop} {F N : Nat} {dp : Nat → Nat} {dl : Nat} {E : Nat → Prop} {v : Nat} {U : Nat → Nat} {gs : List Nat} {Ls : List (List Nat)} {bs : List Nat} (h : CovI P F N dp dl E (v + 1) U gs Ls bs) (h0 : U v = 0) : CovI P F N dp dl E v U gs Ls bs :=
  ⟨h.l1, h.l2, h.dec, fun g hg => by have := h.gin g hg; exact ⟨by omega, this.2⟩, fun u hF hv hN hU => h.all u hF (by by_cases e : u = v; subst e; omega; omega) hN hU, h.ends, h.ok, h.tab⟩
theorem CovI.take {P : (Nat → Bool) → Prop} {F N : Nat} {Cs : List (List Ct)} {dp : Nat → Nat} {dl : Nat} {E : Nat → Prop} {v : Nat} {U : Nat → Nat} {gs : List Nat} {Ls : List (List Nat)} {bs : List Nat} (h : CovI P F N dp dl E (v + 1) U gs Ls bs) (hC : CutE P F N Cs dp) (hF : F ≤ v) (hN : v < N) {c0 c : Ct} {ct : List Ct} (he : Cs.getD v [] = c0 :: ct) (hc : c ∈ ct) (hd : c.dep < U v) : CovI P F N dp dl E v (needs U (lvW c) (U v - 1)) (gs ++ [v]) (Ls ++ [lvW c]) (bs ++ [bitT (wtyL c) c.tb]) := by
  have gate1 : ∀ u, F ≤ u → u < N → 1 ≤ dp u := fun u h1 h2 => by
    obtain ⟨_, _, _, _, c', _, e⟩ := hC.gate u h1 h2
    omega
  obtain ⟨c0', ct', e', hcs, _⟩ := hC.gate v hF hN
  rw [he] at e'
  injection e' with _ e2
  subst e2
  obtain ⟨tok, hl4, hlv⟩ := hcs c hc
  have hlow : ∀ u, u ∈ lvW c → u < v := fun u hu => (hlv u (lvW_mem hu)).1
  have stay : ∀ u, v ≤ u → needs U (lvW c) (U v - 1) u = U u := fun u hu => needs_ne (fun hm => by have := hlow u hm; omega)
  have new : ∀ u, F ≤ u → u ∈ lvW c → 0 < needs U (lvW c) (U v - 1) u ∧ needs U (lvW c) (U v - 1) u < U v ∧ dp u ≤ needs U (lvW c) (U v - 1) u ∧ (0 < U u → needs U (lvW c) (U v - 1) u ≤ U u) := fun u h1 hu => by
    obtain ⟨k1, k2⟩ := hlv u (lvW_mem hu)
    have k3 := gate1 u h1 (by omega)
    have k4 := h.ok u h1 (by omega)
    rw [needs_in hu]
    unfold mU
    split
    · exact ⟨by omega, by omega, by omega, fun hp => by omega⟩
    · exact ⟨by omega, by omega, by have := k4 (by omega); omega, fun _ => Nat.le_refl _⟩
  have low : ∀ u, F ≤ u → u < N → 0 < U u → 0 < needs U (lvW c) (U v - 1) u ∧ needs U (lvW c) (U v - 1) u ≤ U u := fun u h1 h2 h3 => by
    by_cases hu : u ∈ lvW c
    · exact ⟨(new u h1 hu).1, (new u h1 hu).2.2.2 h3⟩
    · rw [needs_ne hu]; exact ⟨h3, Nat.le_refl _⟩
  have hUv := h.ok v hF hN (by omega)
  refine ⟨by simp [h.l1], by simp [h.l2], ?_, fun g hg => ?_, fun u h1 h2 h3 h4 => ?_, fun u h1 h2 h3 => (low u h2 h3 (h.ends u h1 h2 h3)).1, fun u h1 h2 h3 => ?_, fun i g ls b e1 e2 e3 => ?_⟩
  · rw [List.pairwise_append]
    refine ⟨h.dec, List.pairwise_singleton _ _, fun a ha b hb => ?_⟩
    obtain rfl := List.mem_singleton.1 hb
    have := (h.gin a ha).1
    show b < a
    omega
  · rcases List.mem_append.1 hg with hg | hg
    · have := h.gin g hg
      exact ⟨by omega, this.2.1, this.2.2.1, by rw [stay g (by omega)]; exact this.2.2.2⟩
    · obtain rfl := List.mem_singleton.1 hg
      exact ⟨Nat.le_refl _, hF, hN, by rw [stay g (Nat.le_refl _)]; omega⟩
  · rw [stay u h2] at h4
    by_cases e : u = v
    · rw [e]; simp
    · exact List.mem_append.2 (Or.inl (h.all u h1 (by omega) h3 h4))
  · by_cases hu : u ∈ lvW c
    · obtain ⟨_, k2, k3, _⟩ := new u h1 hu
      exact ⟨k3, by omega⟩
    · rw [needs_ne hu] at h3 ⊢
      exact h.ok u h1 h2 h3
  · by_cases hi : i < gs.length
    · rw [List.getElem?_append_left hi] at e1
      rw [List.getElem?_append_left (by rw [h.l1]; exact hi)] at e2
      rw [List.getElem?_append_left (by rw [h.l2]; exact hi)] at e3
      obtain ⟨t1, t2, t3, t4⟩ := h.tab i g ls b e1 e2 e3
      have hg := h.gin g (List.mem_of_getElem? e1)
      refine ⟨t1, fun u hu => ⟨(t2 u hu).1, fun hFu => ?_⟩, t3, t4⟩
      obtain ⟨k1, k2⟩ := (t2 u hu).2 hFu
      have k3 := (t2 u hu).1
      have k4 := low u hFu (by omega) k1
      rw [stay g (by omega)]
      exact ⟨k4.1, by omega⟩
    · have hi2 : i = gs.length := by
        have := (List.getElem?_eq_some_iff.1 e1).1
        rw [List.length_append, List.length_singleton] at this
        omega
      subst hi2
      rw [List.getElem?_concat_length] at e1
      rw [← h.l1, List.getElem?_concat_length] at e2
      rw [← h.l2, List.getElem?_concat_length] at e3
      obtain rfl := Option.some.inj e1
      obtain rfl := Option.some.inj e2
      obtain rfl := Option.some.inj e3
      have hlen : (lvW c).length = (wtyL c).length := List.length_map _
      refine ⟨by rw [hlen]; exact Nat.le_trans (wtyL_len c) hl4, fun u hu => ⟨hlow u hu, fun hFu => ?_⟩, fun val hval => ?_, ?_⟩
      · rw [stay v (Nat.le_refl _)]
        exact ⟨(new u hFu hu).1, (new u hFu hu).2.1⟩
      · have h1 := bitT_val (l := c.lv) (ps := wtyL c) (val := val) (tb := c.tb) hl4 wtyL_lt (wtyL_nd c) (wtyL_idle tok)
        rw [tok.val val hval] at h1
        rw [← h1]
        unfold lvW
        rw [List.map_map]; rfl
      · rw [hlen]; exact mkB_lt _ _
/-- where the choice begins -/
theorem CovI.start {P : (Nat → Bool) → Prop} {F N : Nat} {dp : Nat → Nat} {dl : Nat} {E : Nat → Prop} {U : Nat → Nat} (h1 : ∀ u, E u → F ≤ u → u < N → U u = dl) (h2 : ∀ u, U u = 0 ∨ U u = dl) (h3 : ∀ u, F ≤ u → u < N → 0 < U u → dp u ≤ dl) (h4 : ∀ u, E u → F ≤ u → u < N → 0 < dl) : CovI P F N dp dl E N U [] [] [] :=
  by
    refine ⟨rfl, rfl, List.Pairwise.nil, fun g hg => absurd hg (by simp), fun u _ hv hN _ => by omega, fun u hE hF hN => by rw [h1 u hE hF hN]; exact h4 u hE hF hN, fun u hF hN hU => ?_, fun i g ls b e => by simp at e⟩
    have := h3 u hF hN hU
    rcases h2 u with e | e
    · omega
    · rw [e]; exact ⟨this, Nat.le_refl _⟩
end Go.Proofs.Ytlaljeobdddegaa
