import Derived.Test.YtlaljeobdddegaaRows
namespace Go.Proofs.Ytlaljeobdddegaa
namespace Mp
/-- a graph's gates: what two variables each has -/
structure Gr where
  first : Nat
  a : Nat → Nat
  b : Nat → Nat
  pos : 0 < first
  la : ∀ v, first ≤ v → a v < v
  lb : ∀ v, first ≤ v → b v < v
/-- leaves tell a variable -/
inductive Tl (G : Gr) (C : List Nat) : Nat → Prop
  | leaf {v : Nat} (h : v ∈ C) : Tl G C v
  | zero : Tl G C 0
  | gate {v : Nat} (h : G.first ≤ v) (ha : Tl G C (G.a v)) (hb : Tl G C (G.b v)) : Tl G C v
theorem Tl.trans {G : Gr} {C D : List Nat} {v : Nat} (h : Tl G C v) (hc : ∀ u, u ∈ C → Tl G D u) : Tl G D v := by
  induction h with
  | leaf h => exact hc _ h
  | zero => exact .zero
  | gate h _ _ iha ihb => exact .gate h iha ihb
theorem Tl.mono {G : Gr} {C D : List Nat} {v : Nat} (h : Tl G C v) (hc : ∀ u, u ∈ C → u ∈ D) : Tl G D v := h.trans (fun u hu => .leaf (hc u hu))
theorem Tl.low {G : Gr} {C : List Nat} {v : Nat} (h : Tl G C v) (n : Nat) (hn : v ≤ n) : Tl G (C.filter (fun u => decide (u ≤ n))) v := by
  induction h with
  | leaf h => exact .leaf (List.mem_filter.2 ⟨h, decide_eq_true hn⟩)
  | zero => exact .zero
  | gate h _ _ iha ihb =>
    have h1 := G.la _ h
    have h2 := G.lb _ h
    exact .gate h (iha (by omega)) (ihb (by omega))
/-- what lies on the way to the inputs -/
inductive Cone (G : Gr) : Nat → Nat → Prop
  | here (v : Nat) : Cone G v v
  | goA {u v : Nat} (h : G.first ≤ v) (k : Cone G u (G.a v)) : Cone G u v
  | goB {u v : Nat} (h : G.first ≤ v) (k : Cone G u (G.b v)) : Cone G u v
/-- a leaf without which it isn't told lies on the way -/
theorem Tl.need {G : Gr} {C D : List Nat} {v e : Nat} (h : Tl G C v) (hd : ∀ u, u ∈ C → u ≠ e → u ∈ D) (hn : ¬ Tl G D v) : Cone G e v := by
  induction h with
  | @leaf v h =>
    by_cases he : v = e
    · rw [he]; exact .here e
    · exact absurd (.leaf (hd v h he)) hn
  | zero => exact absurd .zero hn
  | @gate v h ha hb iha ihb =>
    by_cases h1 : Tl G D (G.a v)
    · by_cases h2 : Tl G D (G.b v)
      · exact absurd (.gate h h1 h2) hn
      · exact .goB h (ihb h2)
    · exact .goA h (iha h1)
def TlAll (G : Gr) (C D : List Nat) : Prop := ∀ u, u ∈ D → Tl G C u
theorem TlAll.trans {G : Gr} {C D E : List Nat} (h : TlAll G C D) (k : TlAll G D E) : TlAll G C E := fun u hu => (k u hu).trans h
/-- leaves that nothing else of no greater number can tell -/
def Tight (G : Gr) (D : List Nat) : Prop := ∀ F : List Nat, F.Nodup → TlAll G F D → F.length ≤ D.length → ∀ x, x ∈ F ↔ x ∈ D
/-! lists without twins -/
theorem nd_len {C D : List Nat} (hc : C.Nodup) (h : ∀ x, x ∈ C → x ∈ D) : C.length ≤ D.length := by
  induction C generalizing D with
  | nil => exact Nat.zero_le _
  | cons a r ih =>
    have ha := h a List.mem_cons_self
    have hr := List.nodup_cons.1 hc
    have := ih (D := D.erase a) hr.2 (fun x hx => (List.mem_erase_of_ne (fun e : x = a => hr.1 (by rw [← e]; exact hx))).2 (h x (List.mem_cons_of_mem _ hx)))
    rw [List.length_erase_of_mem ha] at this
    have hp : 0 < D.length := List.length_pos_of_mem ha
    rw [List.length_cons]
    omega
theorem nd_same {C D : List Nat} (hc : C.Nodup) (h : ∀ x, x ∈ C → x ∈ D) (hl : D.length ≤ C.length) : ∀ x, x ∈ D → x ∈ C := by
  intro x hx
  by_cases hm : x ∈ C
  · exact hm
  · have := nd_len (C := x :: C) (D := D) (List.nodup_cons.2 ⟨hm, hc⟩) (fun y hy => by
      rcases List.mem_cons.1 hy with rfl | hy
      · exact hx
      · exact h y hy)
    rw [List.length_cons] at this
    omega
/-- D without D', and F besides -/
def swp (D D' F : List Nat) : List Nat := D.filter (fun x => !decide (x ∈ D') && !decide (x ∈ F)) ++ F
theorem swp_mem {D D' F : List Nat} {x : Nat} : x ∈ swp D D' F ↔ (x ∈ D ∧ x ∉ D') ∨ x ∈ F := by
  unfold swp
  rw [List.mem_append, List.mem_filter]
  simp only [Bool.and_eq_true, Bool.not_eq_true', decide_eq_false_iff_not]
  constructor
  · rintro (⟨h1, h2, _⟩ | h)
    · exact Or.inl ⟨h1, h2⟩
    · exact Or.inr h
  · rintro (⟨h1, h2⟩ | h)
    · by_cases hf : x ∈ F
      · exact Or.inr hf
      · exact Or.inl ⟨h1, h2, hf⟩
    · exact Or.inr h
theorem swp_nodup {D D' F : List Nat} (hd : D.Nodup) (hf : F.Nodup) : (swp D D' F).Nodup := by
  unfold swp
  refine List.nodup_append.2 ⟨hd.filter _, hf, fun x hx y hy e => ?_⟩
  have := (List.mem_filter.1 hx).2
  simp only [Bool.and_eq_true, Bool.not_eq_true', decide_eq_false_iff_not] at this
  exact this.2 (e ▸ hy)
theorem filter_split (D : List Nat) (p : Nat → Bool) : (D.filter p).length + (D.filter (fun x => !p x)).length = D.length := by
  induction D with
  | nil => rfl
  | cons a r ih =>
    by_cases h : p a = true
    · simp [h]; omega
    · simp only [Bool.not_eq_true] at h
      simp [h]; omega
theorem swp_len {D D' F : List Nat} (hd' : D'.Nodup) (hs : ∀ x, x ∈ D' → x ∈ D) (hl : F.length ≤ D'.length) : (swp D D' F).length ≤ D.length := by
  unfold swp
  rw [List.length_append]
  have h1 := filter_split D (fun x => !decide (x ∈ D') && !decide (x ∈ F))
  have h2 := nd_len (C := D') (D := D.filter (fun x => !(!decide (x ∈ D') && !decide (x ∈ F)))) hd' (fun x hx => List.mem_filter.2 ⟨hs x hx, by simp [hx]⟩)
  omega
theorem Tight.sub {G : Gr} {D D' : List Nat} (h : Tight G D) (hd : D.Nodup) (hd' : D'.Nodup) (hs : ∀ x, x ∈ D' → x ∈ D) : Tight G D' := by
  intro F hF ht hl x
  have hsw := h (swp D D' F) (swp_nodup hd hF) (fun u hu => by
    by_cases hm : u ∈ D'
    · exact (ht u hm).mono (fun y hy => swp_mem.2 (Or.inr hy))
    · exact .leaf (swp_mem.2 (Or.inl ⟨hu, hm⟩))) (swp_len hd' hs hl)
  have hsub : ∀ y, y ∈ D' → y ∈ F := fun y hy => by
    rcases swp_mem.1 ((hsw y).2 (hs y hy)) with ⟨_, h2⟩ | h2
    · exact absurd hy h2
    · exact h2
  exact ⟨nd_same hd' hsub hl x, hsub x⟩
/-- no leaf can be left out -/
def Bare (G : Gr) (D : List Nat) (v : Nat) : Prop := Tl G D v ∧ ∀ x, x ∈ D → ¬ Tl G (D.erase x) v
theorem bare_of {G : Gr} {D : List Nat} {v : Nat} (hd : D.Nodup) (h : Tl G D v) : ∃ D', D'.Nodup ∧ (∀ x, x ∈ D' → x ∈ D) ∧ Bare G D' v := by
  obtain ⟨n, hn⟩ : ∃ n, n = D.length := ⟨_, rfl⟩
  induction n generalizing D with
  | zero => exact ⟨D, hd, fun x hx => hx, h, fun x hx => by rw [List.eq_nil_of_length_eq_zero hn.symm] at hx; cases hx⟩
  | succ n ih =>
    by_cases hx : ∃ x, x ∈ D ∧ Tl G (D.erase x) v
    · obtain ⟨x, hxm, hxt⟩ := hx
      obtain ⟨D', h1, h2, h3⟩ := ih (D := D.erase x) (hd.erase x) hxt (by rw [List.length_erase_of_mem hxm]; omega)
      exact ⟨D', h1, fun y hy => List.mem_of_mem_erase (h2 y hy), h3⟩
    · exact ⟨D, hd, fun x hx => hx, h, fun x hxm ht => hx ⟨x, hxm, ht⟩⟩
/-- a smaller set that tells has all of a bare one -/
theorem Bare.all {G : Gr} {D E : List Nat} {v : Nat} (h : Bare G D v) (hd : D.Nodup) (hs : ∀ x, x ∈ E → x ∈ D) (ht : Tl G E v) : ∀ x, x ∈ D → x ∈ E := by
  intro x hx
  by_cases hm : x ∈ E
  · exact hm
  · exact absurd (ht.mono (fun y hy => (hd.mem_erase_iff).2 ⟨fun e => hm (by rw [← e]; exact hy), hs y hy⟩)) (h.2 x hx)

/-! a tight set behind every cut -/
open Classical in
noncomputable def cntT (G : Gr) (D : List Nat) (n : Nat) : Nat := ((List.range n).filter (fun v => decide (Tl G D v))).length
theorem filter_le {p q : Nat → Bool} {l : List Nat} (h : ∀ x, x ∈ l → p x = true → q x = true) : (l.filter p).length ≤ (l.filter q).length := by
  induction l with
  | nil => exact Nat.le_refl _
  | cons a r ih =>
    have := ih (fun x hx => h x (List.mem_cons_of_mem _ hx))
    by_cases hp : p a = true
    · have hq := h a List.mem_cons_self hp
      simp [hp, hq]; omega
    · simp only [Bool.not_eq_true] at hp
      by_cases hq : q a = true
      · simp [hp, hq]; omega
      · simp only [Bool.not_eq_true] at hq
        simp [hp, hq]; omega
theorem filter_eq {p q : Nat → Bool} {l : List Nat} (h : ∀ x, x ∈ l → p x = true → q x = true) (he : (l.filter q).length ≤ (l.filter p).length) : ∀ x, x ∈ l → q x = true → p x = true := by
  induction l with
  | nil => intro x hx; cases hx
  | cons a r ih =>
    have hr : ∀ x, x ∈ r → p x = true → q x = true := fun x hx => h x (List.mem_cons_of_mem _ hx)
    have hle := filter_le hr
    intro x hx hqx
    by_cases hp : p a = true
    · have hq := h a List.mem_cons_self hp
      simp [hp, hq] at he
      rcases List.mem_cons.1 hx with rfl | hx
      · exact hp
      · exact ih hr he x hx hqx
    · simp only [Bool.not_eq_true] at hp
      by_cases hq : q a = true
      · simp [hp, hq] at he; omega
      · rcases List.mem_cons.1 hx with rfl | hx
        · exact absurd hqx hq
        · simp only [Bool.not_eq_true] at hq
          simp [hp, hq] at he
          exact ih hr he x hx hqx
open Classical in
theorem cntT_le (G : Gr) (D : List Nat) (n : Nat) : cntT G D n ≤ n := by
  unfold cntT
  have := List.length_filter_le (fun v => decide (Tl G D v)) (List.range n)
  rw [List.length_range] at this
  exact this
open Classical in
theorem cntT_mono {G : Gr} {D F : List Nat} {n : Nat} (h : TlAll G F D) : cntT G D n ≤ cntT G F n := by
  unfold cntT
  refine filter_le (fun x _ hx => ?_)
  have := of_decide_eq_true hx
  exact decide_eq_true (this.trans h)
open Classical in
theorem cntT_same {G : Gr} {D F : List Nat} {n : Nat} (h : TlAll G F D) (he : cntT G F n ≤ cntT G D n) : ∀ v, v < n → Tl G F v → Tl G D v := by
  intro v hv ht
  have := filter_eq (p := fun v => decide (Tl G D v)) (q := fun v => decide (Tl G F v)) (l := List.range n) (fun x _ hx => decide_eq_true ((of_decide_eq_true hx).trans h)) he v (List.mem_range.2 hv) (decide_eq_true ht)
  exact of_decide_eq_true this
theorem least {P : Nat → Prop} (h : ∃ n, P n) : ∃ n, P n ∧ ∀ m, P m → n ≤ m := by
  obtain ⟨n, hn⟩ := h
  induction n using Nat.strongRecOn with
  | _ n ih =>
    by_cases hx : ∃ m, m < n ∧ P m
    · obtain ⟨m, hm, hp⟩ := hx
      exact ih m hm hp
    · exact ⟨n, hn, fun m hm => by
        by_cases e : n ≤ m
        · exact e
        · exact absurd ⟨m, by omega, hm⟩ hx⟩
/-- what differs at the greatest place can be left out -/
theorem tell_less {G : Gr} {E F : List Nat} (hF : F.Nodup) (hFE : TlAll G F E) (hEF : TlAll G E F) {x : Nat} (hx : x ∈ F) (hxE : x ∉ E) : TlAll G (F.erase x) F := by
  have hlow : ∀ y, y < x → Tl G F y → Tl G (F.erase x) y := fun y hy ht => by
    refine (ht.low y (Nat.le_refl _)).mono (fun u hu => ?_)
    obtain ⟨h1, h2⟩ := List.mem_filter.1 hu
    have := of_decide_eq_true h2
    exact (hF.mem_erase_iff).2 ⟨by omega, h1⟩
  have hxt : Tl G (F.erase x) x := by
    have h1 := (hEF x hx).low x (Nat.le_refl _)
    refine h1.trans (fun u hu => ?_)
    obtain ⟨h2, h3⟩ := List.mem_filter.1 hu
    have h4 := of_decide_eq_true h3
    have hne : u ≠ x := fun e => hxE (e ▸ h2)
    exact hlow u (by omega) (hFE u h2)
  intro u hu
  by_cases e : u = x
  · rw [e]; exact hxt
  · exact .leaf ((hF.mem_erase_iff).2 ⟨e, hu⟩)
/-- behind each set there is a tight one: of least number, all of it is needed -/
theorem tight_of {G : Gr} {C : List Nat} (hC : C.Nodup) (n : Nat) (hn : ∀ u, u ∈ C → u < n) : ∃ D, D.Nodup ∧ TlAll G D C ∧ D.length ≤ C.length ∧ Tight G D ∧ (∀ u, u ∈ D → u < n) ∧ ∀ x, x ∈ D → ¬ TlAll G (D.erase x) C := by
  obtain ⟨m, ⟨D, hD, hDC, rfl⟩, hmin⟩ := least (P := fun m => ∃ D : List Nat, D.Nodup ∧ TlAll G D C ∧ m = D.length * (n + 1) + (n - cntT G D n)) ⟨_, C, hC, fun u hu => .leaf hu, rfl⟩
  have hsz : ∀ F : List Nat, F.Nodup → TlAll G F C → D.length ≤ F.length := fun F hF hFC => by
    have h1 := hmin _ ⟨F, hF, hFC, rfl⟩
    by_cases e : D.length ≤ F.length
    · exact e
    · have h2 : (F.length + 1) * (n + 1) ≤ D.length * (n + 1) := Nat.mul_le_mul (by omega) (Nat.le_refl _)
      rw [Nat.add_mul] at h2
      omega
  have hne : ∀ x, x ∈ D → ¬ TlAll G (D.erase x) C := fun x hx ht => by
    have := hsz _ (hD.erase x) ht
    rw [List.length_erase_of_mem hx] at this
    have := List.length_pos_of_mem hx
    omega
  refine ⟨D, hD, hDC, hsz C hC (fun u hu => .leaf hu), ?_, fun u hu => ?_, hne⟩
  · intro F hF hFD hl
    have hFC := hFD.trans hDC
    have hlen : F.length = D.length := Nat.le_antisymm hl (hsz F hF hFC)
    have h1 := hmin _ ⟨F, hF, hFC, rfl⟩
    rw [hlen] at h1
    have hc1 := cntT_le G D n
    have hc2 := cntT_le G F n
    have hsame := cntT_same hFD (n := n) (by omega)
    have hFn : ∀ x, x ∈ F → ¬ TlAll G (F.erase x) C := fun x hx ht => by
      have := hsz _ (hF.erase x) ht
      rw [List.length_erase_of_mem hx, hlen] at this
      have := List.length_pos_of_mem hx
      omega
    have hlt : ∀ E : List Nat, E.Nodup → TlAll G E C → (∀ x, x ∈ E → ¬ TlAll G (E.erase x) C) → ∀ u, u ∈ E → u < n := fun E hE hEC hEn u hu => by
      by_cases e : u < n
      · exact e
      · refine absurd (fun v hv => ?_) (hEn u hu)
        have hv' := hn v hv
        refine ((hEC v hv).low v (Nat.le_refl _)).mono (fun y hy => ?_)
        obtain ⟨h2, h3⟩ := List.mem_filter.1 hy
        have := of_decide_eq_true h3
        exact (hE.mem_erase_iff).2 ⟨by omega, h2⟩
    have hDF : TlAll G D F := fun u hu => hsame u (hlt F hF hFC hFn u hu) (.leaf hu)
    intro x
    constructor
    · intro h2
      by_cases h3 : x ∈ D
      · exact h3
      · exact absurd ((tell_less hF hFD hDF h2 h3).trans hFC) (hFn x h2)
    · intro h3
      by_cases h2 : x ∈ F
      · exact h2
      · exact absurd ((tell_less hD hDF hFD h3 h2).trans hDC) (hne x h3)
  · by_cases e : u < n
    · exact e
    · refine absurd (fun v hv => ?_) (hne u hu)
      have hv' := hn v hv
      refine ((hDC v hv).low v (Nat.le_refl _)).mono (fun y hy => ?_)
      obtain ⟨h2, h3⟩ := List.mem_filter.1 hy
      have := of_decide_eq_true h3
      exact (hD.mem_erase_iff).2 ⟨by omega, h2⟩

/-! cuts that are kept -/
structure Kept (G : Gr) (N : Nat) (K : Nat → List (List Nat)) : Prop where
  nd : ∀ v, v < N → ∀ c, c ∈ K v → c.Nodup ∧ c.length ≤ 4
  zero : [] ∈ K 0
  self : ∀ v, v < N → 0 < v → [v] ∈ K v
  via : ∀ v, v < N → G.first ≤ v → ∀ c, c ∈ K v → v ∉ c → Tl G c (G.a v) ∧ Tl G c (G.b v)
  dom : ∀ v, v < N → G.first ≤ v → ∀ x, x ∈ K (G.a v) → ∀ y, y ∈ K (G.b v) → ∀ c : List Nat, c.Nodup → c.length ≤ 4 → (∀ u, u ∈ c ↔ u ∈ x ∨ u ∈ y) → ∃ k, k ∈ K v ∧ v ∉ k ∧ k.length ≤ c.length ∧ TlAll G k c
/-- a tight set that has nothing needless is kept -/
theorem Kept.tight {G : Gr} {N : Nat} {K : Nat → List (List Nat)} (h : Kept G N K) (v : Nat) (hv : v < N) : ∀ D : List Nat, D.Nodup → D.length ≤ 4 → Tight G D → Bare G D v → ∃ k, k ∈ K v ∧ ∀ x, x ∈ k ↔ x ∈ D := by
  induction v using Nat.strongRecOn with
  | _ v ih =>
    intro D hD h4 ht hb
    by_cases h0 : v = 0
    · subst h0
      have := hb.all hD (E := []) (fun x hx => by cases hx) .zero
      exact ⟨[], h.zero, fun x => ⟨fun hx => (by cases hx), fun hx => this x hx⟩⟩
    · by_cases hm : v ∈ D
      · have := hb.all hD (E := [v]) (fun x hx => by rw [List.mem_singleton.1 hx]; exact hm) (.leaf (List.mem_singleton.2 rfl))
        exact ⟨[v], h.self v hv (by omega), fun x => ⟨fun hx => by rw [List.mem_singleton.1 hx]; exact hm, fun hx => this x hx⟩⟩
      · obtain ⟨hg, ha, hb'⟩ : G.first ≤ v ∧ Tl G D (G.a v) ∧ Tl G D (G.b v) := by
          cases hb.1 with
          | leaf h => exact absurd h hm
          | zero => exact absurd rfl h0
          | gate h1 h2 h3 => exact ⟨h1, h2, h3⟩
        have hla := G.la v hg
        have hlb := G.lb v hg
        obtain ⟨A, hA, hAD, hAb⟩ := bare_of hD ha
        obtain ⟨B, hB, hBD, hBb⟩ := bare_of hD hb'
        have lenA := nd_len hA hAD
        have lenB := nd_len hB hBD
        obtain ⟨ka, hka, hka2⟩ := ih _ hla (by omega) A hA (by omega) (ht.sub hD hA hAD) hAb
        obtain ⟨kb, hkb, hkb2⟩ := ih _ hlb (by omega) B hB (by omega) (ht.sub hD hB hBD) hBb
        have hall := hb.all hD (E := A ++ B) (fun x hx => by
          rcases List.mem_append.1 hx with h | h
          · exact hAD x h
          · exact hBD x h) (.gate hg (hAb.1.mono (fun u hu => List.mem_append.2 (Or.inl hu))) (hBb.1.mono (fun u hu => List.mem_append.2 (Or.inr hu))))
        obtain ⟨k, hk, _, hkl, hkt⟩ := h.dom v hv hg ka hka kb hkb D hD h4 (fun u => by
          rw [hka2, hkb2]
          exact ⟨fun hu => List.mem_append.1 (hall u hu), fun hu => by
            rcases hu with hu | hu
            · exact hAD u hu
            · exact hBD u hu⟩)
        exact ⟨k, hk, ht k (h.nd v hv k hk).1 hkt hkl⟩
/-- depths by the kept cuts -/
structure Deep (G : Gr) (N : Nat) (K : Nat → List (List Nat)) (dp : Nat → Nat) : Prop where
  src : ∀ v, v < G.first → dp v = 0
  le : ∀ v, v < N → G.first ≤ v → ∀ k, k ∈ K v → v ∉ k → ∀ m, (∀ u, u ∈ k → dp u ≤ m) → dp v ≤ 1 + m
  ex : ∀ v, v < N → G.first ≤ v → 1 ≤ dp v ∧ ∃ k, k ∈ K v ∧ v ∉ k ∧ ∀ u, u ∈ k → dp u + 1 ≤ dp v
theorem Kept.deep {G : Gr} {N : Nat} {K : Nat → List (List Nat)} {dp : Nat → Nat} (h : Kept G N K) (hd : Deep G N K dp) (w : Nat) (hw : w < N) :
    (∀ e, Cone G e w → dp e ≤ dp w) ∧ (G.first ≤ w → ∀ C : List Nat, C.Nodup → C.length ≤ 4 → Tl G C (G.a w) → Tl G C (G.b w) → w ∉ C → ∀ m, (∀ u, u ∈ C → dp u ≤ m) → dp w ≤ 1 + m) := by
  induction w using Nat.strongRecOn with
  | _ w ih =>
    have hstep : ∀ x, G.first ≤ w → x < w → (∀ k : List Nat, k ∈ K w → w ∉ k → Tl G k x) → dp x ≤ dp w := fun x hg hx hk => by
      obtain ⟨h1, k, hkm, hwk, hku⟩ := hd.ex w hw hg
      by_cases hxf : x < G.first
      · rw [hd.src x hxf]; omega
      · cases hk k hkm hwk with
        | leaf hm => have := hku x hm; omega
        | zero => have := G.pos; omega
        | gate hg2 ha hb =>
          by_cases hm : x ∈ k
          · have := hku x hm; omega
          · have := (ih x hx (by omega)).2 hg2 k (h.nd w hw k hkm).1 (h.nd w hw k hkm).2 ha hb hm (dp w - 1) (fun u hu => by have := hku u hu; omega)
            omega
    refine ⟨fun e he => ?_, fun hg C hC h4 ha hb _ m hm => ?_⟩
    · cases he with
      | here => exact Nat.le_refl _
      | goA hg k =>
        have hl := G.la w hg
        exact Nat.le_trans ((ih _ hl (by omega)).1 e k) (hstep _ hg hl (fun c hc hwc => (h.via w hw hg c hc hwc).1))
      | goB hg k =>
        have hl := G.lb w hg
        exact Nat.le_trans ((ih _ hl (by omega)).1 e k) (hstep _ hg hl (fun c hc hwc => (h.via w hw hg c hc hwc).2))
    · have hla := G.la w hg
      have hlb := G.lb w hg
      have hC0 : (C.filter (fun u => decide (u ≤ w - 1))).Nodup := hC.filter _
      have hlen := List.length_filter_le (fun u => decide (u ≤ w - 1)) C
      have ha0 := ha.low (w - 1) (by omega)
      have hb0 := hb.low (w - 1) (by omega)
      obtain ⟨D, hD, hDC, hDl, hDt, hDn, hDe⟩ := tight_of (G := G) hC0 w (fun u hu => by
        have := of_decide_eq_true (List.mem_filter.1 hu).2
        have := G.pos
        omega)
      have hDw : Tl G D w := .gate hg (ha0.trans hDC) (hb0.trans hDC)
      obtain ⟨E, hE, hED, hEb⟩ := bare_of hD hDw
      have hEl := nd_len hE hED
      obtain ⟨k, hk, hke⟩ := h.tight w hw E hE (by omega) (hDt.sub hD hE hED) hEb
      refine hd.le w hw hg k hk (fun hwk => ?_) m (fun u hu => ?_)
      · have := hDn w (hED w ((hke w).1 hwk)); omega
      · have huD := hED u ((hke u).1 hu)
        obtain ⟨c, hc⟩ : ∃ c, c ∈ C.filter (fun u => decide (u ≤ w - 1)) ∧ ¬ Tl G (D.erase u) c := by
          by_cases hex : ∃ c, c ∈ C.filter (fun u => decide (u ≤ w - 1)) ∧ ¬ Tl G (D.erase u) c
          · exact hex
          · refine absurd (fun c hc => ?_) (hDe u huD)
            by_cases ht : Tl G (D.erase u) c
            · exact ht
            · exact absurd ⟨c, hc, ht⟩ hex
        have hcone := (hDC c hc.1).need (e := u) (D := D.erase u) (fun x hx hne => (hD.mem_erase_iff).2 ⟨hne, hx⟩) hc.2
        have hcw := of_decide_eq_true (List.mem_filter.1 hc.1).2
        have hp := G.pos
        exact Nat.le_trans ((ih c (by omega) (by omega)).1 u hcone) (hm c (List.mem_filter.1 hc.1).1)

end Mp
end Go.Proofs.Ytlaljeobdddegaa
