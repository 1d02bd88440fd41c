import Derived.Test.YtlaljeobdddegaaMpD
namespace Go.Proofs.Ytlaljeobdddegaa
namespace Mp
/-! few cuts are kept (pure) -/
theorem ris_ext {a b : List Nat} (ha : Ris a) (hb : Ris b) (h : ∀ x, x ∈ a ↔ x ∈ b) : a = b := by
  induction ha generalizing b with
  | nil =>
    cases hb with
    | nil => rfl
    | cons _ _ => exact absurd ((h _).2 List.mem_cons_self) (by simp)
  | @cons x l hx hl ih =>
    cases hb with
    | nil => exact absurd ((h _).1 List.mem_cons_self) (by simp)
    | @cons y m hy hm =>
      have e : x = y := by
        rcases List.mem_cons.1 ((h x).1 List.mem_cons_self) with e | e
        · exact e
        · rcases List.mem_cons.1 ((h y).2 List.mem_cons_self) with e2 | e2
          · exact e2.symm
          · have := hy x e; have := hx y e2; omega
      subst e
      have := ih hm (fun z => by
        constructor
        · intro hz
          rcases List.mem_cons.1 ((h z).1 (List.mem_cons_of_mem _ hz)) with e | e
          · have := hx z hz; omega
          · exact e
        · intro hz
          rcases List.mem_cons.1 ((h z).2 (List.mem_cons_of_mem _ hz)) with e | e
          · have := hy z hz; omega
          · exact e)
      rw [this]
theorem Ris.erase {l : List Nat} (h : Ris l) (x : Nat) : Ris (l.erase x) := by
  induction h with
  | nil => exact .nil
  | @cons a l ha hl ih =>
    by_cases e : a = x
    · subst e; rw [List.erase_cons_head]; exact hl
    · rw [List.erase_cons_tail (by simpa using e)]
      exact .cons (fun y hy => ha y (List.mem_of_mem_erase hy)) ih
theorem nd_len' {L : List (List Nat)} (hL : L.Nodup) (hS : ∀ S, S ∈ L → S = []) : L.length ≤ 1 := by
  match L, hL, hS with
  | [], _, _ => exact Nat.zero_le _
  | [a], _, _ => exact Nat.le_refl _
  | a :: b :: r, hL, hS =>
    have h1 := hS a List.mem_cons_self
    have h2 := hS b (List.mem_cons_of_mem _ List.mem_cons_self)
    have := (List.nodup_cons.1 hL).1
    exact absurd (by rw [h1, h2]; exact List.mem_cons_self) this
theorem split_len (L : List (List Nat)) (p : List Nat → Bool) : L.length = (L.filter p).length + (L.filter (fun x => !p x)).length := by
  induction L with
  | nil => rfl
  | cons a r ih =>
    by_cases h : p a = true
    · simp [h]; omega
    · simp only [Bool.not_eq_true] at h
      simp [h]; omega
/-- told by S and R together -/
def TR (G : Gr) (S R Y : List Nat) : Prop := ∀ u, u ∈ Y → Tl G (S ++ R) u
theorem TR.trans {G : Gr} {S M R Y : List Nat} (h : TR G S R M) (k : TR G M R Y) : TR G S R Y := fun u hu => (k u hu).trans (fun x hx => by
  rcases List.mem_append.1 hx with hx | hx
  · exact h x hx
  · exact .leaf (List.mem_append.2 (Or.inr hx)))
/-- a set that none of no greater number lies behind, and of which all is needed -/
structure Imp (G : Gr) (R Y S : List Nat) : Prop where
  nd : S.Nodup
  tell : TR G S R Y
  tight : ∀ F : List Nat, F.Nodup → TR G F R S → F.length ≤ S.length → ∀ x, x ∈ F ↔ x ∈ S
  bare : ∀ x, x ∈ S → ¬ TR G (S.erase x) R Y
open Classical in
noncomputable def bdL (G : Gr) (R : List Nat) (n : Nat) (T : Nat → Prop) : List Nat := (List.range n).filter fun x => decide (T x ∧ x ∉ R ∧ x ≠ 0 ∧ ¬ (G.first ≤ x ∧ T (G.a x) ∧ T (G.b x)))
open Classical in
theorem bdL_mem {G : Gr} {R : List Nat} {n : Nat} {T : Nat → Prop} {x : Nat} : x ∈ bdL G R n T ↔ x < n ∧ T x ∧ x ∉ R ∧ x ≠ 0 ∧ ¬ (G.first ≤ x ∧ T (G.a x) ∧ T (G.b x)) := by
  unfold bdL
  rw [List.mem_filter, List.mem_range]
  exact ⟨fun h => ⟨h.1, of_decide_eq_true h.2⟩, fun h => ⟨h.1, decide_eq_true h.2⟩⟩
open Classical in
theorem bdL_nd (G : Gr) (R : List Nat) (n : Nat) (T : Nat → Prop) : (bdL G R n T).Nodup := List.nodup_range.filter _
theorem bdL_tell {G : Gr} {R : List Nat} {n : Nat} {T : Nat → Prop} (x : Nat) (hx : x < n) (h : T x) : Tl G (bdL G R n T ++ R) x := by
  induction x using Nat.strongRecOn with
  | _ x ih =>
    by_cases hm : x ∈ bdL G R n T
    · exact .leaf (List.mem_append.2 (Or.inl hm))
    · by_cases hr : x ∈ R
      · exact .leaf (List.mem_append.2 (Or.inr hr))
      · by_cases h0 : x = 0
        · rw [h0]; exact .zero
        · by_cases hg : G.first ≤ x ∧ T (G.a x) ∧ T (G.b x)
          · have h1 := G.la x hg.1
            have h2 := G.lb x hg.1
            exact .gate hg.1 (ih _ h1 (by omega) hg.2.1) (ih _ h2 (by omega) hg.2.2)
          · exact absurd (bdL_mem.2 ⟨hx, h, hr, h0, hg⟩) hm
theorem bdL_sub {G : Gr} {R S : List Nat} {n : Nat} : ∀ x, x ∈ bdL G R n (Tl G (S ++ R)) → x ∈ S := fun x hx => by
  obtain ⟨_, ht, hr, h0, hg⟩ := bdL_mem.1 hx
  cases ht with
  | leaf h =>
    rcases List.mem_append.1 h with h | h
    · exact h
    · exact absurd h hr
  | zero => exact absurd rfl h0
  | gate h1 h2 h3 => exact absurd ⟨h1, h2, h3⟩ hg
theorem count4 {p q r s : Nat → Bool} (l : List Nat) (h : ∀ x, (if p x then 1 else 0) + (if q x then 1 else 0) ≤ (if r x then 1 else 0) + (if s x then 1 else 0)) : (l.filter p).length + (l.filter q).length ≤ (l.filter r).length + (l.filter s).length := by
  induction l with
  | nil => exact Nat.le_refl _
  | cons a t ih =>
    have := h a
    have e : ∀ f : Nat → Bool, ((a :: t).filter f).length = (if f a then 1 else 0) + (t.filter f).length := fun f => by
      by_cases hf : f a = true
      · simp [hf]; omega
      · simp only [Bool.not_eq_true] at hf; simp [hf]
    rw [e, e, e, e]
    omega
open Classical in
theorem bdL_sum (G : Gr) (R : List Nat) (n : Nat) (A B : Nat → Prop) : (bdL G R n (fun x => A x ∨ B x)).length + (bdL G R n (fun x => A x ∧ B x)).length ≤ (bdL G R n A).length + (bdL G R n B).length := by
  unfold bdL
  refine count4 _ (fun x => ?_)
  simp only [decide_eq_true_eq]
  by_cases hr : x ∉ R ∧ x ≠ 0
  · have key : ∀ T : Nat → Prop, (T x ∧ x ∉ R ∧ x ≠ 0 ∧ ¬ (G.first ≤ x ∧ T (G.a x) ∧ T (G.b x))) ↔ (T x ∧ ¬ (G.first ≤ x ∧ T (G.a x) ∧ T (G.b x))) := fun T => ⟨fun h => ⟨h.1, h.2.2.2⟩, fun h => ⟨h.1, hr.1, hr.2, h.2⟩⟩
    simp only [key (fun x => A x ∨ B x), key (fun x => A x ∧ B x), key A, key B]
    by_cases a0 : A x <;> by_cases b0 : B x <;> by_cases g : G.first ≤ x <;> by_cases a1 : A (G.a x) <;> by_cases a2 : A (G.b x) <;> by_cases b1 : B (G.a x) <;> by_cases b2 : B (G.b x) <;> simp [a0, b0, g, a1, a2, b1, b2]
  · have key : ∀ T : Nat → Prop, ¬ (T x ∧ x ∉ R ∧ x ≠ 0 ∧ ¬ (G.first ≤ x ∧ T (G.a x) ∧ T (G.b x))) := fun T h => hr ⟨h.2.1, h.2.2.1⟩
    rw [if_neg (key A), if_neg (key B), if_neg (key (fun x => A x ∨ B x)), if_neg (key (fun x => A x ∧ B x))]
    exact Nat.le_refl _
/-- of what is needed nothing lies beyond what is to be told -/
theorem low_need {G : Gr} {S R Y : List Nat} {n : Nat} (hn : ∀ u, u ∈ Y → u < n) (hd : S.Nodup) (ht : TR G S R Y) (hb : ∀ x, x ∈ S → ¬ TR G (S.erase x) R Y) : ∀ x, x ∈ S → x < n := fun x hx => by
  by_cases e : x < n
  · exact e
  · refine absurd (fun u hu => ?_) (hb x hx)
    have hu' := hn u hu
    refine ((ht u hu).low u (Nat.le_refl _)).mono (fun y hy => ?_)
    obtain ⟨h1, h2⟩ := List.mem_filter.1 hy
    have := of_decide_eq_true h2
    rcases List.mem_append.1 h1 with h1 | h1
    · exact List.mem_append.2 (Or.inl ((hd.mem_erase_iff).2 ⟨by omega, h1⟩))
    · exact List.mem_append.2 (Or.inr h1)
/-- of the least ones, that which tells the most -/
theorem far_of {G : Gr} {R Y : List Nat} (n : Nat) (hx : ∃ F : List Nat, F.Nodup ∧ TR G F R Y) : ∃ M : List Nat, M.Nodup ∧ TR G M R Y ∧ (∀ F : List Nat, F.Nodup → TR G F R Y → M.length ≤ F.length) ∧ ∀ F : List Nat, F.Nodup → TR G F R M → F.length ≤ M.length → ∀ v, v < n → Tl G (F ++ R) v → Tl G (M ++ R) v := by
  obtain ⟨F0, hF0, hF0t⟩ := hx
  obtain ⟨m, ⟨M, hM, hMY, rfl⟩, hmin⟩ := least (P := fun m => ∃ D : List Nat, D.Nodup ∧ TR G D R Y ∧ m = D.length * (n + 1) + (n - cntT G (D ++ R) n)) ⟨_, F0, hF0, hF0t, rfl⟩
  have hsz : ∀ F : List Nat, F.Nodup → TR G F R Y → M.length ≤ F.length := fun F hF hFC => by
    have h1 := hmin _ ⟨F, hF, hFC, rfl⟩
    by_cases e : M.length ≤ F.length
    · exact e
    · have h2 : (F.length + 1) * (n + 1) ≤ M.length * (n + 1) := Nat.mul_le_mul (by omega) (Nat.le_refl _)
      rw [Nat.add_mul] at h2
      omega
  refine ⟨M, hM, hMY, hsz, fun F hF hFM hl => ?_⟩
  have hFY := hFM.trans hMY
  have hlen : F.length = M.length := Nat.le_antisymm hl (hsz F hF hFY)
  have h1 := hmin _ ⟨F, hF, hFY, rfl⟩
  rw [hlen] at h1
  have hc1 := cntT_le G (M ++ R) n
  have hc2 := cntT_le G (F ++ R) n
  exact cntT_same (G := G) (D := M ++ R) (F := F ++ R) (n := n) (fun u hu => by
    rcases List.mem_append.1 hu with hu | hu
    · exact hFM u hu
    · exact .leaf (List.mem_append.2 (Or.inr hu))) (by omega)
/-- what is important lies behind the least one -/
theorem Imp.behind {G : Gr} {R Y S M : List Nat} (h : Imp G R Y S) (hM : M.Nodup) (hMY : TR G M R Y) (hmin : ∀ F : List Nat, F.Nodup → TR G F R Y → M.length ≤ F.length) (n : Nat) (hn : ∀ u, u ∈ Y → u < n) : TR G S R M := by
  have hSn := low_need hn h.nd h.tell h.bare
  have hMn := low_need hn hM hMY (fun x hx ht => by
    have := hmin _ (hM.erase x) ht
    rw [List.length_erase_of_mem hx] at this
    have := List.length_pos_of_mem hx
    omega)
  have hs := bdL_sum G R n (Tl G (S ++ R)) (Tl G (M ++ R))
  have h1 := nd_len (bdL_nd G R n (Tl G (S ++ R))) bdL_sub
  have h2 := nd_len (bdL_nd G R n (Tl G (M ++ R))) bdL_sub
  have h3 := hmin (bdL G R n (fun x => Tl G (S ++ R) x ∧ Tl G (M ++ R) x)) (bdL_nd _ _ _ _) (fun u hu => bdL_tell u (hn u hu) ⟨h.tell u hu, hMY u hu⟩)
  have h4 := h.tight (bdL G R n (fun x => Tl G (S ++ R) x ∨ Tl G (M ++ R) x)) (bdL_nd _ _ _ _) (fun u hu => bdL_tell u (hSn u hu) (Or.inl (.leaf (List.mem_append.2 (Or.inl hu))))) (by omega)
  intro u hu
  have h5 := bdL_tell (G := G) (R := R) (n := n) (T := fun x => Tl G (S ++ R) x ∨ Tl G (M ++ R) x) u (hMn u hu) (Or.inr (.leaf (List.mem_append.2 (Or.inl hu))))
  refine h5.mono (fun x hx => ?_)
  rcases List.mem_append.1 hx with hx | hx
  · exact List.mem_append.2 (Or.inl ((h4 x).1 hx))
  · exact List.mem_append.2 (Or.inr hx)
theorem bound_of (Y : List Nat) : ∃ n, ∀ u, u ∈ Y → u < n := by
  induction Y with
  | nil => exact ⟨0, fun u hu => by cases hu⟩
  | cons a t ih =>
    obtain ⟨n, hn⟩ := ih
    refine ⟨max n (a + 1), fun u hu => ?_⟩
    rcases List.mem_cons.1 hu with rfl | hu
    · omega
    · have := hn u hu; omega
/-- .. so there are few of them -/
theorem few (G : Gr) (t : Nat) : ∀ (k lam : Nat) (R Y : List Nat), 2 * k ≤ lam + t → (∀ F : List Nat, F.Nodup → TR G F R Y → lam ≤ F.length) → ∀ L : List (List Nat), L.Nodup → (∀ S, S ∈ L → Ris S ∧ S.length ≤ k ∧ Imp G R Y S) → L.length ≤ 2 ^ t := by
  induction t with
  | zero =>
    intro k lam R Y hk hl L hL h
    have hS : ∀ S, S ∈ L → S = [] := fun S hS => by
      obtain ⟨h1, h2, h3⟩ := h S hS
      have := hl S h3.nd h3.tell
      exact List.eq_nil_of_length_eq_zero (by omega)
    exact nd_len' hL hS
  | succ t ih =>
    intro k lam R Y hk hl L hL h
    by_cases hex : ∃ S, S ∈ L
    rotate_left
    · have : L = [] := List.eq_nil_iff_forall_not_mem.2 (fun S hS => hex ⟨S, hS⟩)
      rw [this]; exact Nat.zero_le _
    obtain ⟨S0, hS0⟩ := hex
    obtain ⟨n, hn⟩ := bound_of Y
    obtain ⟨M, hM, hMY, hmin, hfar⟩ := far_of (G := G) (R := R) (Y := Y) n ⟨S0, (h S0 hS0).2.2.nd, (h S0 hS0).2.2.tell⟩
    have hlM := hl M hM hMY
    have hMn := low_need hn hM hMY (fun x hx ht => by
      have := hmin _ (hM.erase x) ht
      rw [List.length_erase_of_mem hx] at this
      have := List.length_pos_of_mem hx
      omega)
    cases M with
    | nil =>
      have hS : ∀ S, S ∈ L → S = [] := fun S hS => by
        obtain ⟨h1, h2, h3⟩ := h S hS
        cases S with
        | nil => rfl
        | cons x r => exact absurd (fun u hu => (hMY u hu).mono (fun y hy => List.mem_append.2 (Or.inr hy))) (h3.bare x List.mem_cons_self)
      have := nd_len' hL hS
      have h2 : 1 ≤ 2 ^ (t + 1) := Nat.one_le_two_pow
      omega
    | cons m M' =>
      have hmn := hMn m List.mem_cons_self
      have hk1 : M'.length + 1 ≤ k := by
        have h1 := hmin S0 (h S0 hS0).2.2.nd (h S0 hS0).2.2.tell
        have := (h S0 hS0).2.1
        rw [List.length_cons] at h1
        omega
      rw [List.length_cons] at hlM
      have hma : L.length = (L.filter (fun S => decide (m ∈ S))).length + (L.filter (fun S => !decide (m ∈ S))).length := split_len L _
      have hA : (L.filter (fun S => decide (m ∈ S))).length ≤ 2 ^ t := by
        have := ih (k - 1) M'.length (m :: R) Y (by omega) (fun F hF hFt => by
          by_cases hmF : m ∈ F
          · have := hmin F hF (fun u hu => (hFt u hu).mono (fun y hy => by
              rcases List.mem_append.1 hy with hy | hy
              · exact List.mem_append.2 (Or.inl hy)
              · rcases List.mem_cons.1 hy with rfl | hy
                · exact List.mem_append.2 (Or.inl hmF)
                · exact List.mem_append.2 (Or.inr hy)))
            rw [List.length_cons] at this
            omega
          · have := hmin (m :: F) (List.nodup_cons.2 ⟨hmF, hF⟩) (fun u hu => (hFt u hu).mono (fun y hy => by
              rcases List.mem_append.1 hy with hy | hy
              · exact List.mem_append.2 (Or.inl (List.mem_cons_of_mem _ hy))
              · rcases List.mem_cons.1 hy with rfl | hy
                · exact List.mem_append.2 (Or.inl List.mem_cons_self)
                · exact List.mem_append.2 (Or.inr hy)))
            rw [List.length_cons, List.length_cons] at this
            omega) ((L.filter (fun S => decide (m ∈ S))).map (fun S => S.erase m)) (by
          unfold List.Nodup
          rw [List.pairwise_map]
          refine List.Pairwise.imp_of_mem (fun {a b} ha hb hne e => hne ?_) (hL.filter _)
          obtain ⟨ha1, ha2⟩ := List.mem_filter.1 ha
          obtain ⟨hb1, hb2⟩ := List.mem_filter.1 hb
          have ha2 := of_decide_eq_true ha2
          have hb2 := of_decide_eq_true hb2
          have hra := (h a ha1).1
          have hrb := (h b hb1).1
          refine ris_ext hra hrb (fun x => ?_)
          by_cases hx : x = m
          · rw [hx]; exact ⟨fun _ => hb2, fun _ => ha2⟩
          · have h1 : x ∈ a.erase m ↔ x ∈ a := List.mem_erase_of_ne hx
            have h2 : x ∈ b.erase m ↔ x ∈ b := List.mem_erase_of_ne hx
            rw [← h1, ← h2, e]) (fun S' hS' => by
          obtain ⟨S, hS, rfl⟩ := List.mem_map.1 hS'
          obtain ⟨hS1, hS2⟩ := List.mem_filter.1 hS
          have hS2 := of_decide_eq_true hS2
          obtain ⟨h1, h2, h3⟩ := h S hS1
          have hlen := List.length_erase_of_mem hS2
          have hpos := List.length_pos_of_mem hS2
          have back : ∀ y, y ∈ S ++ R → y ∈ S.erase m ++ m :: R := fun y hy => by
            rcases List.mem_append.1 hy with hy | hy
            · by_cases e : y = m
              · rw [e]; exact List.mem_append.2 (Or.inr List.mem_cons_self)
              · exact List.mem_append.2 (Or.inl ((h3.nd.mem_erase_iff).2 ⟨e, hy⟩))
            · exact List.mem_append.2 (Or.inr (List.mem_cons_of_mem _ hy))
          refine ⟨h1.erase m, by omega, h3.nd.erase m, fun u hu => (h3.tell u hu).mono back, fun F hF hFt hFl => ?_, fun x hx ht => ?_⟩
          · have hmF : m ∉ F := fun hmF => by
              have h4 := h3.tight F hF (fun u hu => by
                by_cases e : u = m
                · rw [e]; exact .leaf (List.mem_append.2 (Or.inl hmF))
                · refine (hFt u ((h3.nd.mem_erase_iff).2 ⟨e, hu⟩)).mono (fun y hy => ?_)
                  rcases List.mem_append.1 hy with hy | hy
                  · exact List.mem_append.2 (Or.inl hy)
                  · rcases List.mem_cons.1 hy with rfl | hy
                    · exact List.mem_append.2 (Or.inl hmF)
                    · exact List.mem_append.2 (Or.inr hy)) (by omega)
              have := nd_len h3.nd (fun x hx => (h4 x).2 hx)
              omega
            have h4 := h3.tight (m :: F) (List.nodup_cons.2 ⟨hmF, hF⟩) (fun u hu => by
                by_cases e : u = m
                · rw [e]; exact .leaf (List.mem_append.2 (Or.inl List.mem_cons_self))
                · refine (hFt u ((h3.nd.mem_erase_iff).2 ⟨e, hu⟩)).mono (fun y hy => ?_)
                  rcases List.mem_append.1 hy with hy | hy
                  · exact List.mem_append.2 (Or.inl (List.mem_cons_of_mem _ hy))
                  · rcases List.mem_cons.1 hy with rfl | hy
                    · exact List.mem_append.2 (Or.inl List.mem_cons_self)
                    · exact List.mem_append.2 (Or.inr hy)) (by rw [List.length_cons]; omega)
            intro x
            rw [h3.nd.mem_erase_iff, ← h4 x]
            constructor
            · intro hx
              exact ⟨fun e => hmF (e ▸ hx), List.mem_cons_of_mem _ hx⟩
            · rintro ⟨e, hx⟩
              rcases List.mem_cons.1 hx with e2 | hx
              · exact absurd e2 e
              · exact hx
          · obtain ⟨hxm, hxS⟩ := (h3.nd.mem_erase_iff).1 hx
            refine h3.bare x hxS (fun u hu => (ht u hu).mono (fun y hy => ?_))
            rcases List.mem_append.1 hy with hy | hy
            · obtain ⟨h5, h6⟩ := ((h3.nd.erase m).mem_erase_iff).1 hy
              exact List.mem_append.2 (Or.inl ((h3.nd.mem_erase_iff).2 ⟨h5, List.mem_of_mem_erase h6⟩))
            · rcases List.mem_cons.1 hy with rfl | hy
              · exact List.mem_append.2 (Or.inl ((h3.nd.mem_erase_iff).2 ⟨fun e => hxm e.symm, hS2⟩))
              · exact List.mem_append.2 (Or.inr hy))
        rwa [List.length_map] at this
      have hB : (L.filter (fun S => !decide (m ∈ S))).length ≤ 2 ^ t := by
        by_cases hexB : ∃ S, S ∈ L.filter (fun S => !decide (m ∈ S))
        rotate_left
        · have : L.filter (fun S => !decide (m ∈ S)) = [] := List.eq_nil_iff_forall_not_mem.2 (fun S hS => hexB ⟨S, hS⟩)
          rw [this]; exact Nat.zero_le _
        have hmR : m ∉ R := fun hr => by
          have := hmin M' (List.nodup_cons.1 hM).2 (fun u hu => (hMY u hu).mono (fun y hy => by
            rcases List.mem_append.1 hy with hy | hy
            · rcases List.mem_cons.1 hy with rfl | hy
              · exact List.mem_append.2 (Or.inr hr)
              · exact List.mem_append.2 (Or.inl hy)
            · exact List.mem_append.2 (Or.inr hy)))
          rw [List.length_cons] at this
          omega
        have hm0 : m ≠ 0 := fun e => by
          have := hmin M' (List.nodup_cons.1 hM).2 (fun u hu => (hMY u hu).trans (fun y hy => by
            rcases List.mem_append.1 hy with hy | hy
            · rcases List.mem_cons.1 hy with rfl | hy
              · rw [e]; exact .zero
              · exact .leaf (List.mem_append.2 (Or.inl hy))
            · exact .leaf (List.mem_append.2 (Or.inr hy))))
          rw [List.length_cons] at this
          omega
        have hgate : ∀ S, S ∈ L.filter (fun S => !decide (m ∈ S)) → G.first ≤ m ∧ Tl G (S ++ R) (G.a m) ∧ Tl G (S ++ R) (G.b m) := fun S hS => by
          obtain ⟨hS1, hS2⟩ := List.mem_filter.1 hS
          have hS2 : m ∉ S := by simpa using hS2
          have ht := (h S hS1).2.2.behind hM hMY hmin n hn m List.mem_cons_self
          cases ht with
          | leaf h' =>
            rcases List.mem_append.1 h' with h' | h'
            · exact absurd h' hS2
            · exact absurd h' hmR
          | zero => exact absurd rfl hm0
          | gate h1 h2 h3 => exact ⟨h1, h2, h3⟩
        obtain ⟨SB, hSB⟩ := hexB
        have hg := (hgate SB hSB).1
        have hla := G.la m hg
        have hlb := G.lb m hg
        refine ih k (M'.length + 2) R (G.a m :: G.b m :: M') (by omega) (fun F hF hFt => ?_) _ (hL.filter _) (fun S hS => ?_)
        · by_cases e : M'.length + 2 ≤ F.length
          · exact e
          · have hFM : TR G F R (m :: M') := fun u hu => by
              rcases List.mem_cons.1 hu with rfl | hu
              · exact .gate hg (hFt _ List.mem_cons_self) (hFt _ (List.mem_cons_of_mem _ List.mem_cons_self))
              · exact hFt _ (List.mem_cons_of_mem _ (List.mem_cons_of_mem _ hu))
            have hf := hfar F hF hFM (by rw [List.length_cons]; omega)
            have cut : ∀ u, u < m → Tl G (m :: M' ++ R) u → Tl G (M' ++ R) u := fun u hu ht => (ht.low u (Nat.le_refl _)).mono (fun y hy => by
              obtain ⟨h1, h2⟩ := List.mem_filter.1 hy
              have := of_decide_eq_true h2
              rcases List.mem_append.1 h1 with h1 | h1
              · rcases List.mem_cons.1 h1 with rfl | h1
                · omega
                · exact List.mem_append.2 (Or.inl h1)
              · exact List.mem_append.2 (Or.inr h1))
            have ha := cut _ hla (hf _ (by omega) (hFt _ List.mem_cons_self))
            have hb := cut _ hlb (hf _ (by omega) (hFt _ (List.mem_cons_of_mem _ List.mem_cons_self)))
            have := hmin M' (List.nodup_cons.1 hM).2 (fun u hu => (hMY u hu).trans (fun y hy => by
              rcases List.mem_append.1 hy with hy | hy
              · rcases List.mem_cons.1 hy with rfl | hy
                · exact .gate hg ha hb
                · exact .leaf (List.mem_append.2 (Or.inl hy))
              · exact .leaf (List.mem_append.2 (Or.inr hy))))
            rw [List.length_cons] at this
            omega
        · obtain ⟨_, ga, gb⟩ := hgate S hS
          obtain ⟨hS1, hS2⟩ := List.mem_filter.1 hS
          obtain ⟨h1, h2, h3⟩ := h S hS1
          have hbh := h3.behind hM hMY hmin n hn
          refine ⟨h1, h2, h3.nd, fun u hu => ?_, h3.tight, fun x hx ht => ?_⟩
          · rcases List.mem_cons.1 hu with rfl | hu
            · exact ga
            · rcases List.mem_cons.1 hu with rfl | hu
              · exact gb
              · exact hbh u (List.mem_cons_of_mem _ hu)
          · refine h3.bare x hx (TR.trans (M := m :: M') (fun u hu => ?_) hMY)
            rcases List.mem_cons.1 hu with rfl | hu
            · exact .gate hg (ht _ List.mem_cons_self) (ht _ (List.mem_cons_of_mem _ List.mem_cons_self))
            · exact ht _ (List.mem_cons_of_mem _ (List.mem_cons_of_mem _ hu))
      rw [hma, Nat.pow_succ]
      omega
end Mp
end Go.Proofs.Ytlaljeobdddegaa
