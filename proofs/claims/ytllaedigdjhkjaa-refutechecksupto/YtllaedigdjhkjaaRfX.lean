import Derived.Test.YtllaedigdjhkjaaRfW
namespace Go.Proofs.Ytllaedigdjhkjaa
open Go.RowKit

def putW (W : Nat → Nat → List (Nat × Nat)) (t l : Nat) (es : List (Nat × Nat)) : Nat → Nat → List (Nat × Nat) := fun t' l' => if t' = t ∧ l' = l then es else W t' l'
def St.putW (st : St) (t l : Nat) (es : List (Nat × Nat)) : St := { st with W := Go.Proofs.Ytllaedigdjhkjaa.putW st.W t l es }
def St.listAt (st : St) (i : Nat) (ls : List Nat) : St := { st with cls := st.cls.modify i fun c => { c with l := ls } }
theorem putW_same (W : Nat → Nat → List (Nat × Nat)) (t l : Nat) (es : List (Nat × Nat)) : Go.Proofs.Ytllaedigdjhkjaa.putW W t l es t l = es := by simp [Go.Proofs.Ytllaedigdjhkjaa.putW]
theorem putW_other (W : Nat → Nat → List (Nat × Nat)) {t l t' l' : Nat} (es : List (Nat × Nat)) (h : ¬ (t' = t ∧ l' = l)) : Go.Proofs.Ytllaedigdjhkjaa.putW W t l es t' l' = W t' l' := by simp only [Go.Proofs.Ytllaedigdjhkjaa.putW, if_neg h]
theorem putW_twice (W : Nat → Nat → List (Nat × Nat)) (t l : Nat) (es es' : List (Nat × Nat)) : Go.Proofs.Ytllaedigdjhkjaa.putW (Go.Proofs.Ytllaedigdjhkjaa.putW W t l es) t l es' = Go.Proofs.Ytllaedigdjhkjaa.putW W t l es' := by
  funext t' l'
  by_cases h : t' = t ∧ l' = l
  · obtain ⟨rfl, rfl⟩ := h; rw [putW_same, putW_same]
  · rw [putW_other _ _ h, putW_other _ _ h, putW_other _ _ h]
theorem putW_self (W : Nat → Nat → List (Nat × Nat)) (t l : Nat) : Go.Proofs.Ytllaedigdjhkjaa.putW W t l (W t l) = W := by
  funext t' l'
  by_cases h : t' = t ∧ l' = l
  · obtain ⟨rfl, rfl⟩ := h; rw [putW_same]
  · rw [putW_other _ _ h]
/-- another list of those who watch, in another slice -/
theorem Link.putW {sl : Site → Slot} {st : St} (h : Link sl st) (t l : Nat) (es : List (Nat × Nat)) (v : Value) :
    Link (setS (setS sl (.wl t l) ⟨v, es.length, wlV es⟩) (.row t) ⟨(sl (.row t)).v, (sl (.row t)).n, (sl (.row t)).xs.set l v⟩) (st.putW t l es) := by
  refine ⟨h.hV, ?_, h.heldL, ?_, h.reasonL, ?_, h.usedL, ?_, ?_, ?_, ?_, ?_, ?_⟩
  · simpa [setS, St.putW] using h.held
  · simpa [setS, St.putW] using h.reason
  · simpa [setS, St.putW] using h.used
  · simpa [setS, St.putW] using h.trail
  · simpa [setS, St.putW] using h.clsN
  · intro j c hc
    simpa [setS, St.putW] using h.cls j c hc
  · intro j c hc
    simpa [setS, St.putW] using h.lits j c hc
  · intro t' ht'
    obtain ⟨h1, h2⟩ := h.row t' ht'
    by_cases e1 : t' = t
    · subst e1
      rw [setS_same]
      refine ⟨h1, fun l' hl' => ?_⟩
      dsimp only
      rw [setS_other _ _ (by intro e; cases e)]
      by_cases e2 : l' = l
      · subst e2
        rw [setS_same, List.getElem?_set_self (by have := (List.getElem?_eq_some_iff.1 (h2 l' hl')).1; exact this)]
      · rw [setS_other _ _ (by intro e; injection e; omega), List.getElem?_set_ne (by omega)]
        exact h2 l' hl'
    · rw [setS_other _ _ (by intro e; injection e; omega), setS_other _ _ (by intro e; cases e)]
      refine ⟨h1, fun l' hl' => ?_⟩
      rw [setS_other _ _ (by intro e; cases e), setS_other _ _ (by intro e; injection e; omega)]
      exact h2 l' hl'
  · intro t' l' ht' hl'
    obtain ⟨h1, h2⟩ := h.wl t' l' ht' hl'
    rw [setS_other _ _ (by intro e; cases e)]
    by_cases e1 : t' = t ∧ l' = l
    · obtain ⟨rfl, rfl⟩ := e1
      rw [setS_same]
      simp only [St.putW, putW_same, and_self]
    · rw [setS_other _ _ (by intro e; injection e with e2 e3; exact e1 ⟨e2, e3⟩)]
      simp only [St.putW, putW_other _ _ e1]
      exact ⟨h1, h2⟩
/-- another list of those who watch, in the same slice -/
theorem Link.putW0 {sl : Site → Slot} {st : St} (h : Link sl st) (t l : Nat) (es : List (Nat × Nat)) :
    Link (setS sl (.wl t l) ⟨(sl (.wl t l)).v, es.length, wlV es⟩) (st.putW t l es) := by
  refine ⟨h.hV, ?_, h.heldL, ?_, h.reasonL, ?_, h.usedL, ?_, ?_, ?_, ?_, ?_, ?_⟩
  · simpa [setS, St.putW] using h.held
  · simpa [setS, St.putW] using h.reason
  · simpa [setS, St.putW] using h.used
  · simpa [setS, St.putW] using h.trail
  · simpa [setS, St.putW] using h.clsN
  · intro j c hc
    simpa [setS, St.putW] using h.cls j c hc
  · intro j c hc
    simpa [setS, St.putW] using h.lits j c hc
  · intro t' ht'
    obtain ⟨h1, h2⟩ := h.row t' ht'
    rw [setS_other _ _ (by intro e; cases e)]
    refine ⟨h1, fun l' hl' => ?_⟩
    by_cases e1 : Site.wl t' l' = Site.wl t l
    · rw [e1, setS_same]
      dsimp only
      rw [← e1]; exact h2 l' hl'
    · rw [setS_other _ _ e1]; exact h2 l' hl'
  · intro t' l' ht' hl'
    obtain ⟨h1, h2⟩ := h.wl t' l' ht' hl'
    by_cases e1 : t' = t ∧ l' = l
    · obtain ⟨rfl, rfl⟩ := e1
      rw [setS_same]
      simp only [St.putW, putW_same, and_self]
    · rw [setS_other _ _ (by intro e; injection e with e2 e3; exact e1 ⟨e2, e3⟩)]
      simp only [St.putW, putW_other _ _ e1]
      exact ⟨h1, h2⟩
theorem mod_get {cls : List BC} {i : Nat} {f : BC → BC} {j : Nat} {c' : BC} (h : (cls.modify i f)[j]? = some c') : (j = i ∧ ∃ c, cls[i]? = some c ∧ c' = f c) ∨ (j ≠ i ∧ cls[j]? = some c') := by
  rw [List.getElem?_modify] at h
  by_cases e : i = j
  · subst e
    cases hc : cls[i]? with
    | none => rw [hc] at h; cases h
    | some c => rw [hc] at h; simp at h; exact .inl ⟨rfl, c, rfl, h.symm⟩
  · refine .inr ⟨fun e2 => e e2.symm, ?_⟩
    cases hc : cls[j]? with
    | none => rw [hc] at h; cases h
    | some c => rw [hc] at h; simp [e] at h; rw [h]
theorem mod_same {cls : List BC} {i : Nat} {f : BC → BC} {c : BC} (h : cls[i]? = some c) : (cls.modify i f)[i]? = some (f c) := by
  rw [List.getElem?_modify, h]; simp
theorem mod_other {cls : List BC} {i j : Nat} {f : BC → BC} (h : j ≠ i) : (cls.modify i f)[j]? = cls[j]? := by
  rw [List.getElem?_modify]
  have : ¬ i = j := fun e => h e.symm
  cases cls[j]? <;> simp [this]
theorem Link.listAt {sl : Site → Slot} {st : St} (h : Link sl st) {i : Nat} {c : BC} (hc : st.cls[i]? = some c) (ls : List Nat) (hl : ls.length = c.l.length) :
    Link (setS sl (.lits i) ⟨(sl (.lits i)).v, (sl (.lits i)).n, litV ls⟩) (st.listAt i ls) := by
  refine ⟨h.hV, ?_, h.heldL, ?_, h.reasonL, ?_, h.usedL, ?_, ?_, ?_, ?_, ?_, ?_⟩
  · simpa [setS, St.listAt] using h.held
  · simpa [setS, St.listAt] using h.reason
  · simpa [setS, St.listAt] using h.used
  · simpa [setS, St.listAt] using h.trail
  · simpa [setS, St.listAt] using h.clsN
  · intro j c' hc'
    rw [setS_other _ _ (by intro e; cases e)]
    rcases mod_get hc' with ⟨rfl, d, hd, rfl⟩ | ⟨hne, hd⟩
    · rw [setS_same]; exact h.cls j d hd
    · rw [setS_other _ _ (by intro e; injection e; omega)]; exact h.cls j c' hd
  · intro j c' hc'
    rcases mod_get hc' with ⟨rfl, d, hd, rfl⟩ | ⟨hne, hd⟩
    · rw [setS_same]
      rw [hc] at hd
      cases hd
      exact ⟨by rw [(h.lits j c hc).1]; exact hl.symm, rfl⟩
    · rw [setS_other _ _ (by intro e; injection e; omega)]; exact h.lits j c' hd
  · intro t ht
    simpa [setS, St.listAt] using h.row t ht
  · intro t l' ht hl
    simpa [setS, St.listAt] using h.wl t l' ht hl
/-- clauses that have the same literals, one by one -/
structure LikeC (cls cls' : List BC) : Prop where
  fwd : ∀ (i : Nat) (c : BC), cls[i]? = some c → ∃ c', cls'[i]? = some c' ∧ ∀ m, m ∈ c.l ↔ m ∈ c'.l
  back : ∀ (i : Nat) (c' : BC), cls'[i]? = some c' → ∃ c, cls[i]? = some c ∧ ∀ m, m ∈ c.l ↔ m ∈ c'.l
theorem LikeC.dof {cls cls' : List BC} (h : LikeC cls cls') : Alike2 (Dof cls) (Dof cls') := by
  refine ⟨fun d hd => ?_, fun d hd => ?_⟩
  · obtain ⟨c, hc, rfl⟩ := List.mem_map.1 hd
    obtain ⟨i, hi⟩ := List.getElem?_of_mem hc
    obtain ⟨c', h1, h2⟩ := h.fwd i c hi
    refine ⟨_, List.mem_map.2 ⟨c', List.mem_of_getElem? h1, rfl⟩, fun m => ?_⟩
    simp only [List.mem_map, h2]
  · obtain ⟨c', hc, rfl⟩ := List.mem_map.1 hd
    obtain ⟨i, hi⟩ := List.getElem?_of_mem hc
    obtain ⟨c, h1, h2⟩ := h.back i c' hi
    refine ⟨_, List.mem_map.2 ⟨c, List.mem_of_getElem? h1, rfl⟩, fun m => ?_⟩
    simp only [List.mem_map, h2]
theorem like_mod {cls : List BC} {i : Nat} {c : BC} (hc : cls[i]? = some c) {f : BC → BC} (hf : ∀ m, m ∈ c.l ↔ m ∈ (f c).l) : LikeC cls (cls.modify i f) := by
  refine ⟨fun j d hd => ?_, fun j d hd => ?_⟩
  · by_cases e : j = i
    · subst e
      rw [hc] at hd; cases hd
      exact ⟨f c, mod_same hc, hf⟩
    · exact ⟨d, by rw [mod_other e]; exact hd, fun m => Iff.rfl⟩
  · rcases mod_get hd with ⟨rfl, d', hd', rfl⟩ | ⟨_, hd'⟩
    · rw [hc] at hd'; cases hd'
      exact ⟨c, hc, hf⟩
    · exact ⟨d, hd', fun m => Iff.rfl⟩
/-- one that watches goes -/
theorem Wd.gone {V : Nat} {cls : List BC} {W : Nat → Nat → List (Nat × Nat)} (h : Wd V cls W) {t l ci o : Nat} {a b : List (Nat × Nat)} (hW : W t l = a ++ (ci, o) :: b) {c : BC} (hc : cls[ci]? = some c) (ht : c.tier ≠ t) : Wd V cls (Go.Proofs.Ytllaedigdjhkjaa.putW W t l (a ++ b)) := by
  have sub : ∀ t' l' e, e ∈ Go.Proofs.Ytllaedigdjhkjaa.putW W t l (a ++ b) t' l' → e ∈ W t' l' := fun t' l' e he => by
    by_cases h1 : t' = t ∧ l' = l
    · obtain ⟨rfl, rfl⟩ := h1
      rw [putW_same] at he
      rw [hW]
      rcases List.mem_append.1 he with h2 | h2
      · exact List.mem_append_left _ h2
      · exact List.mem_append_right _ (List.mem_cons_of_mem _ h2)
    · rw [putW_other _ _ h1] at he; exact he
  refine ⟨h.two, fun i d u hd hu => ?_, fun t' l' i o' he => h.own t' l' i o' (sub _ _ _ he), fun t' l' => ?_⟩
  · obtain ⟨o', ho'⟩ := h.has i d u hd hu
    refine ⟨o', ?_⟩
    by_cases h1 : d.tier = t ∧ u = l
    · rw [h1.1, h1.2, putW_same]
      rw [h1.1, h1.2, hW] at ho'
      rcases List.mem_append.1 ho' with h2 | h2
      · exact List.mem_append_left _ h2
      · rcases List.mem_cons.1 h2 with h3 | h3
        · cases h3
          rw [hc] at hd; cases hd
          exact absurd h1.1 ht
        · exact List.mem_append_right _ h3
    · rw [putW_other _ _ h1]; exact ho'
  · by_cases h1 : t' = t ∧ l' = l
    · obtain ⟨rfl, rfl⟩ := h1
      rw [putW_same]
      have := h.nd t' l'
      rw [hW] at this
      simp only [List.map_append, List.map_cons] at this ⊢
      exact this.sublist (List.Sublist.append_left (List.sublist_cons_self _ _) _)
    · rw [putW_other _ _ h1]; exact h.nd t' l'
/-- one that watches stays, with another literal at hand -/
theorem Wd.stay {V : Nat} {cls : List BC} {W : Nat → Nat → List (Nat × Nat)} (h : Wd V cls W) {t l ci o o' : Nat} {a b : List (Nat × Nat)} (hW : W t l = a ++ (ci, o) :: b) {c : BC} (hc : cls[ci]? = some c) (ho : o' ∈ c.l) : Wd V cls (Go.Proofs.Ytllaedigdjhkjaa.putW W t l (a ++ (ci, o') :: b)) := by
  refine ⟨h.two, fun i d u hd hu => ?_, fun t' l' i o'' he => ?_, fun t' l' => ?_⟩
  · obtain ⟨o2, ho2⟩ := h.has i d u hd hu
    by_cases h1 : d.tier = t ∧ u = l
    · rw [h1.1, h1.2, putW_same]
      rw [h1.1, h1.2, hW] at ho2
      rcases List.mem_append.1 ho2 with h2 | h2
      · exact ⟨o2, List.mem_append_left _ h2⟩
      · rcases List.mem_cons.1 h2 with h3 | h3
        · cases h3
          exact ⟨o', List.mem_append_right _ (by simp)⟩
        · exact ⟨o2, List.mem_append_right _ (List.mem_cons_of_mem _ h3)⟩
    · rw [putW_other _ _ h1]; exact ⟨o2, ho2⟩
  · by_cases h1 : t' = t ∧ l' = l
    · obtain ⟨rfl, rfl⟩ := h1
      rw [putW_same] at he
      rcases List.mem_append.1 he with h2 | h2
      · exact h.own t' l' i o'' (by rw [hW]; exact List.mem_append_left _ h2)
      · rcases List.mem_cons.1 h2 with h3 | h3
        · cases h3
          obtain ⟨d, hd, _, h4⟩ := h.own t' l' ci o (by rw [hW]; simp)
          rw [hc] at hd; cases hd
          exact ⟨c, hc, ho, h4⟩
        · exact h.own t' l' i o'' (by rw [hW]; exact List.mem_append_right _ (List.mem_cons_of_mem _ h3))
    · rw [putW_other _ _ h1] at he; exact h.own t' l' i o'' he
  · by_cases h1 : t' = t ∧ l' = l
    · obtain ⟨rfl, rfl⟩ := h1
      rw [putW_same]
      have := h.nd t' l'
      rw [hW] at this
      simpa using this
    · rw [putW_other _ _ h1]; exact h.nd t' l'
/-- a clause's data change, but neither its literals' places at the head nor its tier -/
theorem Wd.turn {V : Nat} {cls : List BC} {W : Nat → Nat → List (Nat × Nat)} (h : Wd V cls W) {i : Nat} {c : BC} (hc : cls[i]? = some c) {f : BC → BC} (hm : ∀ m, m ∈ c.l ↔ m ∈ (f c).l) (hw : ∀ u, wt (f c) u ↔ wt c u) (ht : (f c).tier = c.tier) (hnd : (f c).l.Nodup) (hl : (f c).l.length = c.l.length) (hn : 2 ≤ (f c).next ∧ (f c).next ≤ c.l.length) : Wd V (cls.modify i f) W := by
  refine ⟨fun j d hd => ?_, fun j d u hd hu => ?_, fun t l j o he => ?_, h.nd⟩
  · rcases mod_get hd with ⟨rfl, d', hd', rfl⟩ | ⟨_, hd'⟩
    · rw [hc] at hd'; cases hd'
      obtain ⟨h1, h2, h3, h4, h5, h6⟩ := h.two j c hc
      exact ⟨by omega, hnd, fun x hx => h3 x ((hm x).2 hx), by omega, hn.1, by omega⟩
    · exact h.two j d hd'
  · rcases mod_get hd with ⟨rfl, d', hd', rfl⟩ | ⟨_, hd'⟩
    · rw [hc] at hd'; cases hd'
      rw [ht]; exact h.has j c u hc ((hw u).1 hu)
    · exact h.has j d u hd' hu
  · obtain ⟨d, hd, h1, h2, h3⟩ := h.own t l j o he
    by_cases e : j = i
    · subst e
      rw [hc] at hd; cases hd
      exact ⟨f c, mod_same hc, (hm o).1 h1, fun e => (hw l).2 (h2 (by rw [← e, ht])), fun e => by rw [ht]; exact h3 e⟩
    · exact ⟨d, by rw [mod_other e]; exact hd, h1, h2, h3⟩
/-- a clause is watched elsewhere -/
theorem Wd.move {V : Nat} {cls : List BC} {W : Nat → Nat → List (Nat × Nat)} (h : Wd V cls W) {t l ci o o' x k : Nat} {a b : List (Nat × Nat)} (hW : W t l = a ++ (ci, o) :: b) {c : BC} (hc : cls[ci]? = some c) (ht : c.tier = t) (h1 : c.l[1]? = some l) (hk : 2 ≤ k) (hx : c.l[k]? = some x) (ho : o' ∈ c.l) (ht0 : t = 0 → c.tier = 0) : Wd V (cls.modify ci fun c => { c with l := swp c.l 1 k }) (addW (Go.Proofs.Ytllaedigdjhkjaa.putW W t l (a ++ b)) t x (ci, o')) ∧ x ≠ l := by
  obtain ⟨q1, q2, q3, q4, q5, q6⟩ := h.two ci c hc
  have hkl : k < c.l.length := (List.getElem?_eq_some_iff.1 hx).1
  have h1l : 1 < c.l.length := by omega
  have hxl : x ≠ l := fun e => by subst e; have := nodup_get q2 h1 hx; omega
  obtain ⟨l0, hl0⟩ := getElem_lt (show 0 < c.l.length by omega)
  have hl0l : l0 ≠ l := fun e => by subst e; have := nodup_get q2 hl0 h1; omega
  have hx0 : x ≠ l0 := fun e => by subst e; have := nodup_get q2 hl0 hx; omega
  have g0 : (swp c.l 1 k)[0]? = some l0 := by rw [swp_get _ h1l hkl]; simp only [swI]; rw [if_neg (by omega), if_neg (by omega)]; exact hl0
  have g1 : (swp c.l 1 k)[1]? = some x := by rw [swp_get _ h1l hkl]; simp only [swI]; rw [if_neg (by omega)]; simpa using hx
  have hmem := swp_mem c.l h1l hkl
  have addM : ∀ t' l' e, e ∈ addW (Go.Proofs.Ytllaedigdjhkjaa.putW W t l (a ++ b)) t x (ci, o') t' l' → (t' = t ∧ l' = x ∧ e = (ci, o')) ∨ (e ∈ W t' l' ∧ (t' = t → l' = l → e ∈ a ++ b)) := fun t' l' e he => by
    unfold addW at he
    by_cases e1 : t' = t ∧ l' = x
    · rw [if_pos e1, putW_other _ _ (by rintro ⟨_, h2⟩; exact hxl h2)] at he
      rcases List.mem_append.1 he with h2 | h2
      · exact .inr ⟨by rw [e1.1, e1.2]; exact h2, fun _ h3 => absurd (e1.2.symm.trans h3) hxl⟩
      · exact .inl ⟨e1.1, e1.2, List.mem_singleton.1 h2⟩
    · rw [if_neg e1] at he
      by_cases e2 : t' = t ∧ l' = l
      · obtain ⟨rfl, rfl⟩ := e2
        rw [putW_same] at he
        refine .inr ⟨?_, fun _ _ => he⟩
        rw [hW]
        rcases List.mem_append.1 he with h2 | h2
        · exact List.mem_append_left _ h2
        · exact List.mem_append_right _ (List.mem_cons_of_mem _ h2)
      · rw [putW_other _ _ e2] at he
        exact .inr ⟨he, fun h2 h3 => absurd ⟨h2, h3⟩ e2⟩
  have ndW := h.nd t l
  rw [hW] at ndW
  simp only [List.map_append, List.map_cons] at ndW
  have notin : ∀ o2, (ci, o2) ∉ a ++ b := fun o2 hm => by
    have h2 := List.nodup_append.1 ndW
    have h3 := List.nodup_cons.1 h2.2.1
    rcases List.mem_append.1 hm with h4 | h4
    · exact h2.2.2 ci (List.mem_map.2 ⟨_, h4, rfl⟩) ci (by simp) rfl
    · exact h3.1 (List.mem_map.2 ⟨_, h4, rfl⟩)
  have notx : ∀ o2, (ci, o2) ∉ W t x := fun o2 hm => by
    obtain ⟨d, hd, _, h2, _⟩ := h.own t x ci o2 hm
    rw [hc] at hd; cases hd
    rcases h2 ht with h3 | h3
    · rw [hl0] at h3; cases h3; exact hx0 rfl
    · rw [h1] at h3; cases h3; exact hxl rfl
  refine ⟨⟨fun j d hd => ?_, fun j d u hd hu => ?_, fun t' l' j o2 he => ?_, fun t' l' => ?_⟩, hxl⟩
  · rcases mod_get hd with ⟨rfl, d', hd', rfl⟩ | ⟨_, hd'⟩
    · rw [hc] at hd'; cases hd'
      exact ⟨by rw [swp_len]; exact q1, swp_nodup q2 h1l hkl, fun y hy => q3 y ((hmem y).1 hy), q4, q5, by rw [swp_len]; exact q6⟩
    · exact h.two j d hd'
  · rcases mod_get hd with ⟨rfl, d', hd', rfl⟩ | ⟨hne, hd'⟩
    · rw [hc] at hd'; cases hd'
      dsimp only
      rcases hu with hu | hu
      · rw [g0] at hu; cases hu
        obtain ⟨o2, ho2⟩ := h.has j c l0 hc (.inl hl0)
        refine ⟨o2, ?_⟩
        unfold addW
        rw [if_neg (by rintro ⟨_, h2⟩; exact hx0 h2.symm), putW_other _ _ (by rintro ⟨_, h2⟩; exact hl0l h2)]
        exact ho2
      · rw [g1] at hu; cases hu
        refine ⟨o', ?_⟩
        unfold addW
        rw [if_pos ⟨ht, rfl⟩]; simp
    · obtain ⟨o2, ho2⟩ := h.has j d u hd' hu
      refine ⟨o2, ?_⟩
      unfold addW
      by_cases e1 : d.tier = t ∧ u = x
      · rw [if_pos e1, putW_other _ _ (by rintro ⟨_, h2⟩; exact hxl h2)]
        rw [e1.1, e1.2] at ho2
        exact List.mem_append_left _ ho2
      · rw [if_neg e1]
        by_cases e2 : d.tier = t ∧ u = l
        · rw [e2.1, e2.2, putW_same]
          rw [e2.1, e2.2, hW] at ho2
          rcases List.mem_append.1 ho2 with h2 | h2
          · exact List.mem_append_left _ h2
          · rcases List.mem_cons.1 h2 with h3 | h3
            · cases h3; exact absurd rfl hne
            · exact List.mem_append_right _ h3
        · rw [putW_other _ _ e2]; exact ho2
  · rcases addM t' l' _ he with ⟨rfl, rfl, h2⟩ | ⟨h2, h3⟩
    · cases h2
      exact ⟨_, mod_same hc, (hmem _).2 ho, fun _ => .inr g1, ht0⟩
    · obtain ⟨d, hd, h4, h5, h6⟩ := h.own t' l' j o2 h2
      by_cases e : j = ci
      · subst e
        rw [hc] at hd; cases hd
        refine ⟨_, mod_same hc, (hmem o2).2 h4, fun e2 => ?_, h6⟩
        have e3 : c.tier = t' := e2
        have e4 : t' = t := by rw [← e3]; exact ht
        rcases h5 e3 with h7 | h7
        · rw [hl0] at h7; cases h7; exact .inl g0
        · rw [h1] at h7; cases h7
          exact absurd (h3 e4 rfl) (notin o2)
      · exact ⟨d, by rw [mod_other e]; exact hd, h4, h5, h6⟩
  · unfold addW
    by_cases e1 : t' = t ∧ l' = x
    · rw [if_pos e1, putW_other _ _ (by rintro ⟨_, h2⟩; exact hxl h2), List.map_append]
      refine List.nodup_append.2 ⟨h.nd t x, by simp, fun y hy z hz e2 => ?_⟩
      simp only [List.map_cons, List.map_nil, List.mem_singleton] at hz
      subst hz
      obtain ⟨⟨j, o2⟩, h2, h3⟩ := List.mem_map.1 hy
      dsimp only at h3
      rw [h3, e2] at h2
      exact notx o2 h2
    · rw [if_neg e1]
      by_cases e2 : t' = t ∧ l' = l
      · obtain ⟨rfl, rfl⟩ := e2
        rw [putW_same, List.map_append]
        exact ndW.sublist (List.Sublist.append_left (List.sublist_cons_self _ _) _)
      · rw [putW_other _ _ e2]; exact h.nd t' l'

end Go.Proofs.Ytllaedigdjhkjaa
