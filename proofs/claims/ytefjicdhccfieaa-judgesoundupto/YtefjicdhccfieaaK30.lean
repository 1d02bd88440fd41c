import Derived.Test.YtefjicdhccfieaaK01
import Derived.Test.YtefjicdhccfieaaK29
set_option maxRecDepth 100000
set_option maxHeartbeats 16000000
namespace Go.Proofs.Ytefjicdhccfieaa
open Go.RowKit
def putW (W : Nat → Nat → List (Nat × Nat)) (t l : Nat) (es : List (Nat × Nat)) : Nat → Nat → List (Nat × Nat) := fun t' l' => if t' = t ∧ l' = l then es else W t' l'
def St.putW (st : St) (t l : Nat) (es : List (Nat × Nat)) : St := { st with W := Go.Proofs.Ytefjicdhccfieaa.putW st.W t l es }
def St.listAt (st : St) (i : Nat) (ls : List Nat) : St := { st with cls := st.cls.modify i fun c => { c with l := ls } }
theorem putW_same (W : Nat → Nat → List (Nat × Nat)) (t l : Nat) (es : List (Nat × Nat)) : Go.Proofs.Ytefjicdhccfieaa.putW W t l es t l = es := by simp [Go.Proofs.Ytefjicdhccfieaa.putW]
theorem putW_other (W : Nat → Nat → List (Nat × Nat)) {t l t' l' : Nat} (es : List (Nat × Nat)) (h : ¬ (t' = t ∧ l' = l)) : Go.Proofs.Ytefjicdhccfieaa.putW W t l es t' l' = W t' l' := by simp only [Go.Proofs.Ytefjicdhccfieaa.putW, if_neg h]
theorem putW_twice (W : Nat → Nat → List (Nat × Nat)) (t l : Nat) (es es' : List (Nat × Nat)) : Go.Proofs.Ytefjicdhccfieaa.putW (Go.Proofs.Ytefjicdhccfieaa.putW W t l es) t l es' = Go.Proofs.Ytefjicdhccfieaa.putW W t l es' := by
 funext t' l'
 by_cases h : t' = t ∧ l' = l
 ·obtain ⟨rfl, rfl⟩ := h; rw [putW_same, putW_same]
 ·rw [putW_other _ _ h, putW_other _ _ h, putW_other _ _ h]
theorem putW_self (W : Nat → Nat → List (Nat × Nat)) (t l : Nat) : Go.Proofs.Ytefjicdhccfieaa.putW W t l (W t l) = W := by
 funext t' l'
 by_cases h : t' = t ∧ l' = l
 ·obtain ⟨rfl, rfl⟩ := h; rw [putW_same]
 ·rw [putW_other _ _ h]
theorem Link.putW {sl : Site → Slot} {st : St} (h : Link sl st) (t l : Nat) (es : List (Nat × Nat)) (v : Value) :
  Link (setS (setS sl (.wl t l) ⟨v, es.length, wlV es⟩) (.row t) ⟨(sl (.row t)).v, (sl (.row t)).n, (sl (.row t)).xs.set l v⟩) (st.putW t l es) := by
 refine ⟨h.hV, ?_, h.heldL, ?_, h.reasonL, ?_, h.usedL, ?_, ?_, ?_, ?_, ?_, ?_⟩
 ·simpa [setS, St.putW] using h.held
 ·simpa [setS, St.putW] using h.reason
 ·simpa [setS, St.putW] using h.used
 ·simpa [setS, St.putW] using h.trail
 ·simpa [setS, St.putW] using h.clsN
 ·intro j c hc
  simpa [setS, St.putW] using h.cls j c hc
 ·intro j c hc
  simpa [setS, St.putW] using h.lits j c hc
 ·intro t' ht'
  obtain ⟨h1, h2⟩ := h.row t' ht'
  by_cases e1 : t' = t
  ·subst e1
   rw [setS_same]
   refine ⟨h1, fun l' hl' => ?_⟩
   dsimp only
   rw [setS_other _ _ (by intro e; cases e)]
   by_cases e2 : l' = l
   ·subst e2
    rw [setS_same, List.getElem?_set_self (by have := (List.getElem?_eq_some_iff.1 (h2 l' hl')).1; exact this)]
   ·rw [setS_other _ _ (by intro e; injection e; omega), List.getElem?_set_ne (by omega)]
    exact h2 l' hl'
  ·rw [setS_other _ _ (by intro e; injection e; omega), setS_other _ _ (by intro e; cases e)]
   refine ⟨h1, fun l' hl' => ?_⟩
   rw [setS_other _ _ (by intro e; cases e), setS_other _ _ (by intro e; injection e; omega)]
   exact h2 l' hl'
 ·intro t' l' ht' hl'
  obtain ⟨h1, h2⟩ := h.wl t' l' ht' hl'
  rw [setS_other _ _ (by intro e; cases e)]
  by_cases e1 : t' = t ∧ l' = l
  ·obtain ⟨rfl, rfl⟩ := e1
   rw [setS_same]
   simp only [St.putW, putW_same, and_self]
  ·rw [setS_other _ _ (by intro e; injection e with e2 e3; exact e1 ⟨e2, e3⟩)]
   simp only [St.putW, putW_other _ _ e1]
   exact ⟨h1, h2⟩
theorem Link.putW0 {sl : Site → Slot} {st : St} (h : Link sl st) (t l : Nat) (es : List (Nat × Nat)) :
  Link (setS sl (.wl t l) ⟨(sl (.wl t l)).v, es.length, wlV es⟩) (st.putW t l es) := by
 refine ⟨h.hV, ?_, h.heldL, ?_, h.reasonL, ?_, h.usedL, ?_, ?_, ?_, ?_, ?_, ?_⟩
 ·simpa [setS, St.putW] using h.held
 ·simpa [setS, St.putW] using h.reason
 ·simpa [setS, St.putW] using h.used
 ·simpa [setS, St.putW] using h.trail
 ·simpa [setS, St.putW] using h.clsN
 ·intro j c hc
  simpa [setS, St.putW] using h.cls j c hc
 ·intro j c hc
  simpa [setS, St.putW] using h.lits j c hc
 ·intro t' ht'
  obtain ⟨h1, h2⟩ := h.row t' ht'
  rw [setS_other _ _ (by intro e; cases e)]
  refine ⟨h1, fun l' hl' => ?_⟩
  by_cases e1 : Site.wl t' l' = Site.wl t l
  ·rw [e1, setS_same]
   dsimp only
   rw [← e1]; exact h2 l' hl'
  ·rw [setS_other _ _ e1]; exact h2 l' hl'
 ·intro t' l' ht' hl'
  obtain ⟨h1, h2⟩ := h.wl t' l' ht' hl'
  by_cases e1 : t' = t ∧ l' = l
  ·obtain ⟨rfl, rfl⟩ := e1
   rw [setS_same]
   simp only [St.putW, putW_same, and_self]
  ·rw [setS_other _ _ (by intro e; injection e with e2 e3; exact e1 ⟨e2, e3⟩)]
   simp only [St.putW, putW_other _ _ e1]
   exact ⟨h1, h2⟩
theorem mod_get {cls : List BC} {i : Nat} {f : BC → BC} {j : Nat} {c' : BC} (h : (cls.modify i f)[j]? = some c') : (j = i ∧ ∃ c, cls[i]? = some c ∧ c' = f c) ∨ (j ≠ i ∧ cls[j]? = some c') := by
 rw [List.getElem?_modify] at h
 by_cases e : i = j
 ·subst e
  cases hc : cls[i]? with
  | none => rw [hc] at h; cases h
  | some c => rw [hc] at h; simp at h; exact .inl ⟨rfl, c, rfl, h.symm⟩
 ·refine .inr ⟨fun e2 => e e2.symm, ?_⟩
  cases hc : cls[j]? with
  | none => rw [hc] at h; cases h
  | some c => rw [hc] at h; simp [e] at h; rw [h]
theorem mod_same {cls : List BC} {i : Nat} {f : BC → BC} {c : BC} (h : cls[i]? = some c) : (cls.modify i f)[i]? = some (f c) := by
 rw [List.getElem?_modify, h]; simp
theorem mod_other {cls : List BC} {i j : Nat} {f : BC → BC} (h : j ≠ i) : (cls.modify i f)[j]? = cls[j]? := by
 rw [List.getElem?_modify]
 have : ¬ i = j := fun e => h e.symm
 cases cls[j]? <;> simp [this]
theorem Link.listAt {sl : Site → Slot} {st : St} (h : Link sl st) {i : Nat} {c : BC} (hc : st.cls[i]? = some c) (ls : List Nat) (hl : ls.length = c.l.length) :
  Link (setS sl (.lits i) ⟨(sl (.lits i)).v, (sl (.lits i)).n, litV ls⟩) (st.listAt i ls) := by
 refine ⟨h.hV, ?_, h.heldL, ?_, h.reasonL, ?_, h.usedL, ?_, ?_, ?_, ?_, ?_, ?_⟩
 ·simpa [setS, St.listAt] using h.held
 ·simpa [setS, St.listAt] using h.reason
 ·simpa [setS, St.listAt] using h.used
 ·simpa [setS, St.listAt] using h.trail
 ·simpa [setS, St.listAt] using h.clsN
 ·intro j c' hc'
  rw [setS_other _ _ (by intro e; cases e)]
  rcases mod_get hc' with ⟨rfl, d, hd, rfl⟩ | ⟨hne, hd⟩
  ·rw [setS_same]; exact h.cls j d hd
  ·rw [setS_other _ _ (by intro e; injection e; omega)]; exact h.cls j c' hd
 ·intro j c' hc'
  rcases mod_get hc' with ⟨rfl, d, hd, rfl⟩ | ⟨hne, hd⟩
  ·rw [setS_same]
   rw [hc] at hd
   cases hd
   exact ⟨by rw [(h.lits j c hc).1]; exact hl.symm, rfl⟩
  ·rw [setS_other _ _ (by intro e; injection e; omega)]; exact h.lits j c' hd
 ·intro t ht
  simpa [setS, St.listAt] using h.row t ht
 ·intro t l' ht hl
  simpa [setS, St.listAt] using h.wl t l' ht hl
structure LikeC (cls cls' : List BC) : Prop where
 fwd : ∀ (i : Nat) (c : BC), cls[i]? = some c → ∃ c', cls'[i]? = some c' ∧ ∀ m, m ∈ c.l ↔ m ∈ c'.l
 back : ∀ (i : Nat) (c' : BC), cls'[i]? = some c' → ∃ c, cls[i]? = some c ∧ ∀ m, m ∈ c.l ↔ m ∈ c'.l
theorem LikeC.dof {cls cls' : List BC} (h : LikeC cls cls') : Alike2 (Dof cls) (Dof cls') := by
 refine ⟨fun d hd => ?_, fun d hd => ?_⟩
 ·obtain ⟨c, hc, rfl⟩ := List.mem_map.1 hd
  obtain ⟨i, hi⟩ := List.getElem?_of_mem hc
  obtain ⟨c', h1, h2⟩ := h.fwd i c hi
  refine ⟨_, List.mem_map.2 ⟨c', List.mem_of_getElem? h1, rfl⟩, fun m => ?_⟩
  simp only [List.mem_map, h2]
 ·obtain ⟨c', hc, rfl⟩ := List.mem_map.1 hd
  obtain ⟨i, hi⟩ := List.getElem?_of_mem hc
  obtain ⟨c, h1, h2⟩ := h.back i c' hi
  refine ⟨_, List.mem_map.2 ⟨c, List.mem_of_getElem? h1, rfl⟩, fun m => ?_⟩
  simp only [List.mem_map, h2]
theorem like_mod {cls : List BC} {i : Nat} {c : BC} (hc : cls[i]? = some c) {f : BC → BC} (hf : ∀ m, m ∈ c.l ↔ m ∈ (f c).l) : LikeC cls (cls.modify i f) := by
 refine ⟨fun j d hd => ?_, fun j d hd => ?_⟩
 ·by_cases e : j = i
  ·subst e
   rw [hc] at hd; cases hd
   exact ⟨f c, mod_same hc, hf⟩
  ·exact ⟨d, by rw [mod_other e]; exact hd, fun m => Iff.rfl⟩
 ·rcases mod_get hd with ⟨rfl, d', hd', rfl⟩ | ⟨_, hd'⟩
  ·rw [hc] at hd'; cases hd'
   exact ⟨c, hc, hf⟩
  ·exact ⟨d, hd', fun m => Iff.rfl⟩
theorem Wd.gone {V : Nat} {cls : List BC} {W : Nat → Nat → List (Nat × Nat)} (h : Wd V cls W) {t l ci o : Nat} {a b : List (Nat × Nat)} (hW : W t l = a ++ (ci, o) :: b) {c : BC} (hc : cls[ci]? = some c) (ht : c.tier ≠ t) : Wd V cls (Go.Proofs.Ytefjicdhccfieaa.putW W t l (a ++ b)) := by
 have sub : ∀ t' l' e, e ∈ Go.Proofs.Ytefjicdhccfieaa.putW W t l (a ++ b) t' l' → e ∈ W t' l' := fun t' l' e he => by
  by_cases h1 : t' = t ∧ l' = l
  ·obtain ⟨rfl, rfl⟩ := h1
   rw [putW_same] at he
   rw [hW]
   rcases List.mem_append.1 he with h2 | h2
   ·exact List.mem_append_left _ h2
   ·exact List.mem_append_right _ (List.mem_cons_of_mem _ h2)
  ·rw [putW_other _ _ h1] at he; exact he
 refine ⟨h.two, fun i d u hd hu => ?_, fun t' l' i o' he => h.own t' l' i o' (sub _ _ _ he), fun t' l' => ?_⟩
 ·obtain ⟨o', ho'⟩ := h.has i d u hd hu
  refine ⟨o', ?_⟩
  by_cases h1 : d.tier = t ∧ u = l
  ·rw [h1.1, h1.2, putW_same]
   rw [h1.1, h1.2, hW] at ho'
   rcases List.mem_append.1 ho' with h2 | h2
   ·exact List.mem_append_left _ h2
   ·rcases List.mem_cons.1 h2 with h3 | h3
    ·cases h3
     rw [hc] at hd; cases hd
     exact absurd h1.1 ht
    ·exact List.mem_append_right _ h3
  ·rw [putW_other _ _ h1]; exact ho'
 ·by_cases h1 : t' = t ∧ l' = l
  ·obtain ⟨rfl, rfl⟩ := h1
   rw [putW_same]
   have := h.nd t' l'
   rw [hW] at this
   simp only [List.map_append, List.map_cons] at this ⊢
   exact this.sublist (List.Sublist.append_left (List.sublist_cons_self _ _) _)
  ·rw [putW_other _ _ h1]; exact h.nd t' l'
theorem Wd.stay {V : Nat} {cls : List BC} {W : Nat → Nat → List (Nat × Nat)} (h : Wd V cls W) {t l ci o o' : Nat} {a b : List (Nat × Nat)} (hW : W t l = a ++ (ci, o) :: b) {c : BC} (hc : cls[ci]? = some c) (ho : o' ∈ c.l) : Wd V cls (Go.Proofs.Ytefjicdhccfieaa.putW W t l (a ++ (ci, o') :: b)) := by
 refine ⟨h.two, fun i d u hd hu => ?_, fun t' l' i o'' he => ?_, fun t' l' => ?_⟩
 ·obtain ⟨o2, ho2⟩ := h.has i d u hd hu
  by_cases h1 : d.tier = t ∧ u = l
  ·rw [h1.1, h1.2, putW_same]
   rw [h1.1, h1.2, hW] at ho2
   rcases List.mem_append.1 ho2 with h2 | h2
   ·exact ⟨o2, List.mem_append_left _ h2⟩
   ·rcases List.mem_cons.1 h2 with h3 | h3
    ·cases h3
     exact ⟨o', List.mem_append_right _ (by simp)⟩
    ·exact ⟨o2, List.mem_append_right _ (List.mem_cons_of_mem _ h3)⟩
  ·rw [putW_other _ _ h1]; exact ⟨o2, ho2⟩
 ·by_cases h1 : t' = t ∧ l' = l
  ·obtain ⟨rfl, rfl⟩ := h1
   rw [putW_same] at he
   rcases List.mem_append.1 he with h2 | h2
   ·exact h.own t' l' i o'' (by rw [hW]; exact List.mem_append_left _ h2)
   ·rcases List.mem_cons.1 h2 with h3 | h3
    ·cases h3
     obtain ⟨d, hd, _, h4⟩ := h.own t' l' ci o (by rw [hW]; simp)
     rw [hc] at hd; cases hd
     exact ⟨c, hc, ho, h4⟩
    ·exact h.own t' l' i o'' (by rw [hW]; exact List.mem_append_right _ (List.mem_cons_of_mem _ h3))
  ·rw [putW_other _ _ h1] at he; exact h.own t' l' i o'' he
 ·by_cases h1 : t' = t ∧ l' = l
  ·obtain ⟨rfl, rfl⟩ := h1
   rw [putW_same]
   have := h.nd t' l'
   rw [hW] at this
   simpa using this
  ·rw [putW_other _ _ h1]; exact h.nd t' l'
theorem Wd.turn {V : Nat} {cls : List BC} {W : Nat → Nat → List (Nat × Nat)} (h : Wd V cls W) {i : Nat} {c : BC} (hc : cls[i]? = some c) {f : BC → BC} (hm : ∀ m, m ∈ c.l ↔ m ∈ (f c).l) (hw : ∀ u, wt (f c) u ↔ wt c u) (ht : (f c).tier = c.tier) (hnd : (f c).l.Nodup) (hl : (f c).l.length = c.l.length) (hn : 2 ≤ (f c).next ∧ (f c).next ≤ c.l.length) : Wd V (cls.modify i f) W := by
 refine ⟨fun j d hd => ?_, fun j d u hd hu => ?_, fun t l j o he => ?_, h.nd⟩
 ·rcases mod_get hd with ⟨rfl, d', hd', rfl⟩ | ⟨_, hd'⟩
  ·rw [hc] at hd'; cases hd'
   obtain ⟨h1, h2, h3, h4, h5, h6⟩ := h.two j c hc
   exact ⟨by omega, hnd, fun x hx => h3 x ((hm x).2 hx), by omega, hn.1, by omega⟩
  ·exact h.two j d hd'
 ·rcases mod_get hd with ⟨rfl, d', hd', rfl⟩ | ⟨_, hd'⟩
  ·rw [hc] at hd'; cases hd'
   rw [ht]; exact h.has j c u hc ((hw u).1 hu)
  ·exact h.has j d u hd' hu
 ·obtain ⟨d, hd, h1, h2, h3⟩ := h.own t l j o he
  by_cases e : j = i
  ·subst e
   rw [hc] at hd; cases hd
   exact ⟨f c, mod_same hc, (hm o).1 h1, fun e => (hw l).2 (h2 (by rw [← e, ht])), fun e => by rw [ht]; exact h3 e⟩
  ·exact ⟨d, by rw [mod_other e]; exact hd, h1, h2, h3⟩
theorem Wd.move {V : Nat} {cls : List BC} {W : Nat → Nat → List (Nat × Nat)} (h : Wd V cls W) {t l ci o o' x k : Nat} {a b : List (Nat × Nat)} (hW : W t l = a ++ (ci, o) :: b) {c : BC} (hc : cls[ci]? = some c) (ht : c.tier = t) (h1 : c.l[1]? = some l) (hk : 2 ≤ k) (hx : c.l[k]? = some x) (ho : o' ∈ c.l) (ht0 : t = 0 → c.tier = 0) : Wd V (cls.modify ci fun c => { c with l := swp c.l 1 k }) (addW (Go.Proofs.Ytefjicdhccfieaa.putW W t l (a ++ b)) t x (ci, o')) ∧ x ≠ l := by
 obtain ⟨q1, q2, q3, q4, q5, q6⟩ := h.two ci c hc
 have hkl : k < c.l.length := (List.getElem?_eq_some_iff.1 hx).1
 have h1l : 1 < c.l.length := by omega
 have hxl : x ≠ l := fun e => by subst e; have := nodup_get q2 h1 hx; omega
 obtain ⟨l0, hl0⟩ := getElem_lt (show 0 < c.l.length by omega)
 have hl0l : l0 ≠ l := fun e => by subst e; have := nodup_get q2 hl0 h1; omega
 have hx0 : x ≠ l0 := fun e => by subst e; have := nodup_get q2 hl0 hx; omega
 have g0 : (swp c.l 1 k)[0]? = some l0 := by rw [swp_get _ h1l hkl]; simp only [swI]; rw [if_neg (by omega), if_neg (by omega)]; exact hl0
 have g1 : (swp c.l 1 k)[1]? = some x := by rw [swp_get _ h1l hkl]; simp only [swI]; rw [if_neg (by omega)]; simpa using hx
 have hmem := swp_mem c.l h1l hkl
 have addM : ∀ t' l' e, e ∈ addW (Go.Proofs.Ytefjicdhccfieaa.putW W t l (a ++ b)) t x (ci, o') t' l' → (t' = t ∧ l' = x ∧ e = (ci, o')) ∨ (e ∈ W t' l' ∧ (t' = t → l' = l → e ∈ a ++ b)) := fun t' l' e he => by
  unfold addW at he
  by_cases e1 : t' = t ∧ l' = x
  ·rw [if_pos e1, putW_other _ _ (by rintro ⟨_, h2⟩; exact hxl h2)] at he
   rcases List.mem_append.1 he with h2 | h2
   ·exact .inr ⟨by rw [e1.1, e1.2]; exact h2, fun _ h3 => absurd (e1.2.symm.trans h3) hxl⟩
   ·exact .inl ⟨e1.1, e1.2, List.mem_singleton.1 h2⟩
  ·rw [if_neg e1] at he
   by_cases e2 : t' = t ∧ l' = l
   ·obtain ⟨rfl, rfl⟩ := e2
    rw [putW_same] at he
    refine .inr ⟨?_, fun _ _ => he⟩
    rw [hW]
    rcases List.mem_append.1 he with h2 | h2
    ·exact List.mem_append_left _ h2
    ·exact List.mem_append_right _ (List.mem_cons_of_mem _ h2)
   ·rw [putW_other _ _ e2] at he
    exact .inr ⟨he, fun h2 h3 => absurd ⟨h2, h3⟩ e2⟩
 have ndW := h.nd t l
 rw [hW] at ndW
 simp only [List.map_append, List.map_cons] at ndW
 have notin : ∀ o2, (ci, o2) ∉ a ++ b := fun o2 hm => by
  have h2 := List.nodup_append.1 ndW
  have h3 := List.nodup_cons.1 h2.2.1
  rcases List.mem_append.1 hm with h4 | h4
  ·exact h2.2.2 ci (List.mem_map.2 ⟨_, h4, rfl⟩) ci (by simp) rfl
  ·exact h3.1 (List.mem_map.2 ⟨_, h4, rfl⟩)
 have notx : ∀ o2, (ci, o2) ∉ W t x := fun o2 hm => by
  obtain ⟨d, hd, _, h2, _⟩ := h.own t x ci o2 hm
  rw [hc] at hd; cases hd
  rcases h2 ht with h3 | h3
  ·rw [hl0] at h3; cases h3; exact hx0 rfl
  ·rw [h1] at h3; cases h3; exact hxl rfl
 refine ⟨⟨fun j d hd => ?_, fun j d u hd hu => ?_, fun t' l' j o2 he => ?_, fun t' l' => ?_⟩, hxl⟩
 ·rcases mod_get hd with ⟨rfl, d', hd', rfl⟩ | ⟨_, hd'⟩
  ·rw [hc] at hd'; cases hd'
   exact ⟨by rw [swp_len]; exact q1, swp_nodup q2 h1l hkl, fun y hy => q3 y ((hmem y).1 hy), q4, q5, by rw [swp_len]; exact q6⟩
  ·exact h.two j d hd'
 ·rcases mod_get hd with ⟨rfl, d', hd', rfl⟩ | ⟨hne, hd'⟩
  ·rw [hc] at hd'; cases hd'
   dsimp only
   rcases hu with hu | hu
   ·rw [g0] at hu; cases hu
    obtain ⟨o2, ho2⟩ := h.has j c l0 hc (.inl hl0)
    refine ⟨o2, ?_⟩
    unfold addW
    rw [if_neg (by rintro ⟨_, h2⟩; exact hx0 h2.symm), putW_other _ _ (by rintro ⟨_, h2⟩; exact hl0l h2)]
    exact ho2
   ·rw [g1] at hu; cases hu
    refine ⟨o', ?_⟩
    unfold addW
    rw [if_pos ⟨ht, rfl⟩]; simp
  ·obtain ⟨o2, ho2⟩ := h.has j d u hd' hu
   refine ⟨o2, ?_⟩
   unfold addW
   by_cases e1 : d.tier = t ∧ u = x
   ·rw [if_pos e1, putW_other _ _ (by rintro ⟨_, h2⟩; exact hxl h2)]
    rw [e1.1, e1.2] at ho2
    exact List.mem_append_left _ ho2
   ·rw [if_neg e1]
    by_cases e2 : d.tier = t ∧ u = l
    ·rw [e2.1, e2.2, putW_same]
     rw [e2.1, e2.2, hW] at ho2
     rcases List.mem_append.1 ho2 with h2 | h2
     ·exact List.mem_append_left _ h2
     ·rcases List.mem_cons.1 h2 with h3 | h3
      ·cases h3; exact absurd rfl hne
      ·exact List.mem_append_right _ h3
    ·rw [putW_other _ _ e2]; exact ho2
 ·rcases addM t' l' _ he with ⟨rfl, rfl, h2⟩ | ⟨h2, h3⟩
  ·cases h2
   exact ⟨_, mod_same hc, (hmem _).2 ho, fun _ => .inr g1, ht0⟩
  ·obtain ⟨d, hd, h4, h5, h6⟩ := h.own t' l' j o2 h2
   by_cases e : j = ci
   ·subst e
    rw [hc] at hd; cases hd
    refine ⟨_, mod_same hc, (hmem o2).2 h4, fun e2 => ?_, h6⟩
    have e3 : c.tier = t' := e2
    have e4 : t' = t := by rw [← e3]; exact ht
    rcases h5 e3 with h7 | h7
    ·rw [hl0] at h7; cases h7; exact .inl g0
    ·rw [h1] at h7; cases h7
     exact absurd (h3 e4 rfl) (notin o2)
   ·exact ⟨d, by rw [mod_other e]; exact hd, h4, h5, h6⟩
 ·unfold addW
  by_cases e1 : t' = t ∧ l' = x
  ·rw [if_pos e1, putW_other _ _ (by rintro ⟨_, h2⟩; exact hxl h2), List.map_append]
   refine List.nodup_append.2 ⟨h.nd t x, by simp, fun y hy z hz e2 => ?_⟩
   simp only [List.map_cons, List.map_nil, List.mem_singleton] at hz
   subst hz
   obtain ⟨⟨j, o2⟩, h2, h3⟩ := List.mem_map.1 hy
   dsimp only at h3
   rw [h3, e2] at h2
   exact notx o2 h2
  ·rw [if_neg e1]
   by_cases e2 : t' = t ∧ l' = l
   ·obtain ⟨rfl, rfl⟩ := e2
    rw [putW_same, List.map_append]
    exact ndW.sublist (List.Sublist.append_left (List.sublist_cons_self _ _) _)
   ·rw [putW_other _ _ e2]; exact h.nd t' l'
end Go.Proofs.Ytefjicdhccfieaa

set_option maxRecDepth 100000
set_option maxHeartbeats 16000000
namespace Go.Proofs.Ytefjicdhccfieaa
open Go.RowKit
def vw (st : St) (t l kept i : Nat) : Nat → Nat → List (Nat × Nat) := Go.Proofs.Ytefjicdhccfieaa.putW st.W t l ((st.W t l).take kept ++ (st.W t l).drop i)
def exW (st : St) (t l i : Nat) : Nat → Nat → Prop := fun j u => u = l ∧ ∃ o c, (j, o) ∈ (st.W t l).drop i ∧ st.cls[j]? = some c ∧ c.tier = t
structure Wk (F : List (List Int)) (L A : Int → Prop) (b : Nat) (st : St) (t l kept i : Nat) : Prop where
 k : kept ≤ i
 n : i ≤ (st.W t l).length
 co : Core F L A b st (vw st t l kept i)
 w4 : W4 st (exW st t l i)
 lf : oppN l ∈ st.trail
 lV : l < 2 * st.V
 tt : t < 2
theorem vw_at {st : St} {t l kept i : Nat} {e : Nat × Nat} (he : (st.W t l)[i]? = some e) : vw st t l kept i t l = (st.W t l).take kept ++ e :: (st.W t l).drop (i + 1) := by
 unfold vw
 rw [putW_same]
 have hi := (List.getElem?_eq_some_iff.1 he).1
 rw [List.drop_eq_getElem_cons hi]
 have : (st.W t l)[i] = e := by have := List.getElem?_eq_getElem hi; rw [he] at this; exact (Option.some.inj this).symm
 rw [this]
theorem Wk.entry {F : List (List Int)} {L A : Int → Prop} {b : Nat} {st : St} {t l kept i : Nat} (h : Wk F L A b st t l kept i) {ci o : Nat} (he : (st.W t l)[i]? = some (ci, o)) : ∃ c, st.cls[ci]? = some c ∧ o ∈ c.l ∧ (c.tier = t → wt c l) ∧ (t = 0 → c.tier = 0) := h.co.wd.own t l ci o (by rw [vw_at he]; simp)
theorem W4.mono {st : St} {ex ex' : Nat → Nat → Prop} (h : W4 st ex) (hx : ∀ i u, ex i u → ex' i u) : W4 st ex' := fun i c u h1 h2 h3 => (h i c u h1 h2 h3).imp id (hx i u)
theorem drop_mem {α : Type} {xs : List α} {i : Nat} {e x : α} (he : xs[i]? = some e) (hx : x ∈ xs.drop i) : x = e ∨ x ∈ xs.drop (i + 1) := by
 have hi := (List.getElem?_eq_some_iff.1 he).1
 rw [List.drop_eq_getElem_cons hi] at hx
 rcases List.mem_cons.1 hx with h | h
 ·left
  have := List.getElem?_eq_getElem hi
  rw [he] at this
  rw [h]; exact (Option.some.inj this).symm
 ·exact .inr h
theorem Core.put {F : List (List Int)} {L A : Int → Prop} {b : Nat} {st : St} {W : Nat → Nat → List (Nat × Nat)} (h : Core F L A b st W) {W' : Nat → Nat → List (Nat × Nat)} (hw : Wd st.V st.cls W') : Core F L A b st W' := ⟨hw, h.hd, h.rs, h.bf, h.w5, h.bk, h.so⟩
theorem Wk.skip {F : List (List Int)} {L A : Int → Prop} {b : Nat} {st : St} {t l kept i : Nat} (h : Wk F L A b st t l kept i) {ci o : Nat} (he : (st.W t l)[i]? = some (ci, o)) {c : BC} (hc : st.cls[ci]? = some c) (ht : c.tier ≠ t) : Wk F L A b st t l kept (i + 1) := by
 have hi := (List.getElem?_eq_some_iff.1 he).1
 refine ⟨by have := h.k; omega, hi, ?_, ?_, h.lf, h.lV, h.tt⟩
 ·have h1 := h.co.wd.gone (vw_at he) hc ht
  have e : Go.Proofs.Ytefjicdhccfieaa.putW (vw st t l kept i) t l ((st.W t l).take kept ++ (st.W t l).drop (i + 1)) = vw st t l kept (i + 1) := by
   unfold vw; rw [putW_twice]
  rw [e] at h1
  exact h.co.put h1
 ·refine h.w4.mono (fun j u hx => ?_)
  obtain ⟨h1, o2, d, h2, h3, h4⟩ := hx
  rcases drop_mem he h2 with h5 | h5
  ·cases h5
   rw [hc] at h3; cases h3
   exact absurd h4 ht
  ·exact ⟨h1, o2, d, h5, h3, h4⟩
theorem Core.turn {F : List (List Int)} {L A : Int → Prop} {b : Nat} {st : St} {W : Nat → Nat → List (Nat × Nat)} (h : Core F L A b st W) {i : Nat} {c : BC} (hc : st.cls[i]? = some c) {f : BC → BC} (hm : ∀ m, m ∈ c.l ↔ m ∈ (f c).l) (hw : ∀ u, wt (f c) u → wt c u ∨ oppN u ∉ st.trail) {W' : Nat → Nat → List (Nat × Nat)} (hwd : Wd st.V (st.cls.modify i f) W') : Core F L A b { st with cls := st.cls.modify i f } W' := by
 refine ⟨hwd, ⟨h.hd.heldL, h.hd.held, h.hd.tlt, h.hd.tnd, h.hd.cons, h.hd.l0, h.hd.l1⟩, fun r hr => ?_, h.bf, fun j d u hd hu hu2 => ?_, h.bk.like (like_mod hc hm).dof, h.so⟩
 ·have := h.rs r hr
  simpa using this
 ·rcases mod_get hd with ⟨rfl, d', hd', rfl⟩ | ⟨_, hd'⟩
  ·rw [hc] at hd'; cases hd'
   rcases hw u hu with h1 | h1
   ·obtain ⟨y, h2, h3⟩ := h.w5 j c u hc h1 hu2
    exact ⟨y, (hm y).1 h2, h3⟩
   ·exact absurd (List.mem_of_mem_take hu2) h1
  ·exact h.w5 j d u hd' hu hu2
theorem W4.turn {st : St} {ex : Nat → Nat → Prop} (h : W4 st ex) {i : Nat} {c : BC} (hc : st.cls[i]? = some c) {f : BC → BC} (hm : ∀ m, m ∈ c.l ↔ m ∈ (f c).l) (hw : ∀ u, wt (f c) u → wt c u ∨ oppN u ∉ st.trail) (ht : (f c).tier = c.tier) : W4 { st with cls := st.cls.modify i f } ex := by
 intro j d u hd hu hu2
 rcases mod_get hd with ⟨rfl, d', hd', rfl⟩ | ⟨_, hd'⟩
 ·rw [hc] at hd'; cases hd'
  rcases hw u hu with h1 | h1
  ·dsimp only at hu2
   rw [ht] at hu2
   rcases h j c u hc h1 hu2 with ⟨y, h2, h3⟩ | h2
   ·exact .inl ⟨y, (hm y).1 h2, h3⟩
   ·exact .inr h2
  ·exact absurd (List.mem_of_mem_take hu2) h1
 ·exact h j d u hd' hu hu2
theorem ex_turn {st : St} {t l i' : Nat} {i : Nat} {c : BC} (hc : st.cls[i]? = some c) {f : BC → BC} (ht : (f c).tier = c.tier) {j u : Nat} (h : exW st t l i' j u) : exW { st with cls := st.cls.modify i f } t l i' j u := by
 obtain ⟨h1, o, d, h2, h3, h4⟩ := h
 by_cases e : j = i
 ·subst e
  rw [hc] at h3; cases h3
  exact ⟨h1, o, f c, h2, mod_same hc, by rw [ht]; exact h4⟩
 ·exact ⟨h1, o, d, h2, by rw [mod_other e]; exact h3, h4⟩
theorem Wk.swap {F : List (List Int)} {L A : Int → Prop} {b : Nat} {st : St} {t l kept i : Nat} (h : Wk F L A b st t l kept i) {ci : Nat} {c : BC} (hc : st.cls[ci]? = some c) : Wk F L A b (st.listAt ci (swp c.l 0 1)) t l kept i := by
 obtain ⟨q1, q2, q3, q4, q5, q6⟩ := h.co.wd.two ci c hc
 have hm := swp_mem c.l (i := 0) (j := 1) (by omega) (by omega)
 have hw : ∀ u, wt { c with l := swp c.l 0 1 } u ↔ wt c u := fun u => by
  have e0 := swp_get c.l (i := 0) (j := 1) (by omega) (by omega) 0
  have e1 := swp_get c.l (i := 0) (j := 1) (by omega) (by omega) 1
  simp [swI] at e0 e1
  unfold wt
  dsimp only
  rw [e0, e1]
  exact Or.comm
 have hf : ∀ u, wt { c with l := swp c.l 0 1 } u → wt c u ∨ oppN u ∉ st.trail := fun u hu => .inl ((hw u).1 hu)
 refine ⟨h.k, h.n, ?_, ?_, h.lf, h.lV, h.tt⟩
 ·exact h.co.turn (f := fun d => { d with l := swp c.l 0 1 }) hc (fun m => (hm m).symm) hf (h.co.wd.turn hc (fun m => (hm m).symm) hw rfl (swp_nodup q2 (by omega) (by omega)) (swp_len _ _ _) ⟨q5, q6⟩)
 ·exact (h.w4.turn (f := fun d => { d with l := swp c.l 0 1 }) hc (fun m => (hm m).symm) hf rfl).mono (fun j u hx => ex_turn hc rfl hx)
theorem Wk.next {F : List (List Int)} {L A : Int → Prop} {b : Nat} {st : St} {t l kept i : Nat} (h : Wk F L A b st t l kept i) {ci k : Nat} {c : BC} (hc : st.cls[ci]? = some c) (hk : 2 ≤ k) (hk2 : k ≤ c.l.length) : Wk F L A b (st.nextAt ci k) t l kept i := by
 obtain ⟨q1, q2, q3, q4, q5, q6⟩ := h.co.wd.two ci c hc
 refine ⟨h.k, h.n, ?_, ?_, h.lf, h.lV, h.tt⟩
 ·exact h.co.turn (f := fun d => { d with next := k }) hc (fun m => Iff.rfl) (fun u hu => .inl hu) (h.co.wd.turn hc (fun m => Iff.rfl) (fun u => Iff.rfl) rfl q2 rfl ⟨hk, hk2⟩)
 ·exact (h.w4.turn (f := fun d => { d with next := k }) hc (fun m => Iff.rfl) (fun u hu => .inl hu) rfl).mono (fun j u hx => ex_turn hc rfl hx)
theorem Wk.keep {F : List (List Int)} {L A : Int → Prop} {b : Nat} {st : St} {t l kept i : Nat} (h : Wk F L A b st t l kept i) {ci o o' : Nat} (he : (st.W t l)[i]? = some (ci, o)) {c : BC} (hc : st.cls[ci]? = some c) (ho : o' ∈ c.l) :
  Core F L A b (st.putW t l ((st.W t l).set kept (ci, o'))) (vw (st.putW t l ((st.W t l).set kept (ci, o'))) t l (kept + 1) (i + 1)) ∧ W4 (st.putW t l ((st.W t l).set kept (ci, o'))) (fun j u => exW (st.putW t l ((st.W t l).set kept (ci, o'))) t l (i + 1) j u ∨ j = ci) := by
 have hi := (List.getElem?_eq_some_iff.1 he).1
 have hk := h.k
 have eW : (st.putW t l ((st.W t l).set kept (ci, o'))).W t l = (st.W t l).set kept (ci, o') := by simp only [St.putW, putW_same]
 have ed : ((st.W t l).set kept (ci, o')).drop (i + 1) = (st.W t l).drop (i + 1) := by rw [List.drop_set_of_lt (by omega)]
 have et : ((st.W t l).set kept (ci, o')).take (kept + 1) = (st.W t l).take kept ++ [(ci, o')] := by
  rw [take_next _ kept (ci, o') (List.getElem?_set_self (by omega)), List.take_set_of_le (by omega)]
 have ev : vw (st.putW t l ((st.W t l).set kept (ci, o'))) t l (kept + 1) (i + 1) = Go.Proofs.Ytefjicdhccfieaa.putW (vw st t l kept i) t l ((st.W t l).take kept ++ (ci, o') :: (st.W t l).drop (i + 1)) := by
  unfold vw
  rw [eW, ed, et]
  show Go.Proofs.Ytefjicdhccfieaa.putW (Go.Proofs.Ytefjicdhccfieaa.putW st.W t l _) t l _ = _
  rw [putW_twice, putW_twice]
  simp
 refine ⟨?_, ?_⟩
 ·rw [ev]
  have := h.co.put (h.co.wd.stay (vw_at he) hc ho)
  exact ⟨this.wd, ⟨this.hd.heldL, this.hd.held, this.hd.tlt, this.hd.tnd, this.hd.cons, this.hd.l0, this.hd.l1⟩, this.rs, this.bf, this.w5, this.bk, this.so⟩
 ·intro j d u h1 h2 h3
  rcases h.w4 j d u h1 h2 h3 with h4 | ⟨h4, o2, d2, h5, h6, h7⟩
  ·exact .inl h4
  ·rcases drop_mem he h5 with h8 | h8
   ·cases h8; exact .inr (.inr rfl)
   ·exact .inr (.inl ⟨h4, o2, d2, by rw [eW, ed]; exact h8, h6, h7⟩)
theorem W4.done {st : St} {ex : Nat → Nat → Prop} {ci : Nat} (h : W4 st (fun j u => ex j u ∨ j = ci)) {c : BC} (hc : st.cls[ci]? = some c) {y : Nat} (hy : y ∈ c.l) (ht : y ∈ st.trail) : W4 st ex := by
 intro j d u h1 h2 h3
 rcases h j d u h1 h2 h3 with h4 | h4 | h4
 ·exact .inl h4
 ·exact .inr h4
 ·subst h4
  rw [hc] at h1; cases h1
  exact .inl ⟨y, hy, ht⟩
theorem Wk.kept' {F : List (List Int)} {L A : Int → Prop} {b : Nat} {st : St} {t l kept i : Nat} (h : Wk F L A b st t l kept i) {ci o o' : Nat} (he : (st.W t l)[i]? = some (ci, o)) {c : BC} (hc : st.cls[ci]? = some c) (ho : o' ∈ c.l) {y : Nat} (hy : y ∈ c.l) (ht : y ∈ st.trail) : Wk F L A b (st.putW t l ((st.W t l).set kept (ci, o'))) t l (kept + 1) (i + 1) := by
 have hi := (List.getElem?_eq_some_iff.1 he).1
 obtain ⟨h1, h2⟩ := h.keep he hc ho
 exact ⟨by have := h.k; omega, by simp only [St.putW, putW_same, List.length_set]; exact hi, h1, h2.done hc hy ht, h.lf, h.lV, h.tt⟩
theorem Wk.move {F : List (List Int)} {L A : Int → Prop} {b : Nat} {st : St} {t l kept i : Nat} (h : Wk F L A b st t l kept i) {ci o o' x k : Nat} (he : (st.W t l)[i]? = some (ci, o)) {c : BC} (hc : st.cls[ci]? = some c) (ht : c.tier = t) (h1 : c.l[1]? = some l) (hk : 2 ≤ k) (hx : c.l[k]? = some x) (ho : o' ∈ c.l) (hp : 0 ≤ st.held.getD x 0) : Wk F L A b ((st.listAt ci (swp c.l 1 k)).addW t x (ci, o')) t l kept (i + 1) ∧ x ≠ l := by
 have hi := (List.getElem?_eq_some_iff.1 he).1
 obtain ⟨q1, q2, q3, q4, q5, q6⟩ := h.co.wd.two ci c hc
 have hkl : k < c.l.length := (List.getElem?_eq_some_iff.1 hx).1
 have h1l : 1 < c.l.length := by omega
 obtain ⟨m1, m2⟩ := h.co.wd.move (vw_at he) hc ht h1 hk hx ho (fun e => by rw [ht]; exact e)
 have hm := swp_mem c.l h1l hkl
 have hxV : x < 2 * st.V := q3 x (List.mem_of_getElem? hx)
 have hxt : oppN x ∉ st.trail := fun hh => by have := (h.co.hd.neg hxV).2 hh; omega
 have hf : ∀ u, wt { c with l := swp c.l 1 k } u → wt c u ∨ oppN u ∉ st.trail := fun u hu => by
  rcases hu with hu | hu
  ·dsimp only at hu
   rw [swp_get _ h1l hkl] at hu
   simp only [swI] at hu
   rw [if_neg (by omega), if_neg (by omega)] at hu
   exact .inl (.inl hu)
  ·dsimp only at hu
   rw [swp_get _ h1l hkl] at hu
   simp only [swI] at hu
   rw [if_neg (by omega)] at hu
   simp at hu
   rw [hx] at hu; cases hu
   exact .inr hxt
 have em : st.cls.modify ci (fun d => { d with l := swp c.l 1 k }) = st.cls.modify ci (fun d => { d with l := swp d.l 1 k }) := by
  apply List.ext_getElem?
  intro j
  rw [List.getElem?_modify, List.getElem?_modify]
  by_cases e : ci = j
  ·subst e; rw [hc]; simp
  ·cases st.cls[j]? <;> simp [e]
 have eW : ((st.listAt ci (swp c.l 1 k)).addW t x (ci, o')).W t l = st.W t l := by
  simp only [St.addW, addW, St.listAt]
  rw [if_neg (by rintro ⟨_, e⟩; exact m2 e.symm)]
 have ev : vw ((st.listAt ci (swp c.l 1 k)).addW t x (ci, o')) t l kept (i + 1) = addW (Go.Proofs.Ytefjicdhccfieaa.putW (vw st t l kept i) t l ((st.W t l).take kept ++ (st.W t l).drop (i + 1))) t x (ci, o') := by
  unfold vw
  rw [eW, putW_twice]
  funext t' l'
  simp only [St.addW, St.listAt]
  by_cases e1 : t' = t ∧ l' = l
  ·obtain ⟨rfl, rfl⟩ := e1
   rw [putW_same]
   simp only [addW]
   rw [if_neg (by rintro ⟨_, e⟩; exact m2 e.symm), putW_same]
  ·rw [putW_other _ _ e1]
   simp only [addW]
   by_cases e2 : t' = t ∧ l' = x
   ·rw [if_pos e2, if_pos e2, putW_other _ _ (by rintro ⟨_, e⟩; exact m2 e)]
   ·rw [if_neg e2, if_neg e2, putW_other _ _ e1]
 have hc1 := h.co.turn (f := fun d => { d with l := swp c.l 1 k }) hc (fun m => (hm m).symm) hf (by rw [em]; exact m1)
 have hw4 := (h.w4.turn (f := fun d => { d with l := swp c.l 1 k }) hc (fun m => (hm m).symm) hf rfl)
 refine ⟨⟨by have := h.k; omega, by rw [eW]; exact hi, ?_, ?_, h.lf, h.lV, h.tt⟩, m2⟩
 ·rw [ev]
  exact ⟨hc1.wd, ⟨hc1.hd.heldL, hc1.hd.held, hc1.hd.tlt, hc1.hd.tnd, hc1.hd.cons, hc1.hd.l0, hc1.hd.l1⟩, hc1.rs, hc1.bf, hc1.w5, hc1.bk, hc1.so⟩
 ·intro j d u h2 h3 h4
  rcases hw4 j d u h2 h3 h4 with h5 | h5
  ·exact .inl h5
  ·obtain ⟨h6, o2, d2, h7, h8, h9⟩ := h5
   rcases drop_mem he h7 with h10 | h10
   ·cases h10
    exfalso
    subst h6
    have hd2 : d = { c with l := swp c.l 1 k } := by
     have := mod_same (f := fun d => { d with l := swp c.l 1 k }) hc
     rw [show ((st.listAt ci (swp c.l 1 k)).addW t x (ci, o')).cls = st.cls.modify ci (fun d => { d with l := swp c.l 1 k }) from rfl, this] at h2
     exact (Option.some.inj h2).symm
    subst hd2
    have hl0 : ∀ z, c.l[0]? = some z → z ≠ u := fun z hz e => by subst e; have := nodup_get q2 hz h1; omega
    rcases h3 with h3 | h3
    ·dsimp only at h3
     rw [swp_get _ h1l hkl] at h3
     simp only [swI] at h3
     rw [if_neg (by omega), if_neg (by omega)] at h3
     exact hl0 u h3 rfl
    ·dsimp only at h3
     rw [swp_get _ h1l hkl] at h3
     simp only [swI] at h3
     rw [if_neg (by omega)] at h3
     simp at h3
     rw [hx] at h3; cases h3
     exact m2 rfl
   ·refine .inr ⟨h6, o2, ?_⟩
    rw [eW]
    by_cases e : j = ci
    ·subst e
     rw [hc] at h8; cases h8
     exact ⟨_, h10, mod_same hc, ht⟩
    ·exact ⟨d2, h10, by show (st.cls.modify ci _)[j]? = _; rw [mod_other e]; exact h8, h9⟩
theorem Core.hold {F : List (List Int)} {L A : Int → Prop} {b : Nat} {st : St} {W : Nat → Nat → List (Nat × Nat)} (h : Core F L A b st W) {l : Nat} (hl : l < 2 * st.V) (h0 : st.held.getD l 0 = 0) (r : Int) (hr : -1 ≤ r ∧ (r < 1 ∨ r < (st.cls.length : Int))) (hD : Der F A (intL l)) : Core F L A b (st.hold l r) W := by
 have hb := h.bf
 refine ⟨h.wd, h.hd.hold hl h0 r, fun q hq => ?_, by simp [St.hold]; omega, ?_, h.bk, fun y hy => ?_⟩
 ·simp only [St.hold] at hq
  rcases List.mem_or_eq_of_mem_set hq with h1 | h1
  ·exact h.rs q h1
  ·rw [h1]; exact hr
 ·have e : (st.hold l r).trail.take b = st.trail.take b := by simp only [St.hold]; rw [List.take_append_of_le_length hb]
  rw [e]; exact h.w5
 ·simp only [St.hold, List.mem_append, List.mem_singleton] at hy
  rcases hy with hy | hy
  ·exact h.so y hy
  ·rw [hy]; exact hD
theorem W4.hold {st : St} {ex : Nat → Nat → Prop} (h : W4 st ex) (hd : Hd st) (l : Nat) (r : Int) : W4 (st.hold l r) ex := by
 intro i c u h1 h2 h3
 have e : (st.hold l r).trail.take (if c.tier = 0 then (st.hold l r).lk0 else (st.hold l r).lk1) = st.trail.take (if c.tier = 0 then st.lk0 else st.lk1) := by
  have := hd.l0
  have := hd.l1
  simp only [St.hold]
  rw [List.take_append_of_le_length (by split <;> omega)]
 rw [e] at h3
 rcases h i c u h1 h2 h3 with ⟨y, h4, h5⟩ | h4
 ·exact .inl ⟨y, h4, by simp only [St.hold]; exact List.mem_append_left _ h5⟩
 ·exact .inr h4
theorem Core.told {F : List (List Int)} {L A : Int → Prop} {b : Nat} {st : St} {W : Nat → Nat → List (Nat × Nat)} (h : Core F L A b st W) {ci : Nat} {c : BC} (hc : st.cls[ci]? = some c) {y : Nat} (hy : y ∈ c.l) (hm : ∀ m, m ∈ c.l → m ≠ y → oppN m ∈ st.trail) : Der F A (intL y) := by
 refine h.bk.unit (d := c.l.map intL) (List.mem_map.2 ⟨c, List.mem_of_getElem? hc, rfl⟩) (List.mem_map.2 ⟨y, hy, rfl⟩) (fun m h1 h2 => ?_)
 obtain ⟨z, hz, rfl⟩ := List.mem_map.1 h1
 rw [← intL_opp]
 exact h.so _ (hm z hz (fun e => h2 (by rw [e])))
theorem Wk.tell {F : List (List Int)} {L A : Int → Prop} {b : Nat} {st : St} {t l kept i : Nat} (h : Wk F L A b st t l kept i) {ci o o' : Nat} (he : (st.W t l)[i]? = some (ci, o)) {c : BC} (hc : st.cls[ci]? = some c) (ho : o' ∈ c.l) (h0 : st.held.getD o' 0 = 0) (hm : ∀ m, m ∈ c.l → m ≠ o' → oppN m ∈ st.trail) : Wk F L A b ((st.putW t l ((st.W t l).set kept (ci, o'))).hold o' (ci : Int)) t l (kept + 1) (i + 1) := by
 have hi := (List.getElem?_eq_some_iff.1 he).1
 obtain ⟨h1, h2⟩ := h.keep he hc ho
 have hV : o' < 2 * st.V := (h.co.wd.two ci c hc).2.2.1 o' ho
 have hcl := (List.getElem?_eq_some_iff.1 hc).1
 refine ⟨by have := h.k; omega, by simp only [St.hold, St.putW, putW_same, List.length_set]; exact hi, ?_, ?_, ?_, h.lV, h.tt⟩
 ·exact h1.hold hV h0 _ ⟨by omega, .inr (by show (ci : Int) < (st.cls.length : Int); omega)⟩ (h.co.told hc ho hm)
 ·exact (h2.hold h1.hd o' ci).done (c := c) hc ho (by simp [St.hold])
 ·simp only [St.hold, St.putW]; exact List.mem_append_left _ h.lf
end Go.Proofs.Ytefjicdhccfieaa
