import Derived.Test.YtllaedigdjhkjaaRfX
namespace Go.Proofs.Ytllaedigdjhkjaa
open Go.RowKit

/-- who watches what, while a list is gone through: what was kept, and what is to come -/
def vw (st : St) (t l kept i : Nat) : Nat → Nat → List (Nat × Nat) := Go.Proofs.Ytllaedigdjhkjaa.putW st.W t l ((st.W t l).take kept ++ (st.W t l).drop i)
/-- still to be gone through -/
def exW (st : St) (t l i : Nat) : Nat → Nat → Prop := fun j u => u = l ∧ ∃ o c, (j, o) ∈ (st.W t l).drop i ∧ st.cls[j]? = some c ∧ c.tier = t
structure Wk (F : List (List Int)) (L A : Int → Prop) (b : Nat) (st : St) (t l kept i : Nat) : Prop where
  k : kept ≤ i
  n : i ≤ (st.W t l).length
  co : Core F L A b st (vw st t l kept i)
  w4 : W4 st (exW st t l i)
  lf : oppN l ∈ st.trail
  lV : l < 2 * st.V
  tt : t < 2
/-- where the next one stands -/
theorem vw_at {st : St} {t l kept i : Nat} {e : Nat × Nat} (he : (st.W t l)[i]? = some e) : vw st t l kept i t l = (st.W t l).take kept ++ e :: (st.W t l).drop (i + 1) := by
  unfold vw
  rw [putW_same]
  have hi := (List.getElem?_eq_some_iff.1 he).1
  rw [List.drop_eq_getElem_cons hi]
  have : (st.W t l)[i] = e := by have := List.getElem?_eq_getElem hi; rw [he] at this; exact (Option.some.inj this).symm
  rw [this]
/-- the clause of the next one -/
theorem Wk.entry {F : List (List Int)} {L A : Int → Prop} {b : Nat} {st : St} {t l kept i : Nat} (h : Wk F L A b st t l kept i) {ci o : Nat} (he : (st.W t l)[i]? = some (ci, o)) : ∃ c, st.cls[ci]? = some c ∧ o ∈ c.l ∧ (c.tier = t → wt c l) ∧ (t = 0 → c.tier = 0) := h.co.wd.own t l ci o (by rw [vw_at he]; simp)
theorem W4.mono {st : St} {ex ex' : Nat → Nat → Prop} (h : W4 st ex) (hx : ∀ i u, ex i u → ex' i u) : W4 st ex' := fun i c u h1 h2 h3 => (h i c u h1 h2 h3).imp id (hx i u)
theorem drop_mem {α : Type} {xs : List α} {i : Nat} {e x : α} (he : xs[i]? = some e) (hx : x ∈ xs.drop i) : x = e ∨ x ∈ xs.drop (i + 1) := by
  have hi := (List.getElem?_eq_some_iff.1 he).1
  rw [List.drop_eq_getElem_cons hi] at hx
  rcases List.mem_cons.1 hx with h | h
  · left
    have := List.getElem?_eq_getElem hi
    rw [he] at this
    rw [h]; exact (Option.some.inj this).symm
  · exact .inr h
theorem Core.put {F : List (List Int)} {L A : Int → Prop} {b : Nat} {st : St} {W : Nat → Nat → List (Nat × Nat)} (h : Core F L A b st W) {W' : Nat → Nat → List (Nat × Nat)} (hw : Wd st.V st.cls W') : Core F L A b st W' := ⟨hw, h.hd, h.rs, h.bf, h.w5, h.bk, h.so⟩
/-- a clause that is near: its place in the list of those far off falls away -/
theorem Wk.skip {F : List (List Int)} {L A : Int → Prop} {b : Nat} {st : St} {t l kept i : Nat} (h : Wk F L A b st t l kept i) {ci o : Nat} (he : (st.W t l)[i]? = some (ci, o)) {c : BC} (hc : st.cls[ci]? = some c) (ht : c.tier ≠ t) : Wk F L A b st t l kept (i + 1) := by
  have hi := (List.getElem?_eq_some_iff.1 he).1
  refine ⟨by have := h.k; omega, hi, ?_, ?_, h.lf, h.lV, h.tt⟩
  · have h1 := h.co.wd.gone (vw_at he) hc ht
    have e : Go.Proofs.Ytllaedigdjhkjaa.putW (vw st t l kept i) t l ((st.W t l).take kept ++ (st.W t l).drop (i + 1)) = vw st t l kept (i + 1) := by
      unfold vw; rw [putW_twice]
    rw [e] at h1
    exact h.co.put h1
  · refine h.w4.mono (fun j u hx => ?_)
    obtain ⟨h1, o2, d, h2, h3, h4⟩ := hx
    rcases drop_mem he h2 with h5 | h5
    · cases h5
      rw [hc] at h3; cases h3
      exact absurd h4 ht
    · exact ⟨h1, o2, d, h5, h3, h4⟩
/-- what of a board a clause's data reach -/
theorem Core.turn {F : List (List Int)} {L A : Int → Prop} {b : Nat} {st : St} {W : Nat → Nat → List (Nat × Nat)} (h : Core F L A b st W) {i : Nat} {c : BC} (hc : st.cls[i]? = some c) {f : BC → BC} (hm : ∀ m, m ∈ c.l ↔ m ∈ (f c).l) (hw : ∀ u, wt (f c) u → wt c u ∨ oppN u ∉ st.trail) {W' : Nat → Nat → List (Nat × Nat)} (hwd : Wd st.V (st.cls.modify i f) W') : Core F L A b { st with cls := st.cls.modify i f } W' := by
  refine ⟨hwd, ⟨h.hd.heldL, h.hd.held, h.hd.tlt, h.hd.tnd, h.hd.cons, h.hd.l0, h.hd.l1⟩, fun r hr => ?_, h.bf, fun j d u hd hu hu2 => ?_, h.bk.like (like_mod hc hm).dof, h.so⟩
  · have := h.rs r hr
    simpa using this
  · rcases mod_get hd with ⟨rfl, d', hd', rfl⟩ | ⟨_, hd'⟩
    · rw [hc] at hd'; cases hd'
      rcases hw u hu with h1 | h1
      · obtain ⟨y, h2, h3⟩ := h.w5 j c u hc h1 hu2
        exact ⟨y, (hm y).1 h2, h3⟩
      · exact absurd (List.mem_of_mem_take hu2) h1
    · exact h.w5 j d u hd' hu hu2
theorem W4.turn {st : St} {ex : Nat → Nat → Prop} (h : W4 st ex) {i : Nat} {c : BC} (hc : st.cls[i]? = some c) {f : BC → BC} (hm : ∀ m, m ∈ c.l ↔ m ∈ (f c).l) (hw : ∀ u, wt (f c) u → wt c u ∨ oppN u ∉ st.trail) (ht : (f c).tier = c.tier) : W4 { st with cls := st.cls.modify i f } ex := by
  intro j d u hd hu hu2
  rcases mod_get hd with ⟨rfl, d', hd', rfl⟩ | ⟨_, hd'⟩
  · rw [hc] at hd'; cases hd'
    rcases hw u hu with h1 | h1
    · dsimp only at hu2
      rw [ht] at hu2
      rcases h j c u hc h1 hu2 with ⟨y, h2, h3⟩ | h2
      · exact .inl ⟨y, (hm y).1 h2, h3⟩
      · exact .inr h2
    · exact absurd (List.mem_of_mem_take hu2) h1
  · exact h j d u hd' hu hu2
theorem ex_turn {st : St} {t l i' : Nat} {i : Nat} {c : BC} (hc : st.cls[i]? = some c) {f : BC → BC} (ht : (f c).tier = c.tier) {j u : Nat} (h : exW st t l i' j u) : exW { st with cls := st.cls.modify i f } t l i' j u := by
  obtain ⟨h1, o, d, h2, h3, h4⟩ := h
  by_cases e : j = i
  · subst e
    rw [hc] at h3; cases h3
    exact ⟨h1, o, f c, h2, mod_same hc, by rw [ht]; exact h4⟩
  · exact ⟨h1, o, d, h2, by rw [mod_other e]; exact h3, h4⟩
/-- the first two of a clause change places -/
theorem Wk.swap {F : List (List Int)} {L A : Int → Prop} {b : Nat} {st : St} {t l kept i : Nat} (h : Wk F L A b st t l kept i) {ci : Nat} {c : BC} (hc : st.cls[ci]? = some c) : Wk F L A b (st.listAt ci (swp c.l 0 1)) t l kept i := by
  obtain ⟨q1, q2, q3, q4, q5, q6⟩ := h.co.wd.two ci c hc
  have hm := swp_mem c.l (i := 0) (j := 1) (by omega) (by omega)
  have hw : ∀ u, wt { c with l := swp c.l 0 1 } u ↔ wt c u := fun u => by
    have e0 := swp_get c.l (i := 0) (j := 1) (by omega) (by omega) 0
    have e1 := swp_get c.l (i := 0) (j := 1) (by omega) (by omega) 1
    simp [swI] at e0 e1
    unfold wt
    dsimp only
    rw [e0, e1]
    exact Or.comm
  have hf : ∀ u, wt { c with l := swp c.l 0 1 } u → wt c u ∨ oppN u ∉ st.trail := fun u hu => .inl ((hw u).1 hu)
  refine ⟨h.k, h.n, ?_, ?_, h.lf, h.lV, h.tt⟩
  · exact h.co.turn (f := fun d => { d with l := swp c.l 0 1 }) hc (fun m => (hm m).symm) hf (h.co.wd.turn hc (fun m => (hm m).symm) hw rfl (swp_nodup q2 (by omega) (by omega)) (swp_len _ _ _) ⟨q5, q6⟩)
  · exact (h.w4.turn (f := fun d => { d with l := swp c.l 0 1 }) hc (fun m => (hm m).symm) hf rfl).mono (fun j u hx => ex_turn hc rfl hx)
/-- where the search begins next time -/
theorem Wk.next {F : List (List Int)} {L A : Int → Prop} {b : Nat} {st : St} {t l kept i : Nat} (h : Wk F L A b st t l kept i) {ci k : Nat} {c : BC} (hc : st.cls[ci]? = some c) (hk : 2 ≤ k) (hk2 : k ≤ c.l.length) : Wk F L A b (st.nextAt ci k) t l kept i := by
  obtain ⟨q1, q2, q3, q4, q5, q6⟩ := h.co.wd.two ci c hc
  refine ⟨h.k, h.n, ?_, ?_, h.lf, h.lV, h.tt⟩
  · exact h.co.turn (f := fun d => { d with next := k }) hc (fun m => Iff.rfl) (fun u hu => .inl hu) (h.co.wd.turn hc (fun m => Iff.rfl) (fun u => Iff.rfl) rfl q2 rfl ⟨hk, hk2⟩)
  · exact (h.w4.turn (f := fun d => { d with next := k }) hc (fun m => Iff.rfl) (fun u hu => .inl hu) rfl).mono (fun j u hx => ex_turn hc rfl hx)
/-- the next one stays -/
theorem Wk.keep {F : List (List Int)} {L A : Int → Prop} {b : Nat} {st : St} {t l kept i : Nat} (h : Wk F L A b st t l kept i) {ci o o' : Nat} (he : (st.W t l)[i]? = some (ci, o)) {c : BC} (hc : st.cls[ci]? = some c) (ho : o' ∈ c.l) :
    Core F L A b (st.putW t l ((st.W t l).set kept (ci, o'))) (vw (st.putW t l ((st.W t l).set kept (ci, o'))) t l (kept + 1) (i + 1)) ∧ W4 (st.putW t l ((st.W t l).set kept (ci, o'))) (fun j u => exW (st.putW t l ((st.W t l).set kept (ci, o'))) t l (i + 1) j u ∨ j = ci) := by
  have hi := (List.getElem?_eq_some_iff.1 he).1
  have hk := h.k
  have eW : (st.putW t l ((st.W t l).set kept (ci, o'))).W t l = (st.W t l).set kept (ci, o') := by simp only [St.putW, putW_same]
  have ed : ((st.W t l).set kept (ci, o')).drop (i + 1) = (st.W t l).drop (i + 1) := by rw [List.drop_set_of_lt (by omega)]
  have et : ((st.W t l).set kept (ci, o')).take (kept + 1) = (st.W t l).take kept ++ [(ci, o')] := by
    rw [take_next _ kept (ci, o') (List.getElem?_set_self (by omega)), List.take_set_of_le (by omega)]
  have ev : vw (st.putW t l ((st.W t l).set kept (ci, o'))) t l (kept + 1) (i + 1) = Go.Proofs.Ytllaedigdjhkjaa.putW (vw st t l kept i) t l ((st.W t l).take kept ++ (ci, o') :: (st.W t l).drop (i + 1)) := by
    unfold vw
    rw [eW, ed, et]
    show Go.Proofs.Ytllaedigdjhkjaa.putW (Go.Proofs.Ytllaedigdjhkjaa.putW st.W t l _) t l _ = _
    rw [putW_twice, putW_twice]
    simp
  refine ⟨?_, ?_⟩
  · rw [ev]
    have := h.co.put (h.co.wd.stay (vw_at he) hc ho)
    exact ⟨this.wd, ⟨this.hd.heldL, this.hd.held, this.hd.tlt, this.hd.tnd, this.hd.cons, this.hd.l0, this.hd.l1⟩, this.rs, this.bf, this.w5, this.bk, this.so⟩
  · intro j d u h1 h2 h3
    rcases h.w4 j d u h1 h2 h3 with h4 | ⟨h4, o2, d2, h5, h6, h7⟩
    · exact .inl h4
    · rcases drop_mem he h5 with h8 | h8
      · cases h8; exact .inr (.inr rfl)
      · exact .inr (.inl ⟨h4, o2, d2, by rw [eW, ed]; exact h8, h6, h7⟩)
theorem W4.done {st : St} {ex : Nat → Nat → Prop} {ci : Nat} (h : W4 st (fun j u => ex j u ∨ j = ci)) {c : BC} (hc : st.cls[ci]? = some c) {y : Nat} (hy : y ∈ c.l) (ht : y ∈ st.trail) : W4 st ex := by
  intro j d u h1 h2 h3
  rcases h j d u h1 h2 h3 with h4 | h4 | h4
  · exact .inl h4
  · exact .inr h4
  · subst h4
    rw [hc] at h1; cases h1
    exact .inl ⟨y, hy, ht⟩
/-- the next one stays: its clause has a true literal -/
theorem Wk.kept' {F : List (List Int)} {L A : Int → Prop} {b : Nat} {st : St} {t l kept i : Nat} (h : Wk F L A b st t l kept i) {ci o o' : Nat} (he : (st.W t l)[i]? = some (ci, o)) {c : BC} (hc : st.cls[ci]? = some c) (ho : o' ∈ c.l) {y : Nat} (hy : y ∈ c.l) (ht : y ∈ st.trail) : Wk F L A b (st.putW t l ((st.W t l).set kept (ci, o'))) t l (kept + 1) (i + 1) := by
  have hi := (List.getElem?_eq_some_iff.1 he).1
  obtain ⟨h1, h2⟩ := h.keep he hc ho
  exact ⟨by have := h.k; omega, by simp only [St.putW, putW_same, List.length_set]; exact hi, h1, h2.done hc hy ht, h.lf, h.lV, h.tt⟩
/-- a clause is watched elsewhere -/
theorem Wk.move {F : List (List Int)} {L A : Int → Prop} {b : Nat} {st : St} {t l kept i : Nat} (h : Wk F L A b st t l kept i) {ci o o' x k : Nat} (he : (st.W t l)[i]? = some (ci, o)) {c : BC} (hc : st.cls[ci]? = some c) (ht : c.tier = t) (h1 : c.l[1]? = some l) (hk : 2 ≤ k) (hx : c.l[k]? = some x) (ho : o' ∈ c.l) (hp : 0 ≤ st.held.getD x 0) : Wk F L A b ((st.listAt ci (swp c.l 1 k)).addW t x (ci, o')) t l kept (i + 1) ∧ x ≠ l := by
  have hi := (List.getElem?_eq_some_iff.1 he).1
  obtain ⟨q1, q2, q3, q4, q5, q6⟩ := h.co.wd.two ci c hc
  have hkl : k < c.l.length := (List.getElem?_eq_some_iff.1 hx).1
  have h1l : 1 < c.l.length := by omega
  obtain ⟨m1, m2⟩ := h.co.wd.move (vw_at he) hc ht h1 hk hx ho (fun e => by rw [ht]; exact e)
  have hm := swp_mem c.l h1l hkl
  have hxV : x < 2 * st.V := q3 x (List.mem_of_getElem? hx)
  have hxt : oppN x ∉ st.trail := fun hh => by have := (h.co.hd.neg hxV).2 hh; omega
  have hf : ∀ u, wt { c with l := swp c.l 1 k } u → wt c u ∨ oppN u ∉ st.trail := fun u hu => by
    rcases hu with hu | hu
    · dsimp only at hu
      rw [swp_get _ h1l hkl] at hu
      simp only [swI] at hu
      rw [if_neg (by omega), if_neg (by omega)] at hu
      exact .inl (.inl hu)
    · dsimp only at hu
      rw [swp_get _ h1l hkl] at hu
      simp only [swI] at hu
      rw [if_neg (by omega)] at hu
      simp at hu
      rw [hx] at hu; cases hu
      exact .inr hxt
  have em : st.cls.modify ci (fun d => { d with l := swp c.l 1 k }) = st.cls.modify ci (fun d => { d with l := swp d.l 1 k }) := by
    apply List.ext_getElem?
    intro j
    rw [List.getElem?_modify, List.getElem?_modify]
    by_cases e : ci = j
    · subst e; rw [hc]; simp
    · cases st.cls[j]? <;> simp [e]
  have eW : ((st.listAt ci (swp c.l 1 k)).addW t x (ci, o')).W t l = st.W t l := by
    simp only [St.addW, addW, St.listAt]
    rw [if_neg (by rintro ⟨_, e⟩; exact m2 e.symm)]
  have ev : vw ((st.listAt ci (swp c.l 1 k)).addW t x (ci, o')) t l kept (i + 1) = addW (Go.Proofs.Ytllaedigdjhkjaa.putW (vw st t l kept i) t l ((st.W t l).take kept ++ (st.W t l).drop (i + 1))) t x (ci, o') := by
    unfold vw
    rw [eW, putW_twice]
    funext t' l'
    simp only [St.addW, St.listAt]
    by_cases e1 : t' = t ∧ l' = l
    · obtain ⟨rfl, rfl⟩ := e1
      rw [putW_same]
      simp only [addW]
      rw [if_neg (by rintro ⟨_, e⟩; exact m2 e.symm), putW_same]
    · rw [putW_other _ _ e1]
      simp only [addW]
      by_cases e2 : t' = t ∧ l' = x
      · rw [if_pos e2, if_pos e2, putW_other _ _ (by rintro ⟨_, e⟩; exact m2 e)]
      · rw [if_neg e2, if_neg e2, putW_other _ _ e1]
  have hc1 := h.co.turn (f := fun d => { d with l := swp c.l 1 k }) hc (fun m => (hm m).symm) hf (by rw [em]; exact m1)
  have hw4 := (h.w4.turn (f := fun d => { d with l := swp c.l 1 k }) hc (fun m => (hm m).symm) hf rfl)
  refine ⟨⟨by have := h.k; omega, by rw [eW]; exact hi, ?_, ?_, h.lf, h.lV, h.tt⟩, m2⟩
  · rw [ev]
    exact ⟨hc1.wd, ⟨hc1.hd.heldL, hc1.hd.held, hc1.hd.tlt, hc1.hd.tnd, hc1.hd.cons, hc1.hd.l0, hc1.hd.l1⟩, hc1.rs, hc1.bf, hc1.w5, hc1.bk, hc1.so⟩
  · intro j d u h2 h3 h4
    rcases hw4 j d u h2 h3 h4 with h5 | h5
    · exact .inl h5
    · obtain ⟨h6, o2, d2, h7, h8, h9⟩ := h5
      rcases drop_mem he h7 with h10 | h10
      · cases h10
        exfalso
        subst h6
        have hd2 : d = { c with l := swp c.l 1 k } := by
          have := mod_same (f := fun d => { d with l := swp c.l 1 k }) hc
          rw [show ((st.listAt ci (swp c.l 1 k)).addW t x (ci, o')).cls = st.cls.modify ci (fun d => { d with l := swp c.l 1 k }) from rfl, this] at h2
          exact (Option.some.inj h2).symm
        subst hd2
        have hl0 : ∀ z, c.l[0]? = some z → z ≠ u := fun z hz e => by subst e; have := nodup_get q2 hz h1; omega
        rcases h3 with h3 | h3
        · dsimp only at h3
          rw [swp_get _ h1l hkl] at h3
          simp only [swI] at h3
          rw [if_neg (by omega), if_neg (by omega)] at h3
          exact hl0 u h3 rfl
        · dsimp only at h3
          rw [swp_get _ h1l hkl] at h3
          simp only [swI] at h3
          rw [if_neg (by omega)] at h3
          simp at h3
          rw [hx] at h3; cases h3
          exact m2 rfl
      · refine .inr ⟨h6, o2, ?_⟩
        rw [eW]
        by_cases e : j = ci
        · subst e
          rw [hc] at h8; cases h8
          exact ⟨_, h10, mod_same hc, ht⟩
        · exact ⟨d2, h10, by show (st.cls.modify ci _)[j]? = _; rw [mod_other e]; exact h8, h9⟩
/-- a literal that a clause tells is held -/
theorem Core.hold {F : List (List Int)} {L A : Int → Prop} {b : Nat} {st : St} {W : Nat → Nat → List (Nat × Nat)} (h : Core F L A b st W) {l : Nat} (hl : l < 2 * st.V) (h0 : st.held.getD l 0 = 0) (r : Int) (hr : -1 ≤ r ∧ (r < 1 ∨ r < (st.cls.length : Int))) (hD : Der F A (intL l)) : Core F L A b (st.hold l r) W := by
  have hb := h.bf
  refine ⟨h.wd, h.hd.hold hl h0 r, fun q hq => ?_, by simp [St.hold]; omega, ?_, h.bk, fun y hy => ?_⟩
  · simp only [St.hold] at hq
    rcases List.mem_or_eq_of_mem_set hq with h1 | h1
    · exact h.rs q h1
    · rw [h1]; exact hr
  · have e : (st.hold l r).trail.take b = st.trail.take b := by simp only [St.hold]; rw [List.take_append_of_le_length hb]
    rw [e]; exact h.w5
  · simp only [St.hold, List.mem_append, List.mem_singleton] at hy
    rcases hy with hy | hy
    · exact h.so y hy
    · rw [hy]; exact hD
theorem W4.hold {st : St} {ex : Nat → Nat → Prop} (h : W4 st ex) (hd : Hd st) (l : Nat) (r : Int) : W4 (st.hold l r) ex := by
  intro i c u h1 h2 h3
  have e : (st.hold l r).trail.take (if c.tier = 0 then (st.hold l r).lk0 else (st.hold l r).lk1) = st.trail.take (if c.tier = 0 then st.lk0 else st.lk1) := by
    have := hd.l0
    have := hd.l1
    simp only [St.hold]
    rw [List.take_append_of_le_length (by split <;> omega)]
  rw [e] at h3
  rcases h i c u h1 h2 h3 with ⟨y, h4, h5⟩ | h4
  · exact .inl ⟨y, h4, by simp only [St.hold]; exact List.mem_append_left _ h5⟩
  · exact .inr h4
/-- a clause that is told by all others being false -/
theorem Core.told {F : List (List Int)} {L A : Int → Prop} {b : Nat} {st : St} {W : Nat → Nat → List (Nat × Nat)} (h : Core F L A b st W) {ci : Nat} {c : BC} (hc : st.cls[ci]? = some c) {y : Nat} (hy : y ∈ c.l) (hm : ∀ m, m ∈ c.l → m ≠ y → oppN m ∈ st.trail) : Der F A (intL y) := by
  refine h.bk.unit (d := c.l.map intL) (List.mem_map.2 ⟨c, List.mem_of_getElem? hc, rfl⟩) (List.mem_map.2 ⟨y, hy, rfl⟩) (fun m h1 h2 => ?_)
  obtain ⟨z, hz, rfl⟩ := List.mem_map.1 h1
  rw [← intL_opp]
  exact h.so _ (hm z hz (fun e => h2 (by rw [e])))
/-- the next one stays, and tells a literal -/
theorem Wk.tell {F : List (List Int)} {L A : Int → Prop} {b : Nat} {st : St} {t l kept i : Nat} (h : Wk F L A b st t l kept i) {ci o o' : Nat} (he : (st.W t l)[i]? = some (ci, o)) {c : BC} (hc : st.cls[ci]? = some c) (ho : o' ∈ c.l) (h0 : st.held.getD o' 0 = 0) (hm : ∀ m, m ∈ c.l → m ≠ o' → oppN m ∈ st.trail) : Wk F L A b ((st.putW t l ((st.W t l).set kept (ci, o'))).hold o' (ci : Int)) t l (kept + 1) (i + 1) := by
  have hi := (List.getElem?_eq_some_iff.1 he).1
  obtain ⟨h1, h2⟩ := h.keep he hc ho
  have hV : o' < 2 * st.V := (h.co.wd.two ci c hc).2.2.1 o' ho
  have hcl := (List.getElem?_eq_some_iff.1 hc).1
  refine ⟨by have := h.k; omega, by simp only [St.hold, St.putW, putW_same, List.length_set]; exact hi, ?_, ?_, ?_, h.lV, h.tt⟩
  · exact h1.hold hV h0 _ ⟨by omega, .inr (by show (ci : Int) < (st.cls.length : Int); omega)⟩ (h.co.told hc ho hm)
  · exact (h2.hold h1.hd o' ci).done (c := c) hc ho (by simp [St.hold])
  · simp only [St.hold, St.putW]; exact List.mem_append_left _ h.lf

end Go.Proofs.Ytllaedigdjhkjaa
