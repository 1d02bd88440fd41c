import Derived.Test.YtllaedigdjhkjaaRgG
namespace Go.Proofs.Ytllaedigdjhkjaa
open Go.RowKit

/-- what of a board stays, when clauses are called near -/
structure UseR (st st' : St) : Prop where
  V : st'.V = st.V
  held : st'.held = st.held
  reason : st'.reason = st.reason
  trail : st'.trail = st.trail
  lk0 : st'.lk0 = st.lk0
  lk1 : st'.lk1 = st.lk1
  done : st'.done = st.done
  round : st'.round = st.round
  steps : st'.steps = st.steps
  ls : st'.cls.map BC.l = st.cls.map BC.l
  rd : (∀ c, c ∈ st.cls → c.round ≤ st.round) → ∀ c, c ∈ st'.cls → c.round ≤ st'.round
  wd : Wd st.V st.cls st.W → Wd st'.V st'.cls st'.W
theorem UseR.refl (st : St) : UseR st st := ⟨rfl, rfl, rfl, rfl, rfl, rfl, rfl, rfl, rfl, rfl, id, id⟩
theorem UseR.trans {a b c : St} (h : UseR a b) (k : UseR b c) : UseR a c := ⟨k.V.trans h.V, k.held.trans h.held, k.reason.trans h.reason, k.trail.trans h.trail, k.lk0.trans h.lk0, k.lk1.trans h.lk1, k.done.trans h.done, k.round.trans h.round, k.steps.trans h.steps, k.ls.trans h.ls, fun x => k.rd (h.rd x), fun x => k.wd (h.wd x)⟩
theorem UseR.len {a b : St} (h : UseR a b) : b.cls.length = a.cls.length := by have := congrArg List.length h.ls; simpa using this
theorem UseR.get {a b : St} (h : UseR a b) {i : Nat} {c : BC} (hc : b.cls[i]? = some c) : ∃ d, a.cls[i]? = some d ∧ d.l = c.l := by
  have h1 : (b.cls.map BC.l)[i]? = some c.l := by rw [List.getElem?_map, hc]; rfl
  rw [h.ls, List.getElem?_map] at h1
  cases hd : a.cls[i]? with
  | none => rw [hd] at h1; cases h1
  | some d => rw [hd] at h1; exact ⟨d, rfl, by simpa using h1⟩
theorem UseR.core {F : List (List Int)} {L A : Int → Prop} {b : Nat} {st st' : St} (h : UseR st st') (hc : Core F L A b st st.W) : Core F L A b st' st'.W := by
  refine ⟨h.wd hc.wd, ⟨?_, ?_, ?_, ?_, ?_, ?_, ?_⟩, ?_, ?_, ?_, ?_, ?_⟩
  · rw [h.held, h.V]; exact hc.hd.heldL
  · rw [h.held, h.V, h.trail]; exact hc.hd.held
  · rw [h.V, h.trail]; exact hc.hd.tlt
  · rw [h.trail]; exact hc.hd.tnd
  · rw [h.trail]; exact hc.hd.cons
  · rw [h.lk0, h.trail]; exact hc.hd.l0
  · rw [h.lk1, h.trail]; exact hc.hd.l1
  · rw [h.reason, h.len]; exact hc.rs
  · rw [h.trail]; exact hc.bf
  · rw [h.trail]
    intro i c u h1 h2 h3
    obtain ⟨d, h4, h5⟩ := h.get h1
    obtain ⟨y, h6, h7⟩ := hc.w5 i d u h4 (by unfold wt at h2 ⊢; rw [h5]; exact h2) h3
    exact ⟨y, by rw [← h5]; exact h6, h7⟩
  · have e : Dof st'.cls = Dof st.cls := by
      have := congrArg (List.map (List.map intL)) h.ls
      rw [List.map_map, List.map_map] at this
      exact this
    rw [e]; exact hc.bk
  · rw [h.trail]; exact hc.so
theorem map_mod_l (cls : List BC) (i : Nat) (f : BC → BC) (hf : ∀ c, (f c).l = c.l) : (cls.modify i f).map BC.l = cls.map BC.l := by
  apply List.ext_getElem?
  intro j
  rw [List.getElem?_map, List.getElem?_map, List.getElem?_modify]
  cases cls[j]? with
  | none => rfl
  | some c => by_cases e : i = j <;> simp [e, hf]
theorem mem_mod {cls : List BC} {i : Nat} {f : BC → BC} {c : BC} (h : c ∈ cls.modify i f) : ∃ d, d ∈ cls ∧ (c = d ∨ c = f d) := by
  obtain ⟨j, hj⟩ := List.getElem?_of_mem h
  rcases mod_get hj with ⟨_, d, hd, rfl⟩ | ⟨_, hd⟩
  · exact ⟨d, List.mem_of_getElem? hd, .inr rfl⟩
  · exact ⟨c, List.mem_of_getElem? hd, .inl rfl⟩
theorem UseR.roundAt (st : St) (i : Nat) : UseR st (st.roundAt i st.round) := by
  refine ⟨rfl, rfl, rfl, rfl, rfl, rfl, rfl, rfl, rfl, map_mod_l _ _ _ (fun _ => rfl), fun h c hc => ?_, fun h => ?_⟩
  · obtain ⟨d, hd, rfl | rfl⟩ := mem_mod hc
    · exact h _ hd
    · exact Nat.le_refl _
  · by_cases hi : i < st.cls.length
    · obtain ⟨c, hc⟩ := getElem_lt hi
      obtain ⟨q1, q2, q3, q4, q5, q6⟩ := h.two i c hc
      exact h.turn (f := fun c => { c with round := st.round }) hc (fun m => Iff.rfl) (fun u => Iff.rfl) rfl q2 rfl ⟨q5, q6⟩
    · have : st.cls.modify i (fun c => { c with round := st.round }) = st.cls := by
        apply List.ext_getElem?
        intro j
        rw [List.getElem?_modify]
        cases hj : st.cls[j]? with
        | none => rfl
        | some c =>
          have := (List.getElem?_eq_some_iff.1 hj).1
          have e : ¬ i = j := by omega
          simp [e]
      show Wd st.V (st.cls.modify i (fun c => { c with round := st.round })) st.W
      rw [this]; exact h
theorem UseR.used (st : St) (u : List Bool) : UseR st { st with used := u } := ⟨rfl, rfl, rfl, rfl, rfl, rfl, rfl, rfl, rfl, rfl, id, id⟩
theorem useL_eq (st : St) (ls : List Nat) : st.useL ls = { st with used := (st.useL ls).used } := by
  unfold St.useL
  induction ls generalizing st with
  | nil => rfl
  | cons a r ih => rw [List.foldl_cons, ih]; rfl
theorem useL_len (st : St) (ls : List Nat) : (st.useL ls).used.length = st.used.length := by
  unfold St.useL
  induction ls generalizing st with
  | nil => rfl
  | cons a r ih => rw [List.foldl_cons, ih]; simp [St.useV]
theorem Link.usedTo {sl : Site → Slot} {st : St} (h : Link sl st) (u : List Bool) (hu : u.length = st.used.length) : Link (setS sl .used ⟨(sl .used).v, (sl .used).n, boolV u⟩) { st with used := u } := by
  refine ⟨h.hV, ?_, h.heldL, ?_, h.reasonL, ?_, by rw [hu]; exact h.usedL, ?_, ?_, ?_, ?_, ?_, ?_⟩
  · simpa [setS] using h.held
  · simpa [setS] using h.reason
  · rw [setS_same]; exact ⟨h.used.1, rfl⟩
  · simpa [setS] using h.trail
  · simpa [setS] using h.clsN
  · intro j c hc
    simpa [setS] using h.cls j c hc
  · intro j c hc
    simpa [setS] using h.lits j c hc
  · intro t ht
    simpa [setS] using h.row t ht
  · intro t l' ht hl
    simpa [setS] using h.wl t l' ht hl
/-- a clause that is not of this tier is watched in it -/
theorem Wd.watch {V : Nat} {cls : List BC} {W : Nat → Nat → List (Nat × Nat)} {i t l0 l1 : Nat} {c : BC} (hc : cls[i]? = some c) (htt : t < 2) (h0 : c.l[0]? = some l0) (h1 : c.l[1]? = some l1) (hne : l0 ≠ l1)
    (two : ∀ (j : Nat) (d : BC), cls[j]? = some d → 2 ≤ d.l.length ∧ d.l.Nodup ∧ (∀ x, x ∈ d.l → x < 2 * V) ∧ d.tier < 2 ∧ 2 ≤ d.next ∧ d.next ≤ d.l.length)
    (has : ∀ (j : Nat) (d : BC) (u : Nat), j ≠ i → cls[j]? = some d → wt d u → (∃ o, (j, o) ∈ W d.tier u) ∨ i < j)
    (own : ∀ t' l j o, (j, o) ∈ W t' l → ∃ d, cls[j]? = some d ∧ o ∈ d.l ∧ (d.tier = t' → wt d l) ∧ (t' = 0 → d.tier = 0))
    (nd : ∀ t' l, ((W t' l).map (·.1)).Nodup) (no : ∀ l o, (i, o) ∉ W t l) (no0 : t ≠ 0 → ∀ l o, (i, o) ∉ W 0 l) :
    (∀ (j : Nat) (d : BC), (cls.modify i fun c => { c with tier := t })[j]? = some d → 2 ≤ d.l.length ∧ d.l.Nodup ∧ (∀ x, x ∈ d.l → x < 2 * V) ∧ d.tier < 2 ∧ 2 ≤ d.next ∧ d.next ≤ d.l.length) ∧
    (∀ (j : Nat) (d : BC) (u : Nat), (cls.modify i fun c => { c with tier := t })[j]? = some d → wt d u → (∃ o, (j, o) ∈ addW (addW W t l0 (i, l1)) t l1 (i, l0) d.tier u) ∨ i < j) ∧
    (∀ t' l j o, (j, o) ∈ addW (addW W t l0 (i, l1)) t l1 (i, l0) t' l → ∃ d, (cls.modify i fun c => { c with tier := t })[j]? = some d ∧ o ∈ d.l ∧ (d.tier = t' → wt d l) ∧ (t' = 0 → d.tier = 0)) ∧
    (∀ t' l, ((addW (addW W t l0 (i, l1)) t l1 (i, l0) t' l).map (·.1)).Nodup) ∧
    (∀ t' l j o, (j, o) ∈ addW (addW W t l0 (i, l1)) t l1 (i, l0) t' l → (j, o) ∈ W t' l ∨ j = i) := by
  have addM : ∀ t' l e, e ∈ addW (addW W t l0 (i, l1)) t l1 (i, l0) t' l → e ∈ W t' l ∨ (t' = t ∧ l = l0 ∧ e = (i, l1)) ∨ (t' = t ∧ l = l1 ∧ e = (i, l0)) := fun t' l e he => by
    unfold addW at he
    by_cases e1 : t' = t ∧ l = l1
    · rw [if_pos e1, if_neg (by rintro ⟨_, h⟩; exact hne h.symm)] at he
      rcases List.mem_append.1 he with h | h
      · exact .inl (by rw [e1.1, e1.2]; exact h)
      · exact .inr (.inr ⟨e1.1, e1.2, List.mem_singleton.1 h⟩)
    · rw [if_neg e1] at he
      by_cases e2 : t' = t ∧ l = l0
      · rw [if_pos e2] at he
        rcases List.mem_append.1 he with h | h
        · exact .inl (by rw [e2.1, e2.2]; exact h)
        · exact .inr (.inl ⟨e2.1, e2.2, List.mem_singleton.1 h⟩)
      · rw [if_neg e2] at he; exact .inl he
  have keepM : ∀ t' l e, e ∈ W t' l → e ∈ addW (addW W t l0 (i, l1)) t l1 (i, l0) t' l := fun t' l e he => by
    unfold addW
    by_cases e1 : t' = t ∧ l = l1
    · rw [if_pos e1, if_neg (by rintro ⟨_, h⟩; exact hne h.symm)]
      rw [e1.1, e1.2] at he; exact List.mem_append_left _ he
    · rw [if_neg e1]
      by_cases e2 : t' = t ∧ l = l0
      · rw [if_pos e2]; rw [e2.1, e2.2] at he; exact List.mem_append_left _ he
      · rw [if_neg e2]; exact he
  have n0 : (i, l1) ∈ addW (addW W t l0 (i, l1)) t l1 (i, l0) t l0 := by
    unfold addW
    rw [if_neg (by rintro ⟨_, h⟩; exact hne h), if_pos ⟨rfl, rfl⟩]; simp
  have n1 : (i, l0) ∈ addW (addW W t l0 (i, l1)) t l1 (i, l0) t l1 := by
    unfold addW
    rw [if_pos ⟨rfl, rfl⟩]; simp
  refine ⟨fun j d hd => ?_, fun j d u hd hu => ?_, fun t' l j o he => ?_, fun t' l => ?_, fun t' l j o he => ?_⟩
  · rcases mod_get hd with ⟨rfl, d', hd', rfl⟩ | ⟨_, hd'⟩
    · obtain ⟨q1, q2, q3, q4, q5, q6⟩ := two j d' hd'
      exact ⟨q1, q2, q3, htt, q5, q6⟩
    · exact two j d hd'
  · rcases mod_get hd with ⟨rfl, d', hd', rfl⟩ | ⟨hji, hd'⟩
    · rw [hc] at hd'; cases hd'
      left
      rcases hu with hu | hu
      · dsimp only at hu
        rw [h0] at hu; cases hu
        exact ⟨l1, n0⟩
      · dsimp only at hu
        rw [h1] at hu; cases hu
        exact ⟨l0, n1⟩
    · rcases has j d u hji hd' hu with ⟨o, ho⟩ | ho
      · exact .inl ⟨o, keepM _ _ _ ho⟩
      · exact .inr ho
  · rcases addM t' l _ he with h | ⟨rfl, rfl, h⟩ | ⟨rfl, rfl, h⟩
    · obtain ⟨d, hd, h2, h3, h4⟩ := own t' l j o h
      by_cases e : j = i
      · subst e
        rw [hc] at hd; cases hd
        refine ⟨_, mod_same hc, h2, fun e2 => ?_, fun e2 => ?_⟩
        · have e3 : t = t' := e2
          subst e3
          exact absurd h (no l o)
        · subst e2
          show t = 0
          by_cases e4 : t = 0
          · exact e4
          · exact absurd h (no0 e4 l o)
      · exact ⟨d, by rw [mod_other e]; exact hd, h2, h3, h4⟩
    · cases h
      exact ⟨_, mod_same hc, List.mem_of_getElem? h1, fun _ => .inl h0, fun e => e⟩
    · cases h
      exact ⟨_, mod_same hc, List.mem_of_getElem? h0, fun _ => .inr h1, fun e => e⟩
  · unfold addW
    by_cases e1 : t' = t ∧ l = l1
    · rw [if_pos e1, if_neg (by rintro ⟨_, h⟩; exact hne h.symm), List.map_append]
      refine List.nodup_append.2 ⟨nd t l1, by simp, fun y hy z hz e2 => ?_⟩
      simp only [List.map_cons, List.map_nil, List.mem_singleton] at hz
      subst hz
      obtain ⟨⟨j, o⟩, h2, h3⟩ := List.mem_map.1 hy
      dsimp only at h3
      rw [h3, e2] at h2
      exact no l1 o h2
    · rw [if_neg e1]
      by_cases e2 : t' = t ∧ l = l0
      · rw [if_pos e2, List.map_append]
        refine List.nodup_append.2 ⟨nd t l0, by simp, fun y hy z hz e3 => ?_⟩
        simp only [List.map_cons, List.map_nil, List.mem_singleton] at hz
        subst hz
        obtain ⟨⟨j, o⟩, h2, h3⟩ := List.mem_map.1 hy
        dsimp only at h3
        rw [h3, e3] at h2
        exact no l0 o h2
      · rw [if_neg e2]; exact nd t' l
  · rcases addM t' l _ he with h | ⟨_, _, h⟩ | ⟨_, _, h⟩
    · exact .inl h
    · cases h; exact .inr rfl
    · cases h; exact .inr rfl
/-- a clause far off is called near -/
theorem UseR.near {st : St} {i : Nat} {c : BC} (hc : st.cls[i]? = some c) (ht : c.tier = 1) {l0 l1 : Nat} (h0 : c.l[0]? = some l0) (h1 : c.l[1]? = some l1) (hne : l0 ≠ l1) : UseR st (((st.tierAt i 0).addW 0 l0 (i, l1)).addW 0 l1 (i, l0)) := by
  refine ⟨rfl, rfl, rfl, rfl, rfl, rfl, rfl, rfl, rfl, map_mod_l _ _ _ (fun _ => rfl), fun h d hd => ?_, fun h => ?_⟩
  · obtain ⟨d', hd', rfl | rfl⟩ := mem_mod hd
    · exact h _ hd'
    · exact h d' hd'
  · have no : ∀ l o, (i, o) ∉ st.W 0 l := fun l o hm => by
      obtain ⟨d, hd, _, _, h4⟩ := h.own 0 l i o hm
      rw [hc] at hd; cases hd
      have := h4 rfl
      omega
    obtain ⟨a1, a2, a3, a4, a5⟩ := Wd.watch (W := st.W) hc (by decide) h0 h1 hne h.two (fun j d u _ hd hu => .inl (h.has j d u hd hu)) h.own h.nd no (fun e => absurd rfl e)
    refine ⟨a1, fun j d u hd hu => ?_, a3, a4⟩
    rcases mod_get hd with ⟨rfl, d', hd', rfl⟩ | ⟨hji, hd'⟩
    · rcases a2 j _ u hd hu with h5 | h5
      · exact h5
      · omega
    · obtain ⟨o, ho⟩ := h.has j d u hd' hu
      refine ⟨o, ?_⟩
      show (j, o) ∈ addW (addW st.W 0 l0 (i, l1)) 0 l1 (i, l0) d.tier u
      unfold addW
      by_cases e1 : d.tier = 0 ∧ u = l1
      · rw [if_pos e1, if_neg (by rintro ⟨_, h⟩; exact hne h.symm)]
        rw [e1.1, e1.2] at ho; exact List.mem_append_left _ ho
      · rw [if_neg e1]
        by_cases e2 : d.tier = 0 ∧ u = l0
        · rw [if_pos e2]; rw [e2.1, e2.2] at ho; exact List.mem_append_left _ ho
        · rw [if_neg e2]; exact ho

end Go.Proofs.Ytllaedigdjhkjaa
