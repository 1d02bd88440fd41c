import Derived.Test.YtllaedigdjhkjaaRhA
namespace Go.Proofs.Ytllaedigdjhkjaa
open Go.RowKit

theorem fol_der {F : List (List Int)} {c : List Int} {n : Int} (hn : n ∈ c) (h : Der F (fun l => -l ∈ c) n) : Fol F c := by
  cases h with
  | asm h => exact .inl ⟨n, hn, h⟩
  | unit h1 h2 h3 =>
    refine .inr ⟨_, h1, fun m hm => ?_⟩
    by_cases e : m = n
    · subst e; exact .asm (by rw [Int.neg_neg]; exact hn)
    · exact h3 m hm e
theorem tl_cons {st : St} (h : Hd st) : Cons (Tl st.trail) := by
  rintro l ⟨y, hy, rfl⟩ ⟨z, hz, e⟩
  rw [← intL_opp] at e
  rw [intL_inj e] at hz
  exact h.cons y hy hz
theorem tl_opp {T : List Nat} {u : Nat} (h : Tl T (-intL u)) : oppN u ∈ T := by
  obtain ⟨z, hz, e⟩ := h
  rw [← intL_opp] at e
  rw [← intL_inj e]; exact hz
/-- when nothing more is to be told, and no clause has nothing left: it doesn't follow -/
theorem not_fol {F : List (List Int)} {L : Int → Prop} {b : Nat} {st : St} {c : List Int} (hc : Core F L (fun l => -l ∈ c) b st st.W) (h4 : W4 st (fun _ _ => False)) (h0 : st.lk0 = st.trail.length) (h1 : st.lk1 = st.trail.length) (hL : ∀ l, L l → Tl st.trail l) (hcn : ∀ n, n ∈ c → n ≠ 0) (hA : ∀ n, n ∈ c → oppN (litN n) ∈ st.trail) : ¬ Fol F c := by
  have hcons := tl_cons hc.hd
  have hS : ∀ n, n ∈ c → Tl st.trail (-n) := fun n hn => ⟨_, hA n hn, by rw [intL_opp, intL_lit (hcn n hn)]⟩
  rintro (⟨l, h2, h3⟩ | h2)
  · have := hS _ h3
    rw [Int.neg_neg] at this
    exact hcons l this (hS l h2)
  · refine rests_quiet hc.bk hL (fun l hl => ?_) hcons (fun d hd => ?_) h2
    · have := hS _ hl
      rw [Int.neg_neg] at this
      exact this
    · obtain ⟨c', hc', rfl⟩ := List.mem_map.1 hd
      obtain ⟨i, hi⟩ := List.getElem?_of_mem hc'
      obtain ⟨q1, q2, q3, q4, q5, q6⟩ := hc.wd.two i c' hi
      obtain ⟨u0, hu0⟩ := getElem_lt (show 0 < c'.l.length by omega)
      obtain ⟨u1, hu1⟩ := getElem_lt (show 1 < c'.l.length by omega)
      have hne : u0 ≠ u1 := fun e => by subst e; have := nodup_get q2 hu0 hu1; omega
      have key : ∀ u, wt c' u → oppN u ∈ st.trail → Rests (Tl st.trail) (c'.l.map intL) := fun u hw hu => by
        rcases h4 i c' u hi hw (by rw [h0, h1]; split <;> (rw [List.take_length]; exact hu)) with ⟨y, hy, ht⟩ | h
        · exact .inl ⟨intL y, List.mem_map.2 ⟨y, hy, rfl⟩, y, ht, rfl⟩
        · exact h.elim
      by_cases e0 : oppN u0 ∈ st.trail
      · exact key u0 (.inl hu0) e0
      · by_cases e1 : oppN u1 ∈ st.trail
        · exact key u1 (.inr hu1) e1
        · exact .inr ⟨intL u0, intL u1, List.mem_map.2 ⟨u0, List.mem_of_getElem? hu0, rfl⟩, List.mem_map.2 ⟨u1, List.mem_of_getElem? hu1, rfl⟩, fun e => hne (intL_inj e), fun h => e0 (tl_opp h), fun h => e1 (tl_opp h)⟩
/-- the board on the way through a clause that is asked of -/
structure FolI (F : List (List Int)) (st0 : St) (c : List Int) (k : Nat) (st : St) : Prop where
  co : Core F (Tl st0.trail) (fun l => -l ∈ c) st0.trail.length st st.W
  w4 : W4 st (fun _ _ => False)
  wn : WnP st0 st
  all : ∀ n, n ∈ c.take k → oppN (litN n) ∈ st.trail
theorem FolI.zero {F : List (List Int)} {st : St} (h : Rest F st) (c : List Int) : FolI F st c 0 st := ⟨h.core _, h.w4, WnP.refl st, fun n hn => by simp at hn⟩
/-- one that is false already -/
theorem FolI.skip {F : List (List Int)} {st0 st : St} {c : List Int} {k : Nat} (h : FolI F st0 c k st) {n : Int} (hk : c[k]? = some n) (h0 : n ≠ 0) (hn : n.natAbs ≤ st.V) (hneg : st.held.getD (litN n) 0 < 0) : FolI F st0 c (k + 1) st := by
  refine ⟨h.co, h.w4, h.wn, fun m hm => ?_⟩
  rw [take_next c k n hk] at hm
  rcases List.mem_append.1 hm with hm | hm
  · exact h.all m hm
  · rw [List.mem_singleton.1 hm]
    exact (h.co.hd.neg (litN_lt h0 hn)).1 hneg
/-- one that is held for false from now on -/
theorem FolI.next {F : List (List Int)} {st0 st : St} {c : List Int} {k : Nat} (h : FolI F st0 c k st) {n : Int} (hk : c[k]? = some n) (h0 : n ≠ 0) (hn : n.natAbs ≤ st.V) (hz : st.held.getD (litN n) 0 = 0) : FolI F st0 c (k + 1) (st.hold (oppN (litN n)) (-1)) := by
  have hV := litN_lt h0 hn
  have hz2 : st.held.getD (oppN (litN n)) 0 = 0 := by rw [h.co.hd.even _ hV, hz]; rfl
  have hA : Der F (fun l => -l ∈ c) (intL (oppN (litN n))) := by
    rw [intL_opp, intL_lit h0]
    exact .asm (by rw [Int.neg_neg]; exact List.mem_of_getElem? hk)
  refine ⟨h.co.hold (oppN_lt hV) hz2 (-1) ⟨by omega, .inl (by omega)⟩ hA, h.w4.hold h.co.hd _ (-1), h.wn.trans (WnR.hold _ _ _).p, fun m hm => ?_⟩
  rw [take_next c k n hk] at hm
  simp only [St.hold]
  rcases List.mem_append.1 hm with hm | hm
  · exact List.mem_append_left _ (h.all m hm)
  · rw [List.mem_singleton.1 hm]; simp
theorem WnP.take {st st' : St} (h : WnP st st') : st'.trail.take st.trail.length = st.trail := by
  obtain ⟨e, he⟩ := h.tr
  rw [he, List.take_left]
/-- what is asked of is forgotten again -/
theorem rest_back {F : List (List Int)} {st0 st : St} {A : Int → Prop} (hc : Core F (Tl st0.trail) A st0.trail.length st st.W) (hw : st.trail.take st0.trail.length = st0.trail) : Rest F (st.forget st0.trail.length) :=
  rest_forget hc (by rw [hw])
/-- between two steps, whether done or not -/
structure Good (F : List (List Int)) (st : St) : Prop where
  wd : Wd st.V st.cls st.W
  rd : ∀ c, c ∈ st.cls → c.round ≤ st.round
  tn : st.trail.length ≤ 200000
  yes : st.done = true → Clash F (fun _ => False)
  no : st.done = false → Rest F st
theorem Good.of {F : List (List Int)} {st : St} (hV : st.V ≤ 100000) (hd : st.done = false) (h : Rest F st) (rd : ∀ c, c ∈ st.cls → c.round ≤ st.round) : Good F st :=
  ⟨h.wd, rd, by have := h.hd.len; omega, fun e => (by rw [hd] at e; cases e), fun _ => h⟩
theorem rd_of {st st' : St} (h : st'.cls.map BC.round = st.cls.map BC.round) (hr : st'.round = st.round) (rd : ∀ c, c ∈ st.cls → c.round ≤ st.round) : ∀ c, c ∈ st'.cls → c.round ≤ st'.round := by
  intro c hc
  have : c.round ∈ st'.cls.map BC.round := List.mem_map.2 ⟨c, hc, rfl⟩
  rw [h] at this
  obtain ⟨d, hd, e⟩ := List.mem_map.1 this
  rw [hr, ← e]; exact rd d hd
/-- all watches are gone, and clauses up to i are watched anew -/
structure EndI (st : St) (i : Nat) (st' : St) : Prop where
  V : st'.V = st.V
  held : st'.held = st.held
  reason : st'.reason = st.reason
  used : st'.used = st.used
  trail : st'.trail = st.trail
  lk0 : st'.lk0 = st.lk0
  lk1 : st'.lk1 = st.lk1
  done : st'.done = st.done
  ls : st'.cls.map BC.l = st.cls.map BC.l
  rds : st'.cls.map BC.round = st.cls.map BC.round
  two : ∀ (j : Nat) (d : BC), st'.cls[j]? = some d → 2 ≤ d.l.length ∧ d.l.Nodup ∧ (∀ x, x ∈ d.l → x < 2 * st.V) ∧ d.tier < 2 ∧ 2 ≤ d.next ∧ d.next ≤ d.l.length
  has : ∀ (j : Nat) (d : BC) (u : Nat), j < i → st'.cls[j]? = some d → wt d u → ∃ o, (j, o) ∈ st'.W d.tier u
  own : ∀ t' l j o, (j, o) ∈ st'.W t' l → j < i ∧ ∃ d, st'.cls[j]? = some d ∧ o ∈ d.l ∧ (d.tier = t' → wt d l) ∧ (t' = 0 → d.tier = 0)
  nd : ∀ t' l, ((st'.W t' l).map (·.1)).Nodup
theorem EndI.len {st st' : St} {i : Nat} (h : EndI st i st') : st'.cls.length = st.cls.length := by have := congrArg List.length h.ls; simpa using this
theorem EndI.wlen {st st' : St} {i : Nat} (h : EndI st i st') (t l : Nat) : (st'.W t l).length ≤ st.cls.length := by
  rw [← h.len]
  have := nodup_len (h.nd t l) (n := st'.cls.length) (fun x hx => by
    obtain ⟨⟨j, o⟩, h1, rfl⟩ := List.mem_map.1 hx
    obtain ⟨_, c, hc, _⟩ := h.own t l j o h1
    exact (List.getElem?_eq_some_iff.1 hc).1)
  simpa using this
theorem map_mod_r (cls : List BC) (i : Nat) (f : BC → BC) (hf : ∀ c, (f c).round = c.round) : (cls.modify i f).map BC.round = cls.map BC.round := map_mod cls i f hf
theorem EndI.next {st st' : St} {i : Nat} (h : EndI st i st') {c : BC} (hc : st'.cls[i]? = some c) {t l0 l1 : Nat} (ht : t < 2) (h0 : c.l[0]? = some l0) (h1 : c.l[1]? = some l1) : EndI st (i + 1) (((st'.tierAt i t).addW t l0 (i, l1)).addW t l1 (i, l0)) := by
  obtain ⟨q1, q2, q3, q4, q5, q6⟩ := h.two i c hc
  have hne : l0 ≠ l1 := fun e => by subst e; have := nodup_get q2 h0 h1; omega
  obtain ⟨a1, a2, a3, a4, a5⟩ := Wd.watch (V := st.V) (W := st'.W) hc ht h0 h1 hne h.two
    (fun j d u hj hd hu => by
      by_cases e : j < i
      · exact .inl (h.has j d u e hd hu)
      · exact .inr (by omega))
    (fun t' l j o hm => (h.own t' l j o hm).2) h.nd
    (fun l o hm => by have := (h.own t l i o hm).1; omega)
    (fun _ l o hm => by have := (h.own 0 l i o hm).1; omega)
  refine ⟨h.V, h.held, h.reason, h.used, h.trail, h.lk0, h.lk1, h.done, ?_, ?_, a1, fun j d u hj hd hu => ?_, fun t' l j o hm => ?_, a4⟩
  · exact (map_mod_l _ _ (fun c : BC => { c with tier := t }) (fun _ => rfl)).trans h.ls
  · exact (map_mod_r _ _ (fun c : BC => { c with tier := t }) (fun _ => rfl)).trans h.rds
  · rcases a2 j d u hd hu with h5 | h5
    · exact h5
    · omega
  · refine ⟨?_, a3 t' l j o hm⟩
    rcases a5 t' l j o hm with h5 | h5
    · have := (h.own t' l j o h5).1; omega
    · omega
/-- all are watched anew -/
theorem EndI.last {F : List (List Int)} {st st' : St} (h : EndI st st.cls.length st') (g : Good F st) (hr : st.round ≤ st'.round) : Good F st' := by
  have hw : Wd st'.V st'.cls st'.W := ⟨by rw [h.V]; exact h.two, fun j d u hd hu => h.has j d u (by rw [← h.len]; exact (List.getElem?_eq_some_iff.1 hd).1) hd hu, fun t' l j o hm => (h.own t' l j o hm).2, h.nd⟩
  refine ⟨hw, fun c hc => ?_, by rw [h.trail]; exact g.tn, fun e => g.yes (by rw [← h.done]; exact e), fun e => (g.no (by rw [← h.done]; exact e)).like h.V h.held h.reason h.trail h.lk0 h.lk1 h.ls hw⟩
  have : c.round ∈ st'.cls.map BC.round := List.mem_map.2 ⟨c, hc, rfl⟩
  rw [h.rds] at this
  obtain ⟨d, hd, e⟩ := List.mem_map.1 this
  have := g.rd d hd
  omega
/-- steps and rounds are no matter -/
theorem Good.count {F : List (List Int)} {st : St} (g : Good F st) (s : Nat) : Good F { st with steps := s } :=
  ⟨g.wd, g.rd, g.tn, g.yes, fun e => (g.no e).like rfl rfl rfl rfl rfl rfl rfl g.wd⟩
/-- no watch is left -/
theorem EndI.first {F : List (List Int)} {st : St} (g : Good F st) (r s : Nat) : EndI st 0 { st with W := fun _ _ => [], round := r, steps := s } :=
  ⟨rfl, rfl, rfl, rfl, rfl, rfl, rfl, rfl, rfl, rfl, g.wd.two, fun j d u hj => absurd hj (by omega), fun t' l j o hm => (by cases hm), fun t' l => List.nodup_nil⟩

end Go.Proofs.Ytllaedigdjhkjaa
