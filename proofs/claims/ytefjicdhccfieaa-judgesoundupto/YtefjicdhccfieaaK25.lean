import Derived.Test.YtefjicdhccfieaaK01
import Derived.Test.YtefjicdhccfieaaK24
set_option maxRecDepth 100000
set_option maxHeartbeats 16000000
namespace Go.Proofs.Ytefjicdhccfieaa
open Go.RowKit
def opStep (x : St × List Nat × Bool) (n : Int) : St × List Nat × Bool :=
 if x.1.held.getD (litN n) 0 = 0 then (x.1.hold (oppN (litN n)) (-1), x.2.1 ++ [litN n], x.2.2) else (x.1, x.2.1, x.2.2 || decide (0 < x.1.held.getD (litN n) 0))
def opAll (st : St) (c : List Int) : St × List Nat × Bool := c.foldl opStep (st, [], false)
theorem opAll_next (st : St) (c : List Int) (k : Nat) (n : Int) (h : c[k]? = some n) : opAll st (c.take (k + 1)) = opStep (opAll st (c.take k)) n := by
 unfold opAll; rw [take_next c k n h]; simp
theorem litN_lt {V : Nat} {n : Int} (h0 : n ≠ 0) (h : n.natAbs ≤ V) : litN n < 2 * V := by unfold litN; split <;> omega
structure OpOk (st : St) (k : Nat) (x : St × List Nat × Bool) : Prop where
 V : x.1.V = st.V
 cls : x.1.cls = st.cls
 len : x.1.trail.length ≤ st.trail.length + k
 ge : st.trail.length ≤ x.1.trail.length
 inn : ∀ y, y ∈ x.1.trail → y < 2 * st.V
 ol : x.2.1.length ≤ k
theorem OpOk.next {st : St} {k : Nat} {x : St × List Nat × Bool} (h : OpOk st k x) {n : Int} (h0 : n ≠ 0) (hn : n.natAbs ≤ st.V) : OpOk st (k + 1) (opStep x n) := by
 unfold opStep
 split
 ·refine ⟨h.V, h.cls, ?_, ?_, ?_, ?_⟩
  ·have := h.len; simp [St.hold]; omega
  ·have := h.ge; simp [St.hold]; omega
  ·intro y hy
   simp only [St.hold, List.mem_append, List.mem_singleton] at hy
   rcases hy with hy | hy
   ·exact h.inn y hy
   ·rw [hy]; exact oppN_lt (litN_lt h0 hn)
  ·have := h.ol; simp; omega
 ·exact ⟨h.V, h.cls, by have := h.len; dsimp only; omega, h.ge, h.inn, by have := h.ol; dsimp only; omega⟩
theorem OpOk.zero {st : St} (hin : ∀ y, y ∈ st.trail → y < 2 * st.V) : OpOk st 0 (st, [], false) := ⟨rfl, rfl, Nat.le_refl _, Nat.le_refl _, hin, Nat.le_refl _⟩
theorem Link.next {sl : Site → Slot} {st : St} (h : Link sl st) (X : Slot) : Link (setS sl (.lits st.cls.length) X) st := by
 have hi : ∀ i c, st.cls[i]? = some c → setS sl (.lits st.cls.length) X (.lits i) = sl (.lits i) := fun i c hc => by
  have := (List.getElem?_eq_some_iff.1 hc).1
  exact setS_other _ _ (fun e => by injection e; omega)
 refine ⟨h.hV, ?_, h.heldL, ?_, h.reasonL, ?_, h.usedL, ?_, ?_, ?_, ?_, ?_, ?_⟩
 ·simpa [setS] using h.held
 ·simpa [setS] using h.reason
 ·simpa [setS] using h.used
 ·simpa [setS] using h.trail
 ·simpa [setS] using h.clsN
 ·intro i c hc
  rw [hi i c hc, setS_other _ _ (by intro e; cases e)]
  exact h.cls i c hc
 ·intro i c hc
  rw [hi i c hc]
  exact h.lits i c hc
 ·intro t ht
  simpa [setS] using h.row t ht
 ·intro t l' ht hl
  simpa [setS] using h.wl t l' ht hl
theorem fields_next (sl : Site → Slot) (st : St) (i : Nat) (X : Slot) : fields (setS sl (.lits i) X) st = fields sl st := by simp [fields, setS]
theorem Bd.drop {B : Nat} {w : World} {bb : Nat} {st : St} {X : Slot} {CV : Value} (h : Bd B w bb st X CV) : Bd B w bb st ⟨.slice none 0 0, 0, []⟩ CV := by
 obtain ⟨sl, R, L, _, hCV⟩ := h
 refine ⟨setS sl (.lits st.cls.length) ⟨.slice none 0 0, 0, []⟩, ?_, L.next _, setS_same _ _ _, by rw [setS_other _ _ (by intro e; cases e)]; exact hCV⟩
 rw [fields_next]
 exact R.grow _ _ (grown_refl' w _) (World.ownsRow_nil _ _ _ _) (fun k hk => by cases hk)
theorem Bd.rest {B : Nat} {w w' : World} {bb : Nat} {st : St} {X : Slot} {CV : Value} (h : Bd B w bb st X CV) (hb : Below w.heap.size w w') : Bd B w' bb st X CV := by
 obtain ⟨sl, R, L, hX⟩ := h
 exact ⟨sl, R.rest hb, L, hX⟩
theorem Bd.lt {B : Nat} {w : World} {bb : Nat} {st : St} {X : Slot} {CV : Value} (h : Bd B w bb st X CV) : B ≤ w.heap.size := by
 obtain ⟨sl, R, _⟩ := h
 exact R.size
theorem Bd.own {B : Nat} {w : World} {bb : Nat} {st : St} {X : Slot} {CV : Value} (h : Bd B w bb st X CV) : w.ownsRow B 77 1 X.v X.n X.xs := by
 obtain ⟨sl, R, _, hX, _⟩ := h
 rw [← hX]; exact R.rows (.lits st.cls.length)
theorem Bd.grow {B : Nat} {w w' : World} {bb : Nat} {st : St} {X X' : Slot} {CV : Value} (h : Bd B w bb st X CV) (hg : w.grownBy w' X.v.ownBlock) (hx : w'.ownsRow B 77 1 X'.v X'.n X'.xs) (hat : ∀ k, X'.v.ownBlock = some k → X.v.ownBlock = some k ∨ w.heap.size ≤ k) : Bd B w' bb st X' CV ∧ Below B w w' := by
 obtain ⟨sl, R, L, rfl, hCV⟩ := h
 refine ⟨⟨setS sl (.lits st.cls.length) X', ?_, L.next _, setS_same _ _ _, by rw [setS_other _ _ (by intro e; cases e)]; exact hCV⟩, R.below _ hg⟩
 rw [fields_next]
 exact R.grow _ _ hg hx hat
theorem Bd.heldC {B : Nat} {w : World} {bb : Nat} {st : St} {X : Slot} {CV : Value} (h : Bd B w bb st X CV) {l : Nat} (hl : l < 2 * st.V) : ∃ hb hc, w.cell? ⟨bb, 3, none⟩ = some (.slice (some ⟨hb, 0, none⟩) (2 * st.V) hc) ∧ w.cell? ⟨hb, l, none⟩ = some (.int .i8 (st.held.getD l 0)) := by
 obtain ⟨sl, R, L, _⟩ := h
 obtain ⟨hb, hc, hv, _, _, _, hcell, _⟩ := R.form .held (by rw [L.held.1]; omega)
 refine ⟨hb, hc, by rw [R.field 3, ← L.held.1, ← hv]; rfl, ?_⟩
 rw [hcell l (by rw [L.held.1]; simp [Site.sz]; omega), L.held.2]
 have : l < st.held.length := by rw [L.heldL]; exact hl
 rw [List.getD_eq_getElem?_getD]
 obtain ⟨x, hx⟩ := getElem_lt this
 rw [hx]; exact i8V_get _ _ _ hx
theorem Bd.trailC {B : Nat} {w : World} {bb : Nat} {st : St} {X : Slot} {CV : Value} (h : Bd B w bb st X CV) : ∃ a c, w.cell? ⟨bb, 6, none⟩ = some (.slice a st.trail.length c) := by
 obtain ⟨sl, R, L, _⟩ := h
 have f6 : w.cell? ⟨bb, 6, none⟩ = some (sl .trail).v := R.field 6
 have hr := R.rows .trail
 rw [L.trail.1] at hr
 rcases hr.2 with ⟨h1, h2⟩ | ⟨g, cap, cur, h1, _⟩
 ·exact ⟨none, 0, by rw [f6, h1, h2]⟩
 ·exact ⟨_, cap, by rw [f6, h1]⟩
end Go.Proofs.Ytefjicdhccfieaa

set_option maxRecDepth 100000
set_option maxHeartbeats 16000000
namespace Go.Proofs.Ytefjicdhccfieaa
open Go.RowKit
theorem getD_set (l : List Int) (i j : Nat) (x : Int) (hi : i < l.length) : (l.set i x).getD j 0 = if j = i then x else l.getD j 0 := by
 rw [List.getD_eq_getElem?_getD, List.getD_eq_getElem?_getD]
 by_cases e : j = i
 ·subst e; rw [if_pos rfl, List.getElem?_set_self hi]; rfl
 ·rw [if_neg e, List.getElem?_set_ne (fun h => e h.symm)]
def Even' (st : St) : Prop := ∀ y, y < 2 * st.V → st.held.getD (oppN y) 0 = - st.held.getD y 0
structure OpInv (st : St) (c : List Int) (x : St × List Nat × Bool) : Prop where
 V : x.1.V = st.V
 cls : x.1.cls = st.cls
 W : x.1.W = st.W
 used : x.1.used = st.used
 done : x.1.done = st.done
 round : x.1.round = st.round
 steps : x.1.steps = st.steps
 heldL : x.1.held.length = st.held.length
 held : ∀ y, y < 2 * st.V → x.1.held.getD y 0 = if y ∈ x.2.1 then -1 else if oppN y ∈ x.2.1 then 1 else st.held.getD y 0
 trail : x.1.trail = st.trail ++ x.2.1.map oppN
 zero : ∀ y, y ∈ x.2.1 → st.held.getD y 0 = 0
 opp : ∀ y, y ∈ x.2.1 → oppN y ∉ x.2.1
 nd : x.2.1.Nodup
 lt : ∀ y, y ∈ x.2.1 → y < 2 * st.V
 mem : ∀ y, y ∈ x.2.1 → ∃ n, n ∈ c ∧ y = litN n
 all : ∀ n, n ∈ c → litN n ∈ x.2.1 ∨ st.held.getD (litN n) 0 < 0 ∨ x.2.2 = true
 tt : x.2.2 = true → (∃ n, n ∈ c ∧ 0 < st.held.getD (litN n) 0) ∨ ∃ n, n ∈ c ∧ oppN (litN n) ∈ x.2.1
theorem OpInv.zero' (st : St) : OpInv st [] (st, [], false) :=
 ⟨rfl, rfl, rfl, rfl, rfl, rfl, rfl, rfl, fun y _ => by simp, by simp, fun y h => (by cases h), fun y h => (by cases h), List.nodup_nil, fun y h => (by cases h), fun y h => (by cases h), fun n h => (by cases h), fun h => (by cases h)⟩
theorem OpInv.next {st : St} {c : List Int} {x : St × List Nat × Bool} (h : OpInv st c x) (hL : st.held.length = 2 * st.V) {n : Int} (h0 : n ≠ 0) (hn : n.natAbs ≤ st.V) : OpInv st (c ++ [n]) (opStep x n) := by
 have hl := litN_lt h0 hn
 have ho := oppN_lt hl
 have hne := oppN_ne (litN n)
 have hoo := oppN_opp (litN n)
 generalize hlq : litN n = l at *
 unfold opStep
 rw [hlq]
 have hx := h.held l hl
 by_cases hz : x.1.held.getD l 0 = 0
 ·rw [if_pos hz]
  rw [hz] at hx
  have hnl : l ∉ x.2.1 := fun hm => by rw [if_pos hm] at hx; omega
  rw [if_neg hnl] at hx
  have hno : oppN l ∉ x.2.1 := fun hm => by rw [if_pos hm] at hx; omega
  rw [if_neg hno] at hx
  refine ⟨h.V, h.cls, h.W, h.used, h.done, h.round, h.steps, by simp [St.hold, h.heldL], fun y hy => ?_, ?_, fun y hy => ?_, fun y hy hy2 => ?_, ?_, fun y hy => ?_, fun y hy => ?_, fun m hm => ?_, fun ht => ?_⟩
  ·simp only [St.hold, hoo]
   rw [getD_set _ _ _ _ (by simp [h.heldL, hL]; exact hl), getD_set _ _ _ _ (by rw [h.heldL, hL]; exact ho)]
   by_cases e1 : y = l
   ·subst e1; rw [if_pos rfl, if_pos (by simp)]
   ·rw [if_neg e1]
    by_cases e2 : y = oppN l
    ·subst e2
     rw [if_pos rfl, if_neg (by simp [hno, hne]), if_pos (by rw [hoo]; simp)]
    ·rw [if_neg e2, h.held y hy]
     have e3 : (y ∈ x.2.1 ++ [l]) ↔ y ∈ x.2.1 := by simp [e1]
     have e4 : (oppN y ∈ x.2.1 ++ [l]) ↔ oppN y ∈ x.2.1 := by
      have : oppN y ≠ l := fun e => e2 (by rw [← e, oppN_opp])
      simp [this]
     simp only [e3, e4]
  ·simp [St.hold, h.trail]
  ·rcases List.mem_append.1 hy with h1 | h1
   ·exact h.zero y h1
   ·rw [List.mem_singleton.1 h1]; exact hx.symm
  ·rcases List.mem_append.1 hy with h1 | h1
   ·rcases List.mem_append.1 hy2 with h2 | h2
    ·exact h.opp y h1 h2
    ·have := List.mem_singleton.1 h2
     exact hno (by rw [← this, oppN_opp]; exact h1)
   ·rw [List.mem_singleton.1 h1] at hy2
    rcases List.mem_append.1 hy2 with h2 | h2
    ·exact hno h2
    ·exact hne (List.mem_singleton.1 h2)
  ·rw [List.nodup_append]
   exact ⟨h.nd, by simp, fun a ha b hb e => by rw [List.mem_singleton.1 hb] at e; rw [e] at ha; exact hnl ha⟩
  ·rcases List.mem_append.1 hy with h1 | h1
   ·exact h.lt y h1
   ·rw [List.mem_singleton.1 h1]; exact hl
  ·rcases List.mem_append.1 hy with h1 | h1
   ·obtain ⟨m, h2, h3⟩ := h.mem y h1
    exact ⟨m, List.mem_append_left _ h2, h3⟩
   ·exact ⟨n, by simp, by rw [List.mem_singleton.1 h1, hlq]⟩
  ·rcases List.mem_append.1 hm with h1 | h1
   ·rcases h.all m h1 with h2 | h2 | h2
    ·exact .inl (List.mem_append_left _ h2)
    ·exact .inr (.inl h2)
    ·exact .inr (.inr h2)
   ·rw [List.mem_singleton.1 h1, hlq]; exact .inl (by simp)
  ·rcases h.tt ht with ⟨m, h1, h2⟩ | ⟨m, h1, h2⟩
   ·exact .inl ⟨m, List.mem_append_left _ h1, h2⟩
   ·exact .inr ⟨m, List.mem_append_left _ h1, List.mem_append_left _ h2⟩
 ·rw [if_neg hz]
  refine ⟨h.V, h.cls, h.W, h.used, h.done, h.round, h.steps, h.heldL, h.held, h.trail, h.zero, h.opp, h.nd, h.lt, fun y hy => ?_, fun m hm => ?_, fun ht => ?_⟩
  ·obtain ⟨m, h2, h3⟩ := h.mem y hy
   exact ⟨m, List.mem_append_left _ h2, h3⟩
  ·rcases List.mem_append.1 hm with h1 | h1
   ·rcases h.all m h1 with h2 | h2 | h2
    ·exact .inl h2
    ·exact .inr (.inl h2)
    ·exact .inr (.inr (by simp [h2]))
   ·rw [List.mem_singleton.1 h1, hlq]
    by_cases h2 : l ∈ x.2.1
    ·exact .inl h2
    ·rw [if_neg h2] at hx
     by_cases h3 : 0 < x.1.held.getD l 0
     ·exact .inr (.inr (by simp only [h3, decide_true, Bool.or_true]))
     ·by_cases h4 : oppN l ∈ x.2.1
      ·rw [if_pos h4] at hx; omega
      ·rw [if_neg h4] at hx
       exact .inr (.inl (by omega))
  ·simp only [Bool.or_eq_true, decide_eq_true_eq] at ht
   rcases ht with h1 | h1
   ·rcases h.tt h1 with ⟨m, h1, h2⟩ | ⟨m, h1, h2⟩
    ·exact .inl ⟨m, List.mem_append_left _ h1, h2⟩
    ·exact .inr ⟨m, List.mem_append_left _ h1, h2⟩
   ·by_cases h2 : l ∈ x.2.1
    ·rw [if_pos h2] at hx; omega
    ·rw [if_neg h2] at hx
     by_cases h4 : oppN l ∈ x.2.1
     ·exact .inr ⟨n, by simp, by rw [hlq]; exact h4⟩
     ·rw [if_neg h4] at hx
      exact .inl ⟨n, by simp, by rw [hlq]; omega⟩
theorem opAll_inv {st : St} (hL : st.held.length = 2 * st.V) {c : List Int} (hc : ∀ n, n ∈ c → n ≠ 0 ∧ n.natAbs ≤ st.V) : OpInv st c (opAll st c) := by
 have key : ∀ k, k ≤ c.length → OpInv st (c.take k) (opAll st (c.take k)) := by
  intro k
  induction k with
  | zero => intro _; rw [List.take_zero]; exact OpInv.zero' st
  | succ k ih =>
   intro hk
   obtain ⟨n, hn⟩ := getElem_lt (show k < c.length by omega)
   rw [opAll_next st c k n hn, take_next c k n hn]
   exact (ih (by omega)).next hL (hc n (List.mem_of_getElem? hn)).1 (hc n (List.mem_of_getElem? hn)).2
 have := key c.length (Nat.le_refl _)
 rwa [List.take_length] at this
theorem clr_get (xs : List Nat) (h : List Int) (V : Nat) (hL : h.length = 2 * V) (hx : ∀ a, a ∈ xs → a < 2 * V) (y : Nat) : (clr xs h).getD y 0 = if y ∈ xs ∨ oppN y ∈ xs then 0 else h.getD y 0 := by
 induction xs generalizing h with
 | nil => simp [clr]
 | cons a r ih =>
  have ha := hx a (by simp)
  have e : clr (a :: r) h = clr r ((h.set a 0).set (oppN a) 0) := rfl
  rw [e, ih _ (by simp [hL]) (fun b hb => hx b (by simp [hb])), getD_set _ _ _ _ (by simp [hL]; exact oppN_lt ha), getD_set _ _ _ _ (by rw [hL]; exact ha)]
  by_cases h1 : y ∈ r ∨ oppN y ∈ r
  ·rw [if_pos h1, if_pos]
   rcases h1 with h1 | h1
   ·exact .inl (by simp [h1])
   ·exact .inr (by simp [h1])
  ·rw [if_neg h1]
   by_cases h2 : y = oppN a
   ·rw [if_pos h2, if_pos]
    exact .inr (by rw [h2, oppN_opp]; simp)
   ·rw [if_neg h2]
    by_cases h3 : y = a
    ·rw [if_pos h3, if_pos]
     exact .inl (by simp [h3])
    ·rw [if_neg h3, if_neg]
     rintro (h4 | h4)
     ·rcases List.mem_cons.1 h4 with h5 | h5
      ·exact h3 h5
      ·exact h1 (.inl h5)
     ·rcases List.mem_cons.1 h4 with h5 | h5
      ·exact h2 (by rw [← h5, oppN_opp])
      ·exact h1 (.inr h5)
theorem list_ext_getD {a b : List Int} (hl : a.length = b.length) (h : ∀ y, y < a.length → a.getD y 0 = b.getD y 0) : a = b := by
 apply List.ext_getElem hl
 intro i h1 h2
 have := h i h1
 rw [List.getD_eq_getElem?_getD, List.getD_eq_getElem?_getD, List.getElem?_eq_getElem h1, List.getElem?_eq_getElem h2] at this
 exact this
theorem open_back {st : St} (hE : Even' st) (hL : st.held.length = 2 * st.V) {c : List Int} (hc : ∀ n, n ∈ c → n ≠ 0 ∧ n.natAbs ≤ st.V) (hk : st.lk0 = st.trail.length ∧ st.lk1 = st.trail.length) : ∃ r, (opAll st c).1.forget st.trail.length = { st with reason := r } := by
 have h := opAll_inv hL hc
 generalize opAll st c = x at h
 have hd : x.1.trail.drop st.trail.length = x.2.1.map oppN := by rw [h.trail]; simp
 have ht : x.1.trail.take st.trail.length = st.trail := by rw [h.trail]; simp
 have hh : clr (x.2.1.map oppN) x.1.held = st.held := by
  refine list_ext_getD (by rw [clr_len, h.heldL]) (fun y hy => ?_)
  rw [clr_len, h.heldL, hL] at hy
  rw [clr_get _ _ st.V (by rw [h.heldL, hL]) (fun a ha => by
   obtain ⟨b, hb, rfl⟩ := List.mem_map.1 ha
   exact oppN_lt (h.lt b hb)) y]
  have e1 : y ∈ x.2.1.map oppN ↔ oppN y ∈ x.2.1 := by
   rw [List.mem_map]
   exact ⟨fun ⟨b, hb, e⟩ => by rw [← e, oppN_opp]; exact hb, fun hy => ⟨_, hy, oppN_opp y⟩⟩
  have e2 : oppN y ∈ x.2.1.map oppN ↔ y ∈ x.2.1 := by
   rw [List.mem_map]
   exact ⟨fun ⟨b, hb, e⟩ => by rw [← oppN_opp y, ← e, oppN_opp]; exact hb, fun hy => ⟨_, hy, rfl⟩⟩
  simp only [e1, e2]
  by_cases h1 : oppN y ∈ x.2.1 ∨ y ∈ x.2.1
  ·rw [if_pos h1]
   rcases h1 with h1 | h1
   ·have := h.zero _ h1
    have h2 := hE y hy
    omega
   ·exact (h.zero _ h1).symm
  ·rw [if_neg h1, h.held y hy, if_neg (fun e => h1 (.inr e)), if_neg (fun e => h1 (.inl e))]
 refine ⟨x.1.reason, ?_⟩
 unfold St.forget
 rw [hd, ht, hh]
 have h1 := h.V
 have h2 := h.cls
 have h3 := h.W
 have h4 := h.used
 have h5 := h.done
 have h6 := h.round
 have h7 := h.steps
 rw [h1, h2, h3, h4, h5, h6, h7]
 obtain ⟨a, b⟩ := hk
 cases st
 simp only at a b
 subst a
 simp only [b]
end Go.Proofs.Ytefjicdhccfieaa
