import Derived.Test.YtllaedigdjhkjaaRfN
namespace Go.Proofs.Ytllaedigdjhkjaa
open Go.RowKit

/-- what is open of a clause: a literal more -/
def opStep (x : St × List Nat × Bool) (n : Int) : St × List Nat × Bool :=
  if x.1.held.getD (litN n) 0 = 0 then (x.1.hold (oppN (litN n)) (-1), x.2.1 ++ [litN n], x.2.2) else (x.1, x.2.1, x.2.2 || decide (0 < x.1.held.getD (litN n) 0))
def opAll (st : St) (c : List Int) : St × List Nat × Bool := c.foldl opStep (st, [], false)
theorem opAll_next (st : St) (c : List Int) (k : Nat) (n : Int) (h : c[k]? = some n) : opAll st (c.take (k + 1)) = opStep (opAll st (c.take k)) n := by
  unfold opAll; rw [take_next c k n h]; simp
theorem litN_lt {V : Nat} {n : Int} (h0 : n ≠ 0) (h : n.natAbs ≤ V) : litN n < 2 * V := by unfold litN; split <;> omega
/-- a state on the way -/
structure OpOk (st : St) (k : Nat) (x : St × List Nat × Bool) : Prop where
  V : x.1.V = st.V
  cls : x.1.cls = st.cls
  len : x.1.trail.length ≤ st.trail.length + k
  ge : st.trail.length ≤ x.1.trail.length
  inn : ∀ y, y ∈ x.1.trail → y < 2 * st.V
  ol : x.2.1.length ≤ k
theorem OpOk.next {st : St} {k : Nat} {x : St × List Nat × Bool} (h : OpOk st k x) {n : Int} (h0 : n ≠ 0) (hn : n.natAbs ≤ st.V) : OpOk st (k + 1) (opStep x n) := by
  unfold opStep
  split
  · refine ⟨h.V, h.cls, ?_, ?_, ?_, ?_⟩
    · have := h.len; simp [St.hold]; omega
    · have := h.ge; simp [St.hold]; omega
    · intro y hy
      simp only [St.hold, List.mem_append, List.mem_singleton] at hy
      rcases hy with hy | hy
      · exact h.inn y hy
      · rw [hy]; exact oppN_lt (litN_lt h0 hn)
    · have := h.ol; simp; omega
  · exact ⟨h.V, h.cls, by have := h.len; dsimp only; omega, h.ge, h.inn, by have := h.ol; dsimp only; omega⟩
theorem OpOk.zero {st : St} (hin : ∀ y, y ∈ st.trail → y < 2 * st.V) : OpOk st 0 (st, [], false) := ⟨rfl, rfl, Nat.le_refl _, Nat.le_refl _, hin, Nat.le_refl _⟩
theorem Link.next {sl : Site → Slot} {st : St} (h : Link sl st) (X : Slot) : Link (setS sl (.lits st.cls.length) X) st := by
  have hi : ∀ i c, st.cls[i]? = some c → setS sl (.lits st.cls.length) X (.lits i) = sl (.lits i) := fun i c hc => by
    have := (List.getElem?_eq_some_iff.1 hc).1
    exact setS_other _ _ (fun e => by injection e; omega)
  refine ⟨h.hV, ?_, h.heldL, ?_, h.reasonL, ?_, h.usedL, ?_, ?_, ?_, ?_, ?_, ?_⟩
  · simpa [setS] using h.held
  · simpa [setS] using h.reason
  · simpa [setS] using h.used
  · simpa [setS] using h.trail
  · simpa [setS] using h.clsN
  · intro i c hc
    rw [hi i c hc, setS_other _ _ (by intro e; cases e)]
    exact h.cls i c hc
  · intro i c hc
    rw [hi i c hc]
    exact h.lits i c hc
  · intro t ht
    simpa [setS] using h.row t ht
  · intro t l' ht hl
    simpa [setS] using h.wl t l' ht hl
theorem fields_next (sl : Site → Slot) (st : St) (i : Nat) (X : Slot) : fields (setS sl (.lits i) X) st = fields sl st := by simp [fields, setS]
/-- the clause to come: none yet -/
theorem Bd.drop {B : Nat} {w : World} {bb : Nat} {st : St} {X : Slot} {CV : Value} (h : Bd B w bb st X CV) : Bd B w bb st ⟨.slice none 0 0, 0, []⟩ CV := by
  obtain ⟨sl, R, L, _, hCV⟩ := h
  refine ⟨setS sl (.lits st.cls.length) ⟨.slice none 0 0, 0, []⟩, ?_, L.next _, setS_same _ _ _, by rw [setS_other _ _ (by intro e; cases e)]; exact hCV⟩
  rw [fields_next]
  exact R.grow _ _ (grown_refl' w _) (World.ownsRow_nil _ _ _ _) (fun k hk => by cases hk)
theorem Bd.rest {B : Nat} {w w' : World} {bb : Nat} {st : St} {X : Slot} {CV : Value} (h : Bd B w bb st X CV) (hb : Below w.heap.size w w') : Bd B w' bb st X CV := by
  obtain ⟨sl, R, L, hX⟩ := h
  exact ⟨sl, R.rest hb, L, hX⟩
theorem Bd.lt {B : Nat} {w : World} {bb : Nat} {st : St} {X : Slot} {CV : Value} (h : Bd B w bb st X CV) : B ≤ w.heap.size := by
  obtain ⟨sl, R, _⟩ := h
  exact R.size
theorem Bd.own {B : Nat} {w : World} {bb : Nat} {st : St} {X : Slot} {CV : Value} (h : Bd B w bb st X CV) : w.ownsRow B 77 1 X.v X.n X.xs := by
  obtain ⟨sl, R, _, hX, _⟩ := h
  rw [← hX]; exact R.rows (.lits st.cls.length)
/-- the clause to come: as it has grown -/
theorem Bd.grow {B : Nat} {w w' : World} {bb : Nat} {st : St} {X X' : Slot} {CV : Value} (h : Bd B w bb st X CV) (hg : w.grownBy w' X.v.ownBlock) (hx : w'.ownsRow B 77 1 X'.v X'.n X'.xs) (hat : ∀ k, X'.v.ownBlock = some k → X.v.ownBlock = some k ∨ w.heap.size ≤ k) : Bd B w' bb st X' CV ∧ Below B w w' := by
  obtain ⟨sl, R, L, rfl, hCV⟩ := h
  refine ⟨⟨setS sl (.lits st.cls.length) X', ?_, L.next _, setS_same _ _ _, by rw [setS_other _ _ (by intro e; cases e)]; exact hCV⟩, R.below _ hg⟩
  rw [fields_next]
  exact R.grow _ _ hg hx hat
/-- a literal's cell -/
theorem Bd.heldC {B : Nat} {w : World} {bb : Nat} {st : St} {X : Slot} {CV : Value} (h : Bd B w bb st X CV) {l : Nat} (hl : l < 2 * st.V) : ∃ hb hc, w.cell? ⟨bb, 3, none⟩ = some (.slice (some ⟨hb, 0, none⟩) (2 * st.V) hc) ∧ w.cell? ⟨hb, l, none⟩ = some (.int .i8 (st.held.getD l 0)) := by
  obtain ⟨sl, R, L, _⟩ := h
  obtain ⟨hb, hc, hv, _, _, _, hcell, _⟩ := R.form .held (by rw [L.held.1]; omega)
  refine ⟨hb, hc, by rw [R.field 3, ← L.held.1, ← hv]; rfl, ?_⟩
  rw [hcell l (by rw [L.held.1]; simp [Site.sz]; omega), L.held.2]
  have : l < st.held.length := by rw [L.heldL]; exact hl
  rw [List.getD_eq_getElem?_getD]
  obtain ⟨x, hx⟩ := getElem_lt this
  rw [hx]; exact i8V_get _ _ _ hx
theorem Bd.trailC {B : Nat} {w : World} {bb : Nat} {st : St} {X : Slot} {CV : Value} (h : Bd B w bb st X CV) : ∃ a c, w.cell? ⟨bb, 6, none⟩ = some (.slice a st.trail.length c) := by
  obtain ⟨sl, R, L, _⟩ := h
  have f6 : w.cell? ⟨bb, 6, none⟩ = some (sl .trail).v := R.field 6
  have hr := R.rows .trail
  rw [L.trail.1] at hr
  rcases hr.2 with ⟨h1, h2⟩ | ⟨g, cap, cur, h1, _⟩
  · exact ⟨none, 0, by rw [f6, h1, h2]⟩
  · exact ⟨_, cap, by rw [f6, h1]⟩

end Go.Proofs.Ytllaedigdjhkjaa
