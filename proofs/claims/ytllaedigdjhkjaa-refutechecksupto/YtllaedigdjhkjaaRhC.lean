import Derived.Test.YtllaedigdjhkjaaRhB
namespace Go.Proofs.Ytllaedigdjhkjaa
open Go.RowKit

theorem BD.fld {B : Nat} {w : World} {bb : Nat} {st : St} (h : BD B w bb st) : w.cell? ⟨bb, 9, none⟩ = some (.bool st.done) ∧ w.cell? ⟨bb, 10, none⟩ = some (.int .i64 (st.round : Int)) ∧ w.cell? ⟨bb, 11, none⟩ = some (.int .i64 (st.steps : Int)) ∧ ∀ j, w.frozen? ⟨bb, j, none⟩ = false := by
  obtain ⟨sl, R, L⟩ := h
  exact ⟨R.field 9, R.field 10, R.field 11, R.soft⟩
theorem BD.hV {B : Nat} {w : World} {bb : Nat} {st : St} (h : BD B w bb st) : st.V ≤ 100000 := by
  obtain ⟨sl, R, L⟩ := h
  exact L.hV
theorem BD.size {B : Nat} {w : World} {bb : Nat} {st : St} (h : BD B w bb st) : B ≤ w.heap.size := by
  obtain ⟨sl, R, L⟩ := h
  exact R.size
theorem BD.rest {B : Nat} {w w' : World} {bb : Nat} {st : St} (h : BD B w bb st) (hb : Below w.heap.size w w') : BD B w' bb st := by
  obtain ⟨sl, R, L⟩ := h
  exact ⟨sl, R.rest hb, L⟩
theorem BD.setF {B : Nat} {w : World} {bb : Nat} {st : St} (h : BD B w bb st) (st' : St) (j : Nat) (u : Value) (hf : ∀ sl, fields sl st' = (fields sl st).setIfInBounds j u) (hl : ∀ sl, Link sl st → Link sl st') : BD B (w.setCell ⟨bb, j, none⟩ u) bb st' ∧ Below B w (w.setCell ⟨bb, j, none⟩ u) := by
  obtain ⟨sl, R, L⟩ := h
  refine ⟨⟨sl, ?_, hl sl L⟩, setTo (Below.refl _ _) R.base R.size⟩
  rw [hf]; exact R.setB j u
theorem BD.steps {B : Nat} {w : World} {bb : Nat} {st : St} (h : BD B w bb st) (s : Nat) (z : Int) (hz : z = s) : BD B (w.setCell ⟨bb, 11, none⟩ (.int .i64 z)) bb { st with steps := s } ∧ Below B w (w.setCell ⟨bb, 11, none⟩ (.int .i64 z)) := by
  subst hz
  exact h.setF _ 11 _ (fun sl => by simp [fields]) (fun sl L => ⟨L.hV, L.held, L.heldL, L.reason, L.reasonL, L.used, L.usedL, L.trail, L.clsN, L.cls, L.lits, L.row, L.wl⟩)
theorem BD.rounds {B : Nat} {w : World} {bb : Nat} {st : St} (h : BD B w bb st) (s : Nat) (z : Int) (hz : z = s) : BD B (w.setCell ⟨bb, 10, none⟩ (.int .i64 z)) bb { st with round := s } ∧ Below B w (w.setCell ⟨bb, 10, none⟩ (.int .i64 z)) := by
  subst hz
  exact h.setF _ 10 _ (fun sl => by simp [fields]) (fun sl L => ⟨L.hV, L.held, L.heldL, L.reason, L.reasonL, L.used, L.usedL, L.trail, L.clsN, L.cls, L.lits, L.row, L.wl⟩)
theorem BD.dones {B : Nat} {w : World} {bb : Nat} {st : St} (h : BD B w bb st) (b : Bool) : BD B (w.setCell ⟨bb, 9, none⟩ (.bool b)) bb { st with done := b } ∧ Below B w (w.setCell ⟨bb, 9, none⟩ (.bool b)) :=
  h.setF _ 9 _ (fun sl => by simp [fields]) (fun sl L => ⟨L.hV, L.held, L.heldL, L.reason, L.reasonL, L.used, L.usedL, L.trail, L.clsN, L.cls, L.lits, L.row, L.wl⟩)
theorem BD.reW {B : Nat} {w : World} {bb : Nat} {st : St} (h : BD B w bb st) (W' : Nat → Nat → List (Nat × Nat)) (hW : ∀ t l, t < 2 → l < 2 * st.V → W' t l = st.W t l) : BD B w bb { st with W := W' } := by
  obtain ⟨sl, R, L⟩ := h
  exact ⟨sl, R, L.hV, L.held, L.heldL, L.reason, L.reasonL, L.used, L.usedL, L.trail, L.clsN, L.cls, L.lits, L.row, fun t l ht hl => by dsimp only; rw [hW t l ht hl]; exact L.wl t l ht hl⟩
/-- the slices' lengths -/
theorem BD.lens {B : Nat} {w : World} {bb : Nat} {st : St} (h : BD B w bb st) : (∃ a c, w.cell? ⟨bb, 3, none⟩ = some (.slice a (2 * st.V) c)) ∧ (∃ a c, w.cell? ⟨bb, 0, none⟩ = some (.slice a st.cls.length c)) := by
  obtain ⟨sl, R, L⟩ := h
  constructor
  · have f := R.field 3
    have hr := R.rows .held
    rw [L.held.1] at hr
    rcases hr.2 with ⟨h1, h2⟩ | ⟨g, cap, cur, h1, _⟩
    · exact ⟨none, 0, by rw [f, h2]; show some (sl .held).v = _; rw [h1]⟩
    · exact ⟨_, cap, by rw [f]; show some (sl .held).v = _; rw [h1]⟩
  · have f := R.field 0
    have hr := R.rows .clauses
    rw [L.clsN] at hr
    rcases hr.2 with ⟨h1, h2⟩ | ⟨g, cap, cur, h1, _⟩
    · exact ⟨none, 0, by rw [f, h2]; show some (sl .clauses).v = _; rw [h1]⟩
    · exact ⟨_, cap, by rw [f]; show some (sl .clauses).v = _; rw [h1]⟩
/-- the board, with a row of watches where it is -/
def BDR (B : Nat) (w : World) (bb : Nat) (st : St) (t : Nat) (RV : Value) : Prop := ∃ sl, Rows' B w bb (fields sl st) sl ∧ Link sl st ∧ (sl (.row t)).v = RV
theorem BDR.bd {B : Nat} {w : World} {bb : Nat} {st : St} {t : Nat} {RV : Value} (h : BDR B w bb st t RV) : BD B w bb st := by
  obtain ⟨sl, R, L, _⟩ := h
  exact ⟨sl, R, L⟩
theorem BD.row {B : Nat} {w : World} {bb : Nat} {st : St} (h : BD B w bb st) {t : Nat} (ht : t < 2) : ∃ a c, BDR B w bb st t (.slice a (2 * st.V) c) ∧ w.cell? ⟨bb, 1 + t, none⟩ = some (.slice a (2 * st.V) c) := by
  obtain ⟨sl, R, L⟩ := h
  have f : w.cell? ⟨bb, 1 + t, none⟩ = some (sl (.row t)).v := by
    rw [R.field]
    rcases (show t = 0 ∨ t = 1 by omega) with rfl | rfl <;> rfl
  have hr := R.rows (.row t)
  rw [(L.row t ht).1] at hr
  rcases hr.2 with ⟨h1, h2⟩ | ⟨g, cap, cur, h1, _⟩
  · exact ⟨none, 0, by rw [h2, ← h1]; exact ⟨sl, R, L, rfl⟩, by rw [f, h1, h2]⟩
  · exact ⟨_, cap, by rw [← h1]; exact ⟨sl, R, L, rfl⟩, by rw [f, h1]⟩
theorem BDR.rowF {B : Nat} {w : World} {bb : Nat} {st : St} {t : Nat} {RV : Value} (h : BDR B w bb st t RV) (ht : t < 2) : w.cell? ⟨bb, 1 + t, none⟩ = some RV := by
  obtain ⟨sl, R, L, rfl⟩ := h
  rw [R.field]
  rcases (show t = 0 ∨ t = 1 by omega) with rfl | rfl <;> rfl
theorem BDR.addr {B : Nat} {w : World} {bb : Nat} {st : St} {t : Nat} {a : Option Addr} {n c : Nat} (h : BDR B w bb st t (.slice a n c)) (ht : t < 2) (hV : 0 < st.V) : ∃ rb, a = some ⟨rb, 0, none⟩ ∧ rb ≠ bb := by
  obtain ⟨sl, R, L, e⟩ := h
  obtain ⟨rb, rcap, hv, _⟩ := R.form (.row t) (by rw [(L.row t ht).1]; omega)
  have hv' := hv
  rw [e] at hv'
  have : a = some ⟨rb, 0, none⟩ := by injection hv'
  exact ⟨rb, this, fun e2 => R.nb (.row t) (by rw [hv, e2]; rfl)⟩
/-- a list of watches is cut to nothing -/
theorem BDR.cut {B : Nat} {w : World} {bb : Nat} {st : St} {t rb n c : Nat} (h : BDR B w bb st t (.slice (some ⟨rb, 0, none⟩) n c)) (ht : t < 2) {l : Nat} (hl : l < 2 * st.V) : ∃ v, w.cell? ⟨rb, l, none⟩ = some v ∧ w.frozen? ⟨rb, l, none⟩ = false ∧ ((v = .slice none 0 0 ∧ ∀ w', Below w.heap.size w w' → BDR B (w'.setCell ⟨rb, l, none⟩ (.slice none 0 0)) bb (st.putW t l []) t (.slice (some ⟨rb, 0, none⟩) n c) ∧ Below B w (w'.setCell ⟨rb, l, none⟩ (.slice none 0 0))) ∨
    ∃ gb m cap, v = .slice (some ⟨gb, 0, none⟩) m cap ∧ m ≤ cap ∧ ∀ w', Below w.heap.size w w' → BDR B (w'.setCell ⟨rb, l, none⟩ (.slice (some ⟨gb, 0, none⟩) 0 cap)) bb (st.putW t l []) t (.slice (some ⟨rb, 0, none⟩) n c) ∧ Below B w (w'.setCell ⟨rb, l, none⟩ (.slice (some ⟨gb, 0, none⟩) 0 cap))) := by
  obtain ⟨sl, R, L, e⟩ := h
  obtain ⟨hn, hrow⟩ := L.row t ht
  obtain ⟨rb', rcap, hv, hB, hlt, _, hcell, hfz⟩ := R.form (.row t) (by rw [hn]; omega)
  have hv' := hv
  rw [e] at hv'
  have e1 : rb = rb' := by injection hv' with h1; injection h1 with h1; injection h1
  subst e1
  have hc : w.cell? ⟨rb, l, none⟩ = some (sl (.wl t l)).v := by
    rw [hcell l (by rw [hn]; simp [Site.sz]; omega)]; exact hrow l hl
  have key : ∀ (u : Value) (w' : World), Below w.heap.size w w' → Rows' B w bb (fields sl st) (setS sl (.wl t l) ⟨u, 0, []⟩) → BDR B (w'.setCell ⟨rb, l, none⟩ u) bb (st.putW t l []) t (.slice (some ⟨rb, 0, none⟩) n c) ∧ Below B w (w'.setCell ⟨rb, l, none⟩ u) := fun u w' hb R1 => by
    have e0 : (setS sl (.wl t l) ⟨u, 0, []⟩) (.row t) = sl (.row t) := setS_other _ _ (by intro e; cases e)
    have R2 := (R1.rest hb).setR (.row t) (g := rb) (cap := rcap) (by rw [e0]; exact hv) l u
    rw [e0] at R2
    have L2 := L.putW t l [] u
    refine ⟨⟨_, ?_, L2, by rw [setS_same]; exact e⟩, setTo (hb.mono R.size) hB (Nat.le_trans R.size hb.size)⟩
    have ef : fields (setS (setS sl (.wl t l) ⟨u, 0, []⟩) (.row t) ⟨(sl (.row t)).v, (sl (.row t)).n, (sl (.row t)).xs.set l u⟩) (st.putW t l []) = fields sl st := fields_addW sl st t l (0, 0) _ _ _
    show Rows' B _ bb (fields (setS (setS sl (.wl t l) ⟨u, 0, []⟩) (.row t) ⟨(sl (.row t)).v, (sl (.row t)).n, (sl (.row t)).xs.set l u⟩) (st.putW t l [])) _
    rw [ef]; exact R2
  refine ⟨_, hc, hfz l, ?_⟩
  have hr := R.rows (.wl t l)
  rcases hr.2 with ⟨h1, h2⟩ | ⟨g, cap, cur, h1, h2, h3, h4, h5, h6⟩
  · refine .inl ⟨h1, fun w' hb => key _ w' hb ?_⟩
    exact R.grow _ _ (grown_refl' w _) (World.ownsRow_nil _ _ _ _) (fun k hk => by cases hk)
  · refine .inr ⟨g, _, cap, h1, h4, fun w' hb => key _ w' hb ?_⟩
    have := R.cut (.wl t l) h1 0 (Nat.zero_le _)
    simpa using this
theorem BDR.rest {B : Nat} {w w' : World} {bb : Nat} {st : St} {t : Nat} {RV : Value} (h : BDR B w bb st t RV) (hb : Below w.heap.size w w') : BDR B w' bb st t RV := by
  obtain ⟨sl, R, L, e⟩ := h
  exact ⟨sl, R.rest hb, L, e⟩
theorem Bd.cv {B : Nat} {w : World} {bb : Nat} {st : St} {X : Slot} {CV : Value} (h : Bd B w bb st X CV) : ∃ a c, CV = .slice a st.cls.length c ∧ w.cell? ⟨bb, 0, none⟩ = some CV := by
  obtain ⟨sl, R, L, _, e⟩ := h
  have f : w.cell? ⟨bb, 0, none⟩ = some (sl .clauses).v := R.field 0
  have hr := R.rows .clauses
  rw [L.clsN] at hr
  rcases hr.2 with ⟨h1, h2⟩ | ⟨g, cap, cur, h1, _⟩
  · exact ⟨none, 0, by rw [h2, ← e, h1], by rw [f, e]⟩
  · exact ⟨_, cap, by rw [← e, h1], by rw [f, e]⟩
theorem Bd.clause4 {B : Nat} {w : World} {bb : Nat} {st : St} {X : Slot} {CV : Value} (h : Bd B w bb st X CV) {i : Nat} {c : BC} (hc : st.cls[i]? = some c) : ∃ cb ccap la ln lc, CV = .slice (some ⟨cb, 0, none⟩) st.cls.length ccap ∧ w.cell? ⟨cb, i * 4, none⟩ = some (.slice la ln lc) ∧ w.cell? ⟨cb, i * 4 + 1, none⟩ = some (.int .i64 (c.next : Int)) ∧ w.cell? ⟨cb, i * 4 + 2, none⟩ = some (.int .i64 (c.tier : Int)) ∧ w.cell? ⟨cb, i * 4 + 3, none⟩ = some (.int .i64 (c.round : Int)) := by
  obtain ⟨sl, R, L, _, e⟩ := h
  have hil : i < st.cls.length := (List.getElem?_eq_some_iff.1 hc).1
  obtain ⟨q0, q1, q2, q3⟩ := L.cls i c hc
  obtain ⟨cb, ccap, hcv, _, _, _, hccell, _⟩ := R.form .clauses (by rw [L.clsN]; omega)
  obtain ⟨la, ln, lc, hlv⟩ : ∃ la ln lc, (sl (.lits i)).v = .slice la ln lc := by
    rcases (R.rows (.lits i)).2 with ⟨h1, _⟩ | ⟨g, cap, cur, h1, _⟩
    · exact ⟨_, _, _, h1⟩
    · exact ⟨_, _, _, h1⟩
  rw [hlv] at q0
  refine ⟨cb, ccap, la, ln, lc, by rw [← e, hcv, L.clsN], ?_, ?_, ?_, ?_⟩
  · rw [hccell (i * 4) (by rw [L.clsN]; simp [Site.sz]; omega), Nat.mul_comm]; exact q0
  · rw [hccell (i * 4 + 1) (by rw [L.clsN]; simp [Site.sz]; omega), Nat.mul_comm]; exact q1
  · rw [hccell (i * 4 + 2) (by rw [L.clsN]; simp [Site.sz]; omega), Nat.mul_comm]; exact q2
  · rw [hccell (i * 4 + 3) (by rw [L.clsN]; simp [Site.sz]; omega), Nat.mul_comm]; exact q3
/-- up to here all lists are empty -/
def cutUp (W : Nat → Nat → List (Nat × Nat)) (t l : Nat) : Nat → Nat → List (Nat × Nat) := fun t' l' => if t' < t ∨ (t' = t ∧ l' < l) then [] else W t' l'
theorem cutUp_next (W : Nat → Nat → List (Nat × Nat)) (t l : Nat) : Go.Proofs.Ytllaedigdjhkjaa.putW (cutUp W t l) t l [] = cutUp W t (l + 1) := by
  funext t' l'
  unfold Go.Proofs.Ytllaedigdjhkjaa.putW cutUp
  by_cases e : t' = t ∧ l' = l
  · rw [if_pos e, if_pos (by omega)]
  · rw [if_neg e]
    by_cases e2 : t' < t ∨ (t' = t ∧ l' < l)
    · rw [if_pos e2, if_pos (by omega)]
    · rw [if_neg e2, if_neg (by omega)]
theorem cutUp_row (W : Nat → Nat → List (Nat × Nat)) (t n t' l' : Nat) (hl : l' < n) : cutUp W (t + 1) 0 t' l' = cutUp W t n t' l' := by
  unfold cutUp
  by_cases e2 : t' < t ∨ (t' = t ∧ l' < n)
  · rw [if_pos e2, if_pos (by omega)]
  · rw [if_neg e2, if_neg (by omega)]
theorem cutUp_all (W : Nat → Nat → List (Nat × Nat)) (t' l' : Nat) (h : t' < 2) : ([] : List (Nat × Nat)) = cutUp W 2 0 t' l' := by
  unfold cutUp
  rw [if_pos (by omega)]
theorem cutUp_zero (W : Nat → Nat → List (Nat × Nat)) : cutUp W 0 0 = W := by
  funext t' l'
  unfold cutUp
  rw [if_neg (by omega)]

end Go.Proofs.Ytllaedigdjhkjaa
