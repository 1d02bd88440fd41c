import Derived.Test.YtllaedigdjhkjaaRfZ
namespace Go.Proofs.Ytllaedigdjhkjaa
open Go.RowKit

/-- what of a board stays, when it is looked through -/
structure WnR (st st' : St) : Prop where
  V : st'.V = st.V
  lk0 : st'.lk0 = st.lk0
  lk1 : st'.lk1 = st.lk1
  done : st'.done = st.done
  round : st'.round = st.round
  steps : st'.steps = st.steps
  used : st'.used = st.used
  rd : st'.cls.map BC.round = st.cls.map BC.round
  tr : ∃ ext, st'.trail = st.trail ++ ext
theorem WnR.refl (st : St) : WnR st st := ⟨rfl, rfl, rfl, rfl, rfl, rfl, rfl, rfl, [], by simp⟩
theorem WnR.trans {a b c : St} (h : WnR a b) (k : WnR b c) : WnR a c := by
  refine ⟨k.V.trans h.V, k.lk0.trans h.lk0, k.lk1.trans h.lk1, k.done.trans h.done, k.round.trans h.round, k.steps.trans h.steps, k.used.trans h.used, k.rd.trans h.rd, ?_⟩
  obtain ⟨e, he⟩ := h.tr
  obtain ⟨f, hf⟩ := k.tr
  exact ⟨e ++ f, by rw [hf, he, List.append_assoc]⟩
theorem map_mod (cls : List BC) (i : Nat) (f : BC → BC) (hf : ∀ c, (f c).round = c.round) : (cls.modify i f).map BC.round = cls.map BC.round := by
  apply List.ext_getElem?
  intro j
  rw [List.getElem?_map, List.getElem?_map, List.getElem?_modify]
  cases cls[j]? with
  | none => rfl
  | some c => by_cases e : i = j <;> simp [e, hf]
theorem WnR.list (st : St) (i : Nat) (ls : List Nat) : WnR st (st.listAt i ls) := ⟨rfl, rfl, rfl, rfl, rfl, rfl, rfl, map_mod _ _ _ (fun _ => rfl), [], by simp [St.listAt]⟩
theorem WnR.next (st : St) (i k : Nat) : WnR st (st.nextAt i k) := ⟨rfl, rfl, rfl, rfl, rfl, rfl, rfl, map_mod _ _ _ (fun _ => rfl), [], by simp [St.nextAt]⟩
theorem WnR.add (st : St) (t l : Nat) (e : Nat × Nat) : WnR st (st.addW t l e) := ⟨rfl, rfl, rfl, rfl, rfl, rfl, rfl, rfl, [], by simp [St.addW]⟩
theorem WnR.put (st : St) (t l : Nat) (es : List (Nat × Nat)) : WnR st (st.putW t l es) := ⟨rfl, rfl, rfl, rfl, rfl, rfl, rfl, rfl, [], by simp [St.putW]⟩
theorem WnR.hold (st : St) (l : Nat) (r : Int) : WnR st (st.hold l r) := ⟨rfl, rfl, rfl, rfl, rfl, rfl, rfl, rfl, [l], rfl⟩
/-- the board, and beside it the box of the one that watches -/
structure WkM (B : Nat) (w : World) (bb : Nat) (st : St) (sl : Site → Slot) (wb ci o : Nat) : Prop where
  R : Rows' B w bb (fields sl st) sl
  L : Link sl st
  box : w.heap[wb]? = some (.cells #[.int .i32 (ci : Int), .int .i32 (o : Int)] 118 (0, 0))
  far : ∀ s, (sl s).v.ownBlock ≠ some wb
  ne : wb ≠ bb
  base : B ≤ wb
theorem WkM.c0 {B : Nat} {w : World} {bb : Nat} {st : St} {sl : Site → Slot} {wb ci o : Nat} (h : WkM B w bb st sl wb ci o) : w.cell? ⟨wb, 0, none⟩ = some (.int .i32 (ci : Int)) := by simp [World.cell?, h.box]
theorem WkM.c1 {B : Nat} {w : World} {bb : Nat} {st : St} {sl : Site → Slot} {wb ci o : Nat} (h : WkM B w bb st sl wb ci o) : w.cell? ⟨wb, 1, none⟩ = some (.int .i32 (o : Int)) := by simp [World.cell?, h.box]
theorem WkM.fz {B : Nat} {w : World} {bb : Nat} {st : St} {sl : Site → Slot} {wb ci o : Nat} (h : WkM B w bb st sl wb ci o) (j : Nat) : w.frozen? ⟨wb, j, none⟩ = false := by simp [World.frozen?, h.box]
theorem WkM.rest {B : Nat} {w w' : World} {bb : Nat} {st : St} {sl : Site → Slot} {wb ci o : Nat} (h : WkM B w bb st sl wb ci o) (hb : Below w.heap.size w w') : WkM B w' bb st sl wb ci o :=
  ⟨h.R.rest hb, h.L, by rw [hb.block wb (Array.getElem?_eq_some_iff.1 h.box).1]; exact h.box, h.far, h.ne, h.base⟩
/-- the other literal in the box -/
theorem WkM.other {B : Nat} {w : World} {bb : Nat} {st : St} {sl : Site → Slot} {wb ci o : Nat} (h : WkM B w bb st sl wb ci o) (o' : Nat) : WkM B (w.setCell ⟨wb, 1, none⟩ (.int .i32 (o' : Int))) bb st sl wb ci o' ∧ Below B w (w.setCell ⟨wb, 1, none⟩ (.int .i32 (o' : Int))) := by
  have hg := gset w wb 1 (.int .i32 (o' : Int))
  refine ⟨⟨⟨fun s => (h.R.rows s).kept hg (.inr (h.far s)), h.R.sep, h.R.nb, ?_, h.R.base⟩, h.L, ?_, h.far, h.ne, h.base⟩, setTo (Below.refl _ _) h.base h.R.size⟩
  · rw [hg.block bb h.R.lt (fun e => h.ne (Option.some.inj e).symm)]; exact h.R.board
  · have := heap_setCell_same w wb 1 _ _ (.int .i32 (o' : Int)) h.box
    simpa using this
/-- a row of the board changes in its place -/
theorem WkM.turn {B : Nat} {w w' : World} {bb : Nat} {st st' : St} {sl sl' : Site → Slot} {wb ci o : Nat} (h : WkM B w bb st sl wb ci o) (s : Site) (hg : w.grownBy w' (sl s).v.ownBlock) (R : Rows' B w' bb (fields sl' st') sl') (L : Link sl' st') (hv : ∀ s', (sl' s').v = (sl s').v) : WkM B w' bb st' sl' wb ci o :=
  ⟨R, L, by rw [hg.block wb (Array.getElem?_eq_some_iff.1 h.box).1 (fun e => h.far s e.symm)]; exact h.box, fun s' => by rw [hv s']; exact h.far s', h.ne, h.base⟩
/-- where a clause lies -/
theorem WkM.clause {B : Nat} {w : World} {bb : Nat} {st : St} {sl : Site → Slot} {wb ci o : Nat} (h : WkM B w bb st sl wb ci o) {c : BC} (hc : st.cls[ci]? = some c) (h0 : 0 < c.l.length) : ∃ cb ccap lb lcap, (sl .clauses).v = .slice (some ⟨cb, 0, none⟩) (sl .clauses).n ccap ∧ (sl (.lits ci)).v = .slice (some ⟨lb, 0, none⟩) (sl (.lits ci)).n lcap ∧ B ≤ cb ∧ B ≤ lb ∧ lb ≠ cb ∧ lb ≠ wb ∧ lb ≠ bb ∧ cb ≠ wb ∧ w.cell? ⟨bb, 0, none⟩ = some (.slice (some ⟨cb, 0, none⟩) st.cls.length ccap) ∧ w.cell? ⟨cb, ci * 4, none⟩ = some (.slice (some ⟨lb, 0, none⟩) c.l.length lcap) ∧ w.cell? ⟨cb, ci * 4 + 1, none⟩ = some (.int .i64 (c.next : Int)) ∧ w.cell? ⟨cb, ci * 4 + 2, none⟩ = some (.int .i64 (c.tier : Int)) ∧ (∀ j, w.frozen? ⟨lb, j, none⟩ = false) ∧ ∀ k x : Nat, c.l[k]? = some x → w.cell? ⟨lb, k, none⟩ = some (.int .i32 (x : Int)) := by
  obtain ⟨R, L, _, far, _, _⟩ := h
  have hil : ci < st.cls.length := (List.getElem?_eq_some_iff.1 hc).1
  obtain ⟨q0, q1, q2, q3⟩ := L.cls ci c hc
  obtain ⟨p1, p2⟩ := L.lits ci c hc
  obtain ⟨lb, lcap, hlv, hlB, hlb, _, hlcell, hlfz⟩ := R.form (.lits ci) (by rw [p1]; exact h0)
  obtain ⟨cb, ccap, hcv, hcB, hcl, _, hccell, hcfz⟩ := R.form .clauses (by rw [L.clsN]; omega)
  refine ⟨cb, ccap, lb, lcap, hcv, hlv, hcB, hlB, fun e => ?_, fun e => far (.lits ci) (by rw [hlv, e]; rfl), fun e => R.nb (.lits ci) (by rw [hlv, e]; rfl), fun e => far .clauses (by rw [hcv, e]; rfl), ?_, ?_, ?_, ?_, hlfz, fun k x hx => ?_⟩
  · have := R.sep (.lits ci) .clauses lb (by rw [hlv]; rfl) (by rw [hcv, e]; rfl)
    cases this
  · rw [R.field 0, ← L.clsN, ← hcv]; rfl
  · rw [hccell (ci * 4) (by rw [L.clsN]; simp [Site.sz]; omega), Nat.mul_comm, q0, hlv, p1]
  · rw [hccell (ci * 4 + 1) (by rw [L.clsN]; simp [Site.sz]; omega), Nat.mul_comm, q1]
  · rw [hccell (ci * 4 + 2) (by rw [L.clsN]; simp [Site.sz]; omega), Nat.mul_comm, q2]
  · have := (List.getElem?_eq_some_iff.1 hx).1
    rw [hlcell k (by rw [p1]; simp [Site.sz]; omega), p2]; exact litV_get _ _ _ hx
/-- what is held -/
theorem WkM.heldC {B : Nat} {w : World} {bb : Nat} {st : St} {sl : Site → Slot} {wb ci o : Nat} (h : WkM B w bb st sl wb ci o) (hV : 0 < st.V) : ∃ hb hc, w.cell? ⟨bb, 3, none⟩ = some (.slice (some ⟨hb, 0, none⟩) (2 * st.V) hc) ∧ ∀ l, l < 2 * st.V → w.cell? ⟨hb, l, none⟩ = some (.int .i8 (st.held.getD l 0)) := by
  obtain ⟨R, L, _, _, _, _⟩ := h
  obtain ⟨hb, hc, hv, _, _, _, hcell, _⟩ := R.form .held (by rw [L.held.1]; omega)
  refine ⟨hb, hc, by rw [R.field 3, ← L.held.1, ← hv]; rfl, fun l hl => ?_⟩
  rw [hcell l (by rw [L.held.1]; simp [Site.sz]; omega), L.held.2]
  have : l < st.held.length := by rw [L.heldL]; exact hl
  rw [List.getD_eq_getElem?_getD]
  obtain ⟨x, hx⟩ := getElem_lt this
  rw [hx]; exact i8V_get _ _ _ hx
/-- two literals of a clause change places in memory -/
theorem WkM.swap {B : Nat} {w : World} {bb : Nat} {st : St} {sl : Site → Slot} {wb ci o : Nat} (h : WkM B w bb st sl wb ci o) {c : BC} (hc : st.cls[ci]? = some c) {lb lcap : Nat} (hlv : (sl (.lits ci)).v = .slice (some ⟨lb, 0, none⟩) (sl (.lits ci)).n lcap) {i j x y : Nat} (hx : c.l[i]? = some x) (hy : c.l[j]? = some y) : WkM B ((w.setCell ⟨lb, i, none⟩ (.int .i32 (y : Int))).setCell ⟨lb, j, none⟩ (.int .i32 (x : Int))) bb (st.listAt ci (swp c.l i j)) (setS sl (.lits ci) ⟨(sl (.lits ci)).v, (sl (.lits ci)).n, litV (swp c.l i j)⟩) wb ci o ∧ Below B w ((w.setCell ⟨lb, i, none⟩ (.int .i32 (y : Int))).setCell ⟨lb, j, none⟩ (.int .i32 (x : Int))) := by
  obtain ⟨p1, p2⟩ := h.L.lits ci c hc
  have hlB : B ≤ lb := ((h.R.rows (.lits ci)).lt lb (by rw [hlv]; rfl)).1
  have R1 := h.R.setR (.lits ci) hlv i (.int .i32 (y : Int))
  have R2 := R1.setR (.lits ci) (g := lb) (cap := lcap) (by rw [setS_same]; exact hlv) j (.int .i32 (x : Int))
  rw [setS_same, setS_twice] at R2
  dsimp only at R2
  have ex : litV (swp c.l i j) = ((sl (.lits ci)).xs.set i (.int .i32 (y : Int))).set j (.int .i32 (x : Int)) := by
    rw [p2]
    unfold swp litV
    have e1 : c.l.getD i 0 = x := by rw [List.getD_eq_getElem?_getD, hx]; rfl
    have e2 : c.l.getD j 0 = y := by rw [List.getD_eq_getElem?_getD, hy]; rfl
    rw [e1, e2, List.map_set, List.map_set]
  rw [← ex] at R2
  have ef : fields (setS sl (.lits ci) ⟨(sl (.lits ci)).v, (sl (.lits ci)).n, litV (swp c.l i j)⟩) (st.listAt ci (swp c.l i j)) = fields sl st := by rw [fields_next]; rfl
  refine ⟨h.turn (.lits ci) (by rw [hlv]; exact grown_trans' (gset _ _ _ _) (gset _ _ _ _)) (by rw [ef]; exact R2) (h.L.listAt hc _ (swp_len _ _ _)) (fun s' => ?_), setTo (setTo (Below.refl _ _) hlB h.R.size) hlB (by simpa using h.R.size)⟩
  by_cases e : s' = .lits ci
  · subst e; rw [setS_same]
  · rw [setS_other _ _ e]

end Go.Proofs.Ytllaedigdjhkjaa
