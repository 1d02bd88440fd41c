import Derived.Test.YtllaedigdjhkjaaRfU
namespace Go.Proofs.Ytllaedigdjhkjaa
open Go.RowKit

/-- the variables of some literals are of use -/
def St.useL (st : St) (ls : List Nat) : St := ls.foldl (fun s l => s.useV (l / 2) true) st
theorem useL_next (st : St) (ls : List Nat) (k l : Nat) (h : ls[k]? = some l) : st.useL (ls.take (k + 1)) = (st.useL (ls.take k)).useV (l / 2) true := by
  rw [take_next ls k l h]; simp [St.useL]
theorem useL_same (st : St) (ls : List Nat) : (st.useL ls).V = st.V ∧ (st.useL ls).cls = st.cls := by
  unfold St.useL
  induction ls generalizing st with
  | nil => exact ⟨rfl, rfl⟩
  | cons a r ih => rw [List.foldl_cons]; exact ⟨(ih _).1, (ih _).2⟩
/-- a clause and where it lies -/
theorem Bd.clause {B : Nat} {w : World} {bb : Nat} {st : St} {X : Slot} {CV : Value} (h : Bd B w bb st X CV) {i : Nat} {c : BC} (hc : st.cls[i]? = some c) (h0 : 0 < c.l.length) : ∃ cb ccap lb lcap, CV = .slice (some ⟨cb, 0, none⟩) st.cls.length ccap ∧ B ≤ cb ∧ cb < w.heap.size ∧ lb < w.heap.size ∧ w.cell? ⟨bb, 0, none⟩ = some CV ∧ w.cell? ⟨cb, i * 4, none⟩ = some (.slice (some ⟨lb, 0, none⟩) c.l.length lcap) ∧ w.cell? ⟨cb, i * 4 + 2, none⟩ = some (.int .i64 (c.tier : Int)) ∧ w.cell? ⟨cb, i * 4 + 3, none⟩ = some (.int .i64 (c.round : Int)) ∧ (∀ j, w.frozen? ⟨cb, j, none⟩ = false) ∧ ∀ k x : Nat, c.l[k]? = some x → w.cell? ⟨lb, k, none⟩ = some (.int .i32 (x : Int)) := by
  obtain ⟨sl, R, L, _, rfl⟩ := h
  have hil : i < st.cls.length := (List.getElem?_eq_some_iff.1 hc).1
  obtain ⟨q0, q1, q2, q3⟩ := L.cls i c hc
  obtain ⟨p1, p2⟩ := L.lits i c hc
  obtain ⟨lb, lcap, hlv, _, hlb, _, hlcell, _⟩ := R.form (.lits i) (by rw [p1]; exact h0)
  obtain ⟨cb, ccap, hcv, hcB, hcl, _, hccell, hcfz⟩ := R.form .clauses (by rw [L.clsN]; omega)
  refine ⟨cb, ccap, lb, lcap, by rw [hcv, L.clsN], hcB, hcl, hlb, R.field 0, ?_, ?_, ?_, hcfz, fun k x hx => ?_⟩
  · rw [hccell (i * 4) (by rw [L.clsN]; simp [Site.sz]; omega), Nat.mul_comm, q0, hlv, p1]
  · rw [hccell (i * 4 + 2) (by rw [L.clsN]; simp [Site.sz]; omega), Nat.mul_comm, q2]
  · rw [hccell (i * 4 + 3) (by rw [L.clsN]; simp [Site.sz]; omega), Nat.mul_comm, q3]
  · have := (List.getElem?_eq_some_iff.1 hx).1
    rw [hlcell k (by rw [p1]; simp [Site.sz]; omega), p2]; exact litV_get _ _ _ hx
/-- a clause's round is set -/
theorem Bd.roundAt {B : Nat} {w : World} {bb : Nat} {st : St} {X : Slot} {CV : Value} (h : Bd B w bb st X CV) (i k cb n ccap : Nat) (hCV : CV = .slice (some ⟨cb, 0, none⟩) n ccap) : Bd B (w.setCell ⟨cb, i * 4 + 3, none⟩ (.int .i64 (k : Int))) bb (st.roundAt i k) X CV ∧ Below B w (w.setCell ⟨cb, i * 4 + 3, none⟩ (.int .i64 (k : Int))) := by
  obtain ⟨sl, R, L, hX, hv⟩ := h
  rw [hCV] at hv
  have hr := R.rows .clauses
  have hn : n = (sl .clauses).n := by
    rcases hr.2 with ⟨h1, _⟩ | ⟨g, cap, cur, h1, _⟩
    · rw [hv] at h1; cases h1
    · rw [hv] at h1; cases h1; rfl
  rw [hn] at hv
  have hB : B ≤ cb := (hr.lt cb (by rw [hv]; rfl)).1
  rw [Nat.mul_comm i 4]
  refine ⟨⟨_, ?_, L.roundAt i k, ?_, ?_⟩, setTo (Below.refl _ _) hB R.size⟩
  · have := R.setR .clauses hv (4 * i + 3) (.int .i64 (k : Int))
    have ef : fields (setS sl .clauses ⟨(sl .clauses).v, (sl .clauses).n, (sl .clauses).xs.set (4 * i + 3) (.int .i64 (k : Int))⟩) (st.roundAt i k) = fields sl st := by simp [fields, setS, St.roundAt]
    rw [ef]; exact this
  · rw [← hX]; simp [setS, St.roundAt]
  · rw [setS_same, hCV, hn]; exact hv
/-- a variable's mark -/
theorem Bd.usedC {B : Nat} {w : World} {bb : Nat} {st : St} {X : Slot} {CV : Value} (h : Bd B w bb st X CV) {v : Nat} (hv : v < st.V) : ∃ ub uc u, w.cell? ⟨bb, 5, none⟩ = some (.slice (some ⟨ub, 0, none⟩) st.V uc) ∧ w.cell? ⟨ub, v, none⟩ = some (.bool u) ∧ st.used[v]? = some u ∧ w.frozen? ⟨ub, v, none⟩ = false ∧ ub ≠ bb ∧ ∀ (w' : World) (b : Bool), Below w.heap.size w w' → Bd B (w'.setCell ⟨ub, v, none⟩ (.bool b)) bb (st.useV v b) X CV ∧ Below B w (w'.setCell ⟨ub, v, none⟩ (.bool b)) := by
  obtain ⟨sl, R, L, hX, hCV⟩ := h
  obtain ⟨ub, uc, huv, huB, hul, _, hcell, hfz⟩ := R.form .used (by rw [L.used.1]; omega)
  obtain ⟨u, hu⟩ := getElem_lt (show v < st.used.length by rw [L.usedL]; exact hv)
  refine ⟨ub, uc, u, by rw [R.field 5, ← L.used.1, ← huv]; rfl, ?_, hu, hfz v, fun e => R.nb .used (by rw [huv, ← e]; rfl), fun w' b hb => ?_⟩
  · rw [hcell v (by rw [L.used.1]; simp [Site.sz]; omega), L.used.2]; simp [boolV, hu]
  · have R1 := R.rest hb
    refine ⟨⟨_, ?_, L.useV v b, ?_, ?_⟩, setTo (hb.mono R.size) huB R1.size⟩
    · have := R1.setR .used huv v (.bool b)
      have ef : fields (setS sl .used ⟨(sl .used).v, (sl .used).n, (sl .used).xs.set v (.bool b)⟩) (st.useV v b) = fields sl st := by simp [fields, setS, St.useV]
      rw [ef]; exact this
    · rw [← hX]; simp [setS, St.useV]
    · rw [← hCV]; simp [setS]

end Go.Proofs.Ytllaedigdjhkjaa
