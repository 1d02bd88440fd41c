import Derived.Test.YtllaedigdjhkjaaRhE
namespace Go.Proofs.Ytllaedigdjhkjaa
open Go.RowKit

theorem Good.new (V : Nat) (hV : V ≤ 100000) : Good [] (St.new V) := by
  have hw : Wd (St.new V).V (St.new V).cls (St.new V).W := ⟨fun i c hc => (by cases hc), fun i c u hc => (by cases hc), fun t l i o hm => (by cases hm), fun t l => List.nodup_nil⟩
  have hg : ∀ y, (St.new V).held.getD y 0 = 0 := fun y => by
    show (List.replicate (2 * V) (0 : Int)).getD y 0 = 0
    rw [List.getD_eq_getElem?_getD, List.getElem?_replicate]
    split <;> rfl
  refine Good.of hV rfl ⟨hw, ⟨by simp [St.new], fun y hy => ?_, fun y hy => (by cases hy), List.nodup_nil, fun y hy => (by cases hy), Nat.le_refl _, Nat.le_refl _⟩, fun r hr => ?_, fun i c u hc => (by cases hc), ⟨fun l hl => ?_, fun c hc => (by cases hc), fun d hd => (by cases hd), fun c hc => (by cases hc)⟩, rfl, rfl⟩ (fun c hc => by cases hc)
  · rw [hg]; simp [St.new]
  · have : r = 0 := by
      have hr' : r ∈ List.replicate V (0 : Int) := hr
      exact (List.mem_replicate.1 hr').2
    subst this; exact ⟨by omega, .inl (by omega)⟩
  · obtain ⟨y, hy, _⟩ := hl; cases hy
theorem Link.push {sl : Site → Slot} {st : St} (h : Link sl st) (hxs : (sl .clauses).xs.length = st.cls.length * 4) (c : BC) (v v' : Value) (hlit : sl (.lits st.cls.length) = ⟨v, c.l.length, litV c.l⟩) :
    Link (setS sl .clauses ⟨v', st.cls.length + 1, (sl .clauses).xs ++ [v, .int .i64 (c.next : Int), .int .i64 (c.tier : Int), .int .i64 (c.round : Int)]⟩) (st.push c) := by
  refine ⟨h.hV, ?_, h.heldL, ?_, h.reasonL, ?_, h.usedL, ?_, ?_, ?_, ?_, ?_, ?_⟩
  · simpa [setS, St.push] using h.held
  · simpa [setS, St.push] using h.reason
  · simpa [setS, St.push] using h.used
  · simpa [setS, St.push] using h.trail
  · rw [setS_same]; simp [St.push]
  · intro j d hd
    rw [setS_same, setS_other _ _ (by intro e; cases e)]
    dsimp only
    rcases push_get hd with ⟨rfl, rfl⟩ | ⟨hj, hd⟩
    · rw [hlit]
      refine ⟨?_, ?_, ?_, ?_⟩
      · rw [List.getElem?_append_right (by omega), hxs]; simp [show 4 * st.cls.length - st.cls.length * 4 = 0 by omega]
      · rw [List.getElem?_append_right (by omega), hxs]; simp [show 4 * st.cls.length + 1 - st.cls.length * 4 = 1 by omega]
      · rw [List.getElem?_append_right (by omega), hxs]; simp [show 4 * st.cls.length + 2 - st.cls.length * 4 = 2 by omega]
      · rw [List.getElem?_append_right (by omega), hxs]; simp [show 4 * st.cls.length + 3 - st.cls.length * 4 = 3 by omega]
    · obtain ⟨q0, q1, q2, q3⟩ := h.cls j d hd
      refine ⟨?_, ?_, ?_, ?_⟩
      · rw [List.getElem?_append_left (by omega)]; exact q0
      · rw [List.getElem?_append_left (by omega)]; exact q1
      · rw [List.getElem?_append_left (by omega)]; exact q2
      · rw [List.getElem?_append_left (by omega)]; exact q3
  · intro j d hd
    rw [setS_other _ _ (by intro e; cases e)]
    rcases push_get hd with ⟨rfl, rfl⟩ | ⟨hj, hd⟩
    · rw [hlit]; exact ⟨rfl, rfl⟩
    · exact h.lits j d hd
  · intro t ht
    simpa [setS, St.push] using h.row t ht
  · intro t l' ht hl
    simpa [setS, St.push] using h.wl t l' ht hl
theorem push_rows {B : Nat} {w w5 : World} {bb : Nat} {st : St} {sl : Site → Slot} {g cap : Nat} {v : Value} (R : Rows' B w bb (fields sl st) sl) (L : Link sl st) (c : BC) (hlit : sl (.lits st.cls.length) = ⟨v, c.l.length, litV c.l⟩) (hg : w.grownBy w5 (sl .clauses).v.ownBlock)
    (hown : w5.ownsRow B 80 4 (.slice (some ⟨g, 0, none⟩) (st.cls.length + 1) cap) (st.cls.length + 1) ((sl .clauses).xs ++ [v, .int .i64 (c.next : Int), .int .i64 (c.tier : Int), .int .i64 (c.round : Int)]))
    (hat : ∀ k, (Value.slice (some ⟨g, 0, none⟩) (st.cls.length + 1) cap).ownBlock = some k → (sl .clauses).v.ownBlock = some k ∨ w.heap.size ≤ k) :
    ∃ X, Bd B (w5.setCell ⟨bb, 0, none⟩ (.slice (some ⟨g, 0, none⟩) (st.cls.length + 1) cap)) bb (st.push c) X (.slice (some ⟨g, 0, none⟩) (st.cls.length + 1) cap) ∧ Below B w (w5.setCell ⟨bb, 0, none⟩ (.slice (some ⟨g, 0, none⟩) (st.cls.length + 1) cap)) := by
  have hxs := (R.rows .clauses).1
  rw [L.clsN] at hxs
  have R2 := R.grow .clauses ⟨.slice (some ⟨g, 0, none⟩) (st.cls.length + 1) cap, st.cls.length + 1, (sl .clauses).xs ++ [v, .int .i64 (c.next : Int), .int .i64 (c.tier : Int), .int .i64 (c.round : Int)]⟩ hg hown hat
  have R3 := R2.setB 0 (.slice (some ⟨g, 0, none⟩) (st.cls.length + 1) cap)
  have L3 := L.push hxs c v (.slice (some ⟨g, 0, none⟩) (st.cls.length + 1) cap) hlit
  have hb := R.below .clauses hg
  refine ⟨_, ⟨_, ?_, L3, rfl, by rw [setS_same]⟩, setTo hb R.base (Nat.le_trans R.size hb.size)⟩
  have ef : fields (setS sl .clauses ⟨.slice (some ⟨g, 0, none⟩) (st.cls.length + 1) cap, st.cls.length + 1, (sl .clauses).xs ++ [v, .int .i64 (c.next : Int), .int .i64 (c.tier : Int), .int .i64 (c.round : Int)]⟩) (st.push c) = (fields sl st).setIfInBounds 0 (.slice (some ⟨g, 0, none⟩) (st.cls.length + 1) cap) := by
    simp [fields, setS, St.push]
  rw [ef]; exact R3
theorem info_cls0 : (Try.prog.info? 80).map (fun i => (i.zero, i.size, i.bytes)) = some (some (.agg #[.slice none 0 0, .int .i64 0, .int .i64 0, .int .i64 0]), 4, 48) := by kernel_rfl
theorem info_cls : ∃ i, Try.prog.info? 80 = some i ∧ i.zero = some (.agg #[.slice none 0 0, .int .i64 0, .int .i64 0, .int .i64 0]) ∧ i.size = 4 ∧ i.bytes = 48 := by
  have h := info_cls0
  cases hi : Try.prog.info? 80 with
  | none => rw [hi] at h; cases h
  | some i => rw [hi] at h; simp at h; exact ⟨i, rfl, h.1, h.2.1, h.2.2⟩
/-- what add leaves -/
def AddP (F : List (List Int)) (c : List Int) (B : Nat) (w : World) (bb : Nat) (st : St) (w' : World) : Prop := ∃ st', BD B w' bb st' ∧ Good (F ++ [c]) st' ∧ st'.V = st.V ∧ st'.cls.length ≤ st.cls.length + 1 ∧ st'.steps = st.steps ∧ st'.round = st.round ∧ Below B w w'
/-- the slice of what is open -/
theorem Bd.xform {B : Nat} {w : World} {bb : Nat} {st : St} {v : Value} {op : List Nat} {CV : Value} (h : Bd B w bb st ⟨v, op.length, litV op⟩ CV) : ∃ a c, v = .slice a op.length c ∧ (0 < op.length → ∃ vb, a = some ⟨vb, 0, none⟩ ∧ ∀ j x : Nat, op[j]? = some x → w.cell? ⟨vb, j, none⟩ = some (.int .i32 (x : Int))) := by
  have ho := h.own
  dsimp only at ho
  have ho2 := ho
  rcases ho.2 with ⟨h1, h2⟩ | ⟨g, cap, cur, h1, _⟩
  · exact ⟨none, 0, by rw [h1, h2], fun h3 => by omega⟩
  · refine ⟨_, cap, h1, fun _ => ⟨g, rfl, fun j x hx => ?_⟩⟩
    rw [h1] at ho2
    have hj := (List.getElem?_eq_some_iff.1 hx).1
    rw [ho2.cellAt j (by omega)]
    exact litV_get _ _ _ hx

end Go.Proofs.Ytllaedigdjhkjaa
