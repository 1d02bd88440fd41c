import Derived.Test.YtibjgoigdajkkaaDoorJ34
namespace Go.Proofs.YtibjgoigdajkkaaDoor
open Go.RowKit

theorem sV_append {v u : List Bool} {s : Int} (h0 : 0 ≤ s) (h : s < v.length) : sV (v ++ u) s = sV v s := by
  unfold sV; rw [List.getElem?_append_left (by omega)]
theorem tabV_append {d : TbD} {v u : List Bool} (h : ∀ s, s ∈ d.ins → 0 ≤ s ∧ s < v.length) : tabV d (v ++ u) = tabV d v := by
  unfold tabV
  rw [List.map_congr_left (fun s hs => sV_append (h s hs).1 (h s hs).2)]
/-- the values of tables -/
theorem tabs_val (v : List Bool) (l : List TbD) (hin : ∀ (k : Nat) (d : TbD), l[k]? = some d → ∀ s, s ∈ d.ins → 0 ≤ s ∧ s < (v.length : Int) + k) : ∀ (k : Nat) (d : TbD), l[k]? = some d → sV (tabsN v l) ((v.length : Int) + k) = tabV d (tabsN v l) := by
  induction l generalizing v with
  | nil => intro k d h; simp at h
  | cons a t ih =>
    intro k d h
    have ha := hin 0 a rfl
    have e : tabsN v (a :: t) = tabsN (v ++ [tabV a v]) t := rfl
    have hpre : ∀ (l : List TbD) (v : List Bool), ∃ u, tabsN v l = v ++ u := by
      intro l
      induction l with
      | nil => intro v; exact ⟨[], by simp [tabsN]⟩
      | cons b r ih2 =>
        intro v
        obtain ⟨u, hu⟩ := ih2 (v ++ [tabV b v])
        exact ⟨[tabV b v] ++ u, by show tabsN (v ++ [tabV b v]) r = _; rw [hu, List.append_assoc]⟩
    rw [e]
    cases k with
    | zero =>
      simp only [List.getElem?_cons_zero, Option.some.injEq] at h
      subst h
      obtain ⟨u, hu⟩ := hpre t (v ++ [tabV a v])
      rw [hu, List.append_assoc, tabV_append (fun s hs => by have := ha s hs; exact ⟨this.1, by simpa using this.2⟩)]
      unfold sV
      rw [show ((v.length : Int) + (0 : Nat)).toNat = v.length by omega, List.getElem?_append_right (Nat.le_refl _)]
      simp
    | succ k =>
      have := ih (v ++ [tabV a v]) (fun k d hd s hs => by
        have := hin (k + 1) d hd s hs
        rw [List.length_append, List.length_singleton]
        exact ⟨this.1, by omega⟩) k d h
      rw [List.length_append, List.length_singleton] at this
      rw [show (v.length : Int) + ((k + 1 : Nat) : Int) = ((v.length + 1 : Nat) : Int) + (k : Int) by omega]
      exact this
theorem tabs_old (v : List Bool) (l : List TbD) {s : Int} (h0 : 0 ≤ s) (h : s < v.length) : sV (tabsN v l) s = sV v s := by
  induction l generalizing v with
  | nil => rfl
  | cons a t ih =>
    show sV (tabsN (v ++ [tabV a v]) t) s = _
    rw [ih _ (by rw [List.length_append]; omega), sV_append h0 h]
theorem spell_false (l : List Bool) : spell (l ++ [false]) = spell l := by rw [spell_snoc]; simp
theorem spell_pass (b : Bool) : bitAt 2 (spell [b, false, false, false]) = b := by cases b <;> decide
/-- what a column knows of the net's signals -/
def Rel (f : Int → Option Int) (v u : List Bool) : Prop := sV u 0 = false ∧ ∀ s x, f s = some x → sV u x = sV v s
theorem Rel.whr {f : Int → Option Int} {v u : List Bool} (h : Rel f v u) {s y : Int} (hs : f s = some y) : sV u (whr f s) = sV v s := by
  unfold Go.Proofs.YtibjgoigdajkkaaDoor.whr; rw [hs]; exact h.2 s y hs
theorem cell_pass {f : Int → Option Int} {v u : List Bool} (h : Rel f v u) {s y : Int} (hs : f s = some y) : cellV (ceP f s) u = sV v s := by
  unfold cellV ceP
  show bitAt 2 (spell [sV u (Go.Proofs.YtibjgoigdajkkaaDoor.whr f s), sV u 0, sV u 0, sV u 0]) = _
  rw [h.1, spell_pass, h.whr hs]
theorem cell_tab {f : Int → Option Int} {v u : List Bool} (h : Rel f v u) {d : TbD} (hd : d.ins.length ≤ 4) (hs : ∀ s, s ∈ d.ins → ∃ y, f s = some y) : cellV (ceT f d) u = tabV d v := by
  have hw : ∀ s, s ∈ d.ins → sV u (Go.Proofs.YtibjgoigdajkkaaDoor.whr f s) = sV v s := fun s hx => by obtain ⟨y, hy⟩ := hs s hx; exact h.whr hy
  unfold tabV
  obtain ⟨a, c, ins, bits⟩ := d
  dsimp only at *
  match ins, hd, hw with
  | [], _, _ =>
    show bitAt bits (spell [sV u 0, sV u 0, sV u 0, sV u 0]) = _
    rw [h.1]; rfl
  | [s0], _, hw =>
    show bitAt bits (spell [sV u (Go.Proofs.YtibjgoigdajkkaaDoor.whr f s0), sV u 0, sV u 0, sV u 0]) = _
    rw [h.1, hw s0 (by simp)]
    show bitAt bits (spell ([sV v s0, false, false] ++ [false])) = _
    rw [spell_false]
    show bitAt bits (spell ([sV v s0, false] ++ [false])) = _
    rw [spell_false]
    show bitAt bits (spell ([sV v s0] ++ [false])) = _
    rw [spell_false]; rfl
  | [s0, s1], _, hw =>
    show bitAt bits (spell [sV u (Go.Proofs.YtibjgoigdajkkaaDoor.whr f s0), sV u (Go.Proofs.YtibjgoigdajkkaaDoor.whr f s1), sV u 0, sV u 0]) = _
    rw [h.1, hw s0 (by simp), hw s1 (by simp)]
    show bitAt bits (spell ([sV v s0, sV v s1, false] ++ [false])) = _
    rw [spell_false]
    show bitAt bits (spell ([sV v s0, sV v s1] ++ [false])) = _
    rw [spell_false]; rfl
  | [s0, s1, s2], _, hw =>
    show bitAt bits (spell [sV u (Go.Proofs.YtibjgoigdajkkaaDoor.whr f s0), sV u (Go.Proofs.YtibjgoigdajkkaaDoor.whr f s1), sV u (Go.Proofs.YtibjgoigdajkkaaDoor.whr f s2), sV u 0]) = _
    rw [h.1, hw s0 (by simp), hw s1 (by simp), hw s2 (by simp)]
    show bitAt bits (spell ([sV v s0, sV v s1, sV v s2] ++ [false])) = _
    rw [spell_false]; rfl
  | [s0, s1, s2, s3], _, hw =>
    show bitAt bits (spell [sV u (Go.Proofs.YtibjgoigdajkkaaDoor.whr f s0), sV u (Go.Proofs.YtibjgoigdajkkaaDoor.whr f s1), sV u (Go.Proofs.YtibjgoigdajkkaaDoor.whr f s2), sV u (Go.Proofs.YtibjgoigdajkkaaDoor.whr f s3)]) = _
    rw [hw s0 (by simp), hw s1 (by simp), hw s2 (by simp), hw s3 (by simp)]; rfl


end Go.Proofs.YtibjgoigdajkkaaDoor

namespace Go.Proofs.YtibjgoigdajkkaaDoor
open Go.RowKit

theorem base2_spec {s x : Int} (h : base2 s = some x) : (s = 0 ∧ x = 0) ∨ (s = 1 ∧ x = 1) := by
  unfold base2 updI at h
  by_cases e1 : s = 1
  · rw [if_pos e1] at h; cases h; exact Or.inr ⟨e1, rfl⟩
  · rw [if_neg e1] at h
    by_cases e0 : s = 0
    · rw [if_pos e0] at h; cases h; exact Or.inl ⟨e0, rfl⟩
    · rw [if_neg e0] at h; cases h
theorem updI_some {f : Int → Option Int} {k v s : Int} (h : ∃ x, f s = some x) : ∃ x, updI f k v s = some x := by
  unfold updI
  by_cases e : s = k
  · exact ⟨v, by rw [if_pos e]⟩
  · rw [if_neg e]; exact h
theorem updI_same (f : Int → Option Int) (k v : Int) : ∃ x, updI f k v k = some x := ⟨v, by unfold updI; rw [if_pos rfl]⟩
theorem base2_some {s : Int} (h : s = 0 ∨ s = 1) : ∃ x, base2 s = some x := by
  rcases h with rfl | rfl
  · exact ⟨0, by decide⟩
  · exact ⟨1, by decide⟩
theorem rowsK_spec (sig : Nat → Nat) (hl : List Nat) (k : Nat) {s x : Int} (h : rowsK sig hl k s = some x) : (s = 0 ∧ x = 0) ∨ (s = 1 ∧ x = 1) ∨ ∃ r, r < k ∧ s = (sig (hl.getD r 0) : Nat) ∧ x = 2 + (r : Int) := by
  induction k with
  | zero => rcases base2_spec h with h | h; exact Or.inl h; exact Or.inr (Or.inl h)
  | succ k ih =>
    unfold rowsK updI at h
    by_cases e : s = (sig (hl.getD k 0) : Nat)
    · rw [if_pos e] at h
      cases h
      exact Or.inr (Or.inr ⟨k, by omega, e, rfl⟩)
    · rw [if_neg e] at h
      rcases ih h with h | h | ⟨r, hr, h1, h2⟩
      · exact Or.inl h
      · exact Or.inr (Or.inl h)
      · exact Or.inr (Or.inr ⟨r, by omega, h1, h2⟩)
theorem rowsK_some (sig : Nat → Nat) (hl : List Nat) (k : Nat) {s : Int} (h : s = 0 ∨ s = 1 ∨ ∃ r, r < k ∧ s = (sig (hl.getD r 0) : Nat)) : ∃ x, rowsK sig hl k s = some x := by
  induction k with
  | zero =>
    rcases h with h | h | ⟨r, hr, _⟩
    · exact base2_some (Or.inl h)
    · exact base2_some (Or.inr h)
    · omega
  | succ k ih =>
    unfold rowsK
    rcases h with h | h | ⟨r, hr, h⟩
    · exact updI_some (ih (Or.inl h))
    · exact updI_some (ih (Or.inr (Or.inl h)))
    · by_cases e : r = k
      · rw [h, e]; exact updI_same _ _ _
      · exact updI_some (ih (Or.inr (Or.inr ⟨r, by omega, h⟩)))
theorem srcA_spec (k : Nat) {s x : Int} (h : srcA k s = some x) : (s = 0 ∧ x = 0) ∨ (s = 1 ∧ x = 1) ∨ ∃ i : Nat, i < k ∧ s = 2 + (i : Int) ∧ x = 2 + (i : Int) := by
  induction k with
  | zero => rcases base2_spec h with h | h; exact Or.inl h; exact Or.inr (Or.inl h)
  | succ k ih =>
    unfold srcA updI at h
    by_cases e : s = (2 : Int) + (k : Int)
    · rw [if_pos e] at h
      cases h
      exact Or.inr (Or.inr ⟨k, by omega, e, rfl⟩)
    · rw [if_neg e] at h
      rcases ih h with h | h | ⟨r, hr, h1, h2⟩
      · exact Or.inl h
      · exact Or.inr (Or.inl h)
      · exact Or.inr (Or.inr ⟨r, by omega, h1, h2⟩)
theorem srcA_some (k : Nat) {s : Int} (h : s = 0 ∨ s = 1 ∨ ∃ i : Nat, i < k ∧ s = 2 + (i : Int)) : ∃ x, srcA k s = some x := by
  induction k with
  | zero =>
    rcases h with h | h | ⟨r, hr, _⟩
    · exact base2_some (Or.inl h)
    · exact base2_some (Or.inr h)
    · omega
  | succ k ih =>
    unfold srcA
    rcases h with h | h | ⟨r, hr, h⟩
    · exact updI_some (ih (Or.inl h))
    · exact updI_some (ih (Or.inr (Or.inl h)))
    · by_cases e : r = k
      · rw [h, e]; exact updI_same _ _ _
      · exact updI_some (ih (Or.inr (Or.inr ⟨r, by omega, h⟩)))
theorem srcB_spec (ni si k : Nat) {s x : Int} (h : srcB ni si k s = some x) : (s = 0 ∧ x = 0) ∨ (s = 1 ∧ x = 1) ∨ (∃ i : Nat, i < ni ∧ s = 2 + (i : Int) ∧ x = 2 + (i : Int)) ∨ ∃ i : Nat, i < k ∧ s = 2 + (ni : Int) + (i : Int) ∧ x = 2 + (si : Int) + (i : Int) := by
  induction k with
  | zero =>
    rcases srcA_spec ni h with h | h | h
    · exact Or.inl h
    · exact Or.inr (Or.inl h)
    · exact Or.inr (Or.inr (Or.inl h))
  | succ k ih =>
    unfold srcB updI at h
    by_cases e : s = (2 : Int) + (ni : Int) + (k : Int)
    · rw [if_pos e] at h
      cases h
      exact Or.inr (Or.inr (Or.inr ⟨k, by omega, e, rfl⟩))
    · rw [if_neg e] at h
      rcases ih h with h | h | h | ⟨r, hr, h1, h2⟩
      · exact Or.inl h
      · exact Or.inr (Or.inl h)
      · exact Or.inr (Or.inr (Or.inl h))
      · exact Or.inr (Or.inr (Or.inr ⟨r, by omega, h1, h2⟩))
theorem srcB_some (ni si k : Nat) {s : Int} (h : s = 0 ∨ s = 1 ∨ (∃ i : Nat, i < ni ∧ s = 2 + (i : Int)) ∨ ∃ i : Nat, i < k ∧ s = 2 + (ni : Int) + (i : Int)) : ∃ x, srcB ni si k s = some x := by
  induction k with
  | zero =>
    rcases h with h | h | h | ⟨r, hr, _⟩
    · exact srcA_some ni (Or.inl h)
    · exact srcA_some ni (Or.inr (Or.inl h))
    · exact srcA_some ni (Or.inr (Or.inr h))
    · omega
  | succ k ih =>
    unfold srcB
    rcases h with h | h | h | ⟨r, hr, h⟩
    · exact updI_some (ih (Or.inl h))
    · exact updI_some (ih (Or.inr (Or.inl h)))
    · exact updI_some (ih (Or.inr (Or.inr (Or.inl h))))
    · by_cases e : r = k
      · rw [h, e]; exact updI_same _ _ _
      · exact updI_some (ih (Or.inr (Or.inr (Or.inr ⟨r, by omega, h⟩))))
/-- from one column to the next -/
theorem rel_col {D : PnS} {T : PnT} {N : NtD} {f : Int → Option Int} {c : Nat} {hl : List Nat} {v u : List Bool} (h : Rel f v u) (hv0 : sV v 0 = false) (hv1 : sV v 1 = true) (hK : LookOk D T N f c hl) (hF : 0 ≤ N.first)
    (ht : ∀ (k : Nat) (d : TbD), N.tabs[k]? = some d → d.ins.length ≤ 4 ∧ sV v (N.first + k) = tabV d v) (cs : List CeD) (hcs : ∀ (r i : Nat), hl[r]? = some i → cs[r]? = some (ceO D T N f c i)) :
    Rel (rowsK D.sig hl hl.length) v (colV u cs) := by
  refine ⟨rfl, fun s x hx => ?_⟩
  rcases rowsK_spec _ _ _ hx with ⟨rfl, rfl⟩ | ⟨rfl, rfl⟩ | ⟨r, hr, rfl, rfl⟩
  · rw [hv0]; rfl
  · rw [hv1]; rfl
  · obtain ⟨i, hi⟩ := getElem_lt hr
    have hc := hcs r i hi
    rw [getD_of hi]
    have e : sV (colV u cs) (2 + (r : Int)) = cellV (ceO D T N f c i) u := by
      unfold sV colV
      rw [show ((2 : Int) + (r : Int)).toNat = 2 + r by omega, List.getElem?_append_right (by simp)]
      simp only [List.length_cons, List.length_nil, Nat.zero_add, Nat.reduceAdd, Nat.add_sub_cancel_left, List.getElem?_map, hc]
      rfl
    rw [e]
    have him := List.mem_of_getElem? hi
    unfold ceO
    by_cases hcl : T.col i < (c : Int)
    · rw [if_pos hcl]
      obtain ⟨y, hy⟩ := hK.ps i him hcl
      exact cell_pass h hy
    · rw [if_neg hcl]
      obtain ⟨d, h1, h2, h3⟩ := hK.tb i him hcl
      unfold tabOf
      rw [getD_of h2, cell_tab h (ht _ d h2).1 (fun s hs => (h3 s hs).2.2), ← (ht _ d h2).2]
      congr 1
      omega


end Go.Proofs.YtibjgoigdajkkaaDoor
