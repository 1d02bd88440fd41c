import Derived.Test.YtlaljeobdddegaaAhB
namespace Go.Proofs.Ytlaljeobdddegaa
open Go.RowKit

theorem renL_half {lits : List Int} {l : Int} (h : 0 ≤ lits.getD (l / 2).toNat 0) : renL lits l / 2 = lits.getD (l / 2).toNat 0 / 2 := by
  unfold renL
  split
  · exact (flipI_facts _ h).2.1
  · rfl
/-- what is made of a gate: nothing, one of its own, or a gate of both -/
def GateH (first : Nat) (hs : List AndD) (lits : List Int) (d : AndD) (x : Int) : Prop :=
  x / 2 = 0 ∨ x / 2 = lits.getD (d.x / 2).toNat 0 / 2 ∨ x / 2 = lits.getD (d.y / 2).toNat 0 / 2 ∨ ∃ (i : Nat) (e : AndD), hs[i]? = some e ∧ x / 2 = (first : Int) + (i : Int) ∧ ((e.x / 2 = lits.getD (d.x / 2).toNat 0 / 2 ∧ e.y / 2 = lits.getD (d.y / 2).toNat 0 / 2) ∨ (e.x / 2 = lits.getD (d.y / 2).toNat 0 / 2 ∧ e.y / 2 = lits.getD (d.x / 2).toNat 0 / 2))
theorem andH_gate (first : Nat) (hs : List AndD) (a b : Int) : (∃ r, (andH first hs a b).1 = hs ++ r) ∧ ((andH first hs a b).2 / 2 = 0 ∨ (andH first hs a b).2 / 2 = a / 2 ∨ (andH first hs a b).2 / 2 = b / 2 ∨ ∃ (i : Nat) (e : AndD), (andH first hs a b).1[i]? = some e ∧ (andH first hs a b).2 / 2 = (first : Int) + (i : Int) ∧ ((e.x / 2 = a / 2 ∧ e.y / 2 = b / 2) ∨ (e.x / 2 = b / 2 ∧ e.y / 2 = a / 2))) := by
  have hab : (max a b = a ∧ min a b = b) ∨ (max a b = b ∧ min a b = a) := by omega
  unfold andH
  split
  · exact ⟨⟨[], by simp⟩, Or.inl (show (0 : Int) / 2 = 0 by decide)⟩
  · split
    · refine ⟨⟨[], by simp⟩, Or.inr ?_⟩
      rcases hab with ⟨h1, _⟩ | ⟨h1, _⟩
      · left; show max a b / 2 = a / 2; rw [h1]
      · right; left; show max a b / 2 = b / 2; rw [h1]
    · split
      · rename_i i hi
        obtain ⟨e, he, hx, hy⟩ := findG_some hi
        refine ⟨⟨[], by simp⟩, Or.inr (Or.inr (Or.inr ⟨i, e, he, by show 2 * ((first : Int) + (i : Int)) / 2 = _; omega, ?_⟩))⟩
        rcases hab with ⟨h1, h2⟩ | ⟨h1, h2⟩
        · left; rw [hx, hy, h1, h2]; exact ⟨rfl, rfl⟩
        · right; rw [hx, hy, h1, h2]; exact ⟨rfl, rfl⟩
      · refine ⟨⟨_, rfl⟩, Or.inr (Or.inr (Or.inr ⟨hs.length, ⟨max a b, min a b⟩, by simp, by show 2 * ((first : Int) + (hs.length : Int)) / 2 = _; omega, ?_⟩))⟩
        rcases hab with ⟨h1, h2⟩ | ⟨h1, h2⟩
        · left; show max a b / 2 = _ ∧ min a b / 2 = _; rw [h1, h2]; exact ⟨rfl, rfl⟩
        · right; show max a b / 2 = _ ∧ min a b / 2 = _; rw [h1, h2]; exact ⟨rfl, rfl⟩
theorem GateH.more {first : Nat} {hs r : List AndD} {lits m : List Int} {d : AndD} {x : Int} (h : GateH first hs lits d x) (hx : (d.x / 2).toNat < lits.length) (hy : (d.y / 2).toNat < lits.length) : GateH first (hs ++ r) (lits ++ m) d x := by
  have e1 : (lits ++ m).getD (d.x / 2).toNat 0 = lits.getD (d.x / 2).toNat 0 := by rw [List.getD_eq_getElem?_getD, List.getD_eq_getElem?_getD, List.getElem?_append_left hx]
  have e2 : (lits ++ m).getD (d.y / 2).toNat 0 = lits.getD (d.y / 2).toNat 0 := by rw [List.getD_eq_getElem?_getD, List.getD_eq_getElem?_getD, List.getElem?_append_left hy]
  unfold GateH at *
  rw [e1, e2]
  rcases h with h | h | h | ⟨i, e, he, h⟩
  · exact Or.inl h
  · exact Or.inr (Or.inl h)
  · exact Or.inr (Or.inr (Or.inl h))
  · exact Or.inr (Or.inr (Or.inr ⟨i, e, by rw [List.getElem?_append_left (List.getElem?_eq_some_iff.1 he).1]; exact he, h⟩))
/-- .. of each gate -/
structure GatesH (first : Nat) (ands : List AndD) (s : List AndD × List Int) : Prop where
  len : s.2.length = first + ands.length
  src : ∀ v, v < first → s.2[v]? = some (2 * (v : Int))
  gate : ∀ (k : Nat) (d : AndD), ands[k]? = some d → ∃ x, s.2[first + k]? = some x ∧ GateH first s.1 s.2 d x
theorem gates_start (first : Nat) : GatesH first [] (startH first) := by
  refine ⟨by simp [startH], fun v hv => ?_, fun k d hd => by simp at hd⟩
  unfold startH
  rw [List.getElem?_map, List.getElem?_range hv]; rfl
theorem gates_step {first : Nat} {ands : List AndD} {s : List AndD × List Int} (h : GatesH first ands s) (hpos : ∀ (v : Nat) (x : Int), s.2[v]? = some x → 0 ≤ x) (hold : ∀ (k : Nat) (d : AndD), ands[k]? = some d → (d.x / 2).toNat < first + k ∧ (d.y / 2).toNat < first + k) {d : AndD} (hx : (d.x / 2).toNat < first + ands.length) (hy : (d.y / 2).toNat < first + ands.length) : GatesH first (ands ++ [d]) (stepH first s d) := by
  have hge : ∀ v : Nat, 0 ≤ s.2.getD v 0 := fun v => by
    rw [List.getD_eq_getElem?_getD]
    cases e : s.2[v]? with
    | none => exact Int.le_refl _
    | some x => exact hpos v x e
  obtain ⟨⟨r, hr⟩, hg⟩ := andH_gate first s.1 (renL s.2 d.x) (renL s.2 d.y)
  have e1 : (stepH first s d).1 = s.1 ++ r := hr
  have e2 : (stepH first s d).2 = s.2 ++ [(andH first s.1 (renL s.2 d.x) (renL s.2 d.y)).2] := rfl
  refine ⟨by rw [e2, List.length_append, List.length_append, h.len]; simp; omega, fun v hv => ?_, fun k d' hd' => ?_⟩
  · rw [e2, List.getElem?_append_left (by rw [h.len]; omega)]; exact h.src v hv
  · by_cases hk : k < ands.length
    · rw [List.getElem?_append_left hk] at hd'
      obtain ⟨x, hx1, hx2⟩ := h.gate k d' hd'
      have hlo := hold k d' hd'
      refine ⟨x, by rw [e2, List.getElem?_append_left (by rw [h.len]; omega)]; exact hx1, ?_⟩
      rw [e1, e2]
      exact hx2.more (by rw [h.len]; omega) (by rw [h.len]; omega)
    · have hk2 : k = ands.length := by
        have := (List.getElem?_eq_some_iff.1 hd').1
        simp at this; omega
      subst hk2
      rw [List.getElem?_append_right (Nat.le_refl _)] at hd'
      simp at hd'
      subst hd'
      refine ⟨_, by rw [e2, List.getElem?_append_right (by rw [h.len]; exact Nat.le_refl _), h.len]; simp; rfl, ?_⟩
      rw [renL_half (hge _), renL_half (hge _)] at hg
      have hh : GateH first ((andH first s.1 (renL s.2 d.x) (renL s.2 d.y)).1 ++ []) (s.2 ++ [(andH first s.1 (renL s.2 d.x) (renL s.2 d.y)).2]) d (andH first s.1 (renL s.2 d.x) (renL s.2 d.y)).2 := GateH.more hg (by rw [h.len]; exact hx) (by rw [h.len]; exact hy)
      rw [List.append_nil] at hh
      exact hh
theorem gates_all {first : Nat} (hf : 1 ≤ first) (ands : List AndD) (h : ∀ (k : Nat) (d : AndD), ands[k]? = some d → (0 ≤ d.x ∧ d.x < 2 * ((first + k : Nat) : Int)) ∧ (0 ≤ d.y ∧ d.y < 2 * ((first + k : Nat) : Int))) : GatesH first ands (hashK first ands) := by
  have key : ∀ n, n ≤ ands.length → GatesH first (ands.take n) (hashK first (ands.take n)) := by
    intro n
    induction n with
    | zero => intro _; rw [List.take_zero]; exact gates_start first
    | succ n ih =>
      intro hn
      obtain ⟨d, hd⟩ := getElem_lt (show n < ands.length by omega)
      have hok : HashOk first (ands.take n) (hashK first (ands.take n)) := hash_all hf _ (fun k e he => h k e (by
        rw [List.getElem?_take] at he
        split at he
        · exact he
        · cases he))
      have hl : (ands.take n).length = n := by rw [List.length_take]; omega
      have hdb := h n d hd
      rw [take_next _ n _ hd, hashK_next]
      refine gates_step (ih (by omega)) (fun v x hx => (hok.lits v x hx).1) (fun k e he => ?_) (by rw [hl]; omega) (by rw [hl]; omega)
      have := h k e (by
        rw [List.getElem?_take] at he
        split at he
        · exact he
        · cases he)
      omega
  have := key ands.length (Nat.le_refl _)
  rw [List.take_length] at this
  exact this

end Go.Proofs.Ytlaljeobdddegaa
