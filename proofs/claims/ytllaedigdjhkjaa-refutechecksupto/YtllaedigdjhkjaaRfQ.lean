import Derived.Test.YtllaedigdjhkjaaRfP
namespace Go.Proofs.Ytllaedigdjhkjaa
open Go.RowKit

def addW (W : Nat → Nat → List (Nat × Nat)) (t l : Nat) (e : Nat × Nat) : Nat → Nat → List (Nat × Nat) := fun t' l' => if t' = t ∧ l' = l then W t l ++ [e] else W t' l'
def St.tierAt (st : St) (i t : Nat) : St := { st with cls := st.cls.modify i fun c => { c with tier := t } }
def St.addW (st : St) (t l : Nat) (e : Nat × Nat) : St := { st with W := Go.Proofs.Ytllaedigdjhkjaa.addW st.W t l e }
/-- a clause is watched at its first two -/
def St.watch (st : St) (i t : Nat) : St :=
  match st.cls[i]? with
  | none => st
  | some c => ((st.tierAt i t).addW t (c.l.getD 0 0) (i, c.l.getD 1 0)).addW t (c.l.getD 1 0) (i, c.l.getD 0 0)
theorem wlV_app (l : List (Nat × Nat)) (e : Nat × Nat) : wlV (l ++ [e]) = wlV l ++ [.int .i32 (e.1 : Int), .int .i32 (e.2 : Int)] := by simp [wlV]
theorem Link.tierAt {sl : Site → Slot} {st : St} (h : Link sl st) (i t : Nat) : Link (setS sl .clauses ⟨(sl .clauses).v, (sl .clauses).n, (sl .clauses).xs.set (4 * i + 2) (.int .i64 (t : Int))⟩) (st.tierAt i t) := by
  refine ⟨h.hV, ?_, h.heldL, ?_, h.reasonL, ?_, h.usedL, ?_, ?_, ?_, ?_, ?_, ?_⟩
  · simpa [setS, St.tierAt] using h.held
  · simpa [setS, St.tierAt] using h.reason
  · simpa [setS, St.tierAt] using h.used
  · simpa [setS, St.tierAt] using h.trail
  · simpa [setS, St.tierAt] using h.clsN
  · intro j c hc
    simp only [St.tierAt, List.getElem?_modify] at hc
    cases hj : st.cls[j]? with
    | none => rw [hj] at hc; cases hc
    | some d =>
      rw [hj] at hc
      obtain ⟨h0, h1, h2, h3⟩ := h.cls j d hj
      rw [setS_same, setS_other _ _ (by intro e; cases e)]
      dsimp only
      by_cases e : i = j
      · subst e
        simp at hc
        subst hc
        have hlt : 4 * i + 2 < (sl .clauses).xs.length := (List.getElem?_eq_some_iff.1 h2).1
        refine ⟨?_, ?_, ?_, ?_⟩
        · rw [List.getElem?_set_ne (by omega)]; exact h0
        · rw [List.getElem?_set_ne (by omega)]; exact h1
        · rw [List.getElem?_set_self hlt]
        · rw [List.getElem?_set_ne (by omega)]; exact h3
      · simp [e] at hc
        subst hc
        refine ⟨?_, ?_, ?_, ?_⟩
        · rw [List.getElem?_set_ne (by omega)]; exact h0
        · rw [List.getElem?_set_ne (by omega)]; exact h1
        · rw [List.getElem?_set_ne (by omega)]; exact h2
        · rw [List.getElem?_set_ne (by omega)]; exact h3
  · intro j c hc
    simp only [St.tierAt, List.getElem?_modify] at hc
    cases hj : st.cls[j]? with
    | none => rw [hj] at hc; cases hc
    | some d =>
      rw [hj] at hc
      have h0 := h.lits j d hj
      rw [setS_other _ _ (by intro e; cases e)]
      by_cases e : i = j
      · subst e
        simp at hc
        subst hc
        exact h0
      · simp [e] at hc
        subst hc
        exact h0
  · intro t ht
    simpa [setS, St.tierAt] using h.row t ht
  · intro t l' ht hl
    simpa [setS, St.tierAt] using h.wl t l' ht hl
theorem Link.addW {sl : Site → Slot} {st : St} (h : Link sl st) (t l : Nat) (ht : t < 2) (hl : l < 2 * st.V) (e : Nat × Nat) (v : Value) :
    Link (setS (setS sl (.wl t l) ⟨v, (sl (.wl t l)).n + 1, (sl (.wl t l)).xs ++ [.int .i32 (e.1 : Int), .int .i32 (e.2 : Int)]⟩) (.row t) ⟨(sl (.row t)).v, (sl (.row t)).n, (sl (.row t)).xs.set l v⟩) (st.addW t l e) := by
  refine ⟨h.hV, ?_, h.heldL, ?_, h.reasonL, ?_, h.usedL, ?_, ?_, ?_, ?_, ?_, ?_⟩
  · simpa [setS, St.addW] using h.held
  · simpa [setS, St.addW] using h.reason
  · simpa [setS, St.addW] using h.used
  · simpa [setS, St.addW] using h.trail
  · simpa [setS, St.addW] using h.clsN
  · intro j c hc
    simpa [setS, St.addW] using h.cls j c hc
  · intro j c hc
    simpa [setS, St.addW] using h.lits j c hc
  · intro t' ht'
    obtain ⟨h1, h2⟩ := h.row t' ht'
    by_cases e1 : t' = t
    · subst e1
      rw [setS_same]
      refine ⟨h1, fun l' hl' => ?_⟩
      dsimp only
      rw [setS_other _ _ (by intro e; cases e)]
      by_cases e2 : l' = l
      · subst e2
        rw [setS_same, List.getElem?_set_self (by have := (List.getElem?_eq_some_iff.1 (h2 l' hl')).1; exact this)]
      · rw [setS_other _ _ (by intro e; injection e; omega), List.getElem?_set_ne (by omega)]
        exact h2 l' hl'
    · rw [setS_other _ _ (by intro e; injection e; omega), setS_other _ _ (by intro e; cases e)]
      refine ⟨h1, fun l' hl' => ?_⟩
      rw [setS_other _ _ (by intro e; cases e), setS_other _ _ (by intro e; injection e; omega)]
      exact h2 l' hl'
  · intro t' l' ht' hl'
    obtain ⟨h1, h2⟩ := h.wl t' l' ht' hl'
    rw [setS_other _ _ (by intro e; cases e)]
    by_cases e1 : t' = t ∧ l' = l
    · obtain ⟨rfl, rfl⟩ := e1
      rw [setS_same]
      simp only [St.addW, Go.Proofs.Ytllaedigdjhkjaa.addW, and_self, if_true, wlV_app, List.length_append]
      exact ⟨by rw [h1]; rfl, by rw [h2]⟩
    · rw [setS_other _ _ (by intro e; injection e with e2 e3; exact e1 ⟨e2, e3⟩)]
      simp only [St.addW, Go.Proofs.Ytllaedigdjhkjaa.addW, if_neg e1]
      exact ⟨h1, h2⟩

end Go.Proofs.Ytllaedigdjhkjaa
