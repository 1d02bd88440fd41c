import Derived.Test.YtllaedigdjhkjaaRfS
import Derived.Test.YtllaedigdjhkjaaRfT
namespace Go.Proofs.Ytllaedigdjhkjaa
open Go.RowKit

def St.nextAt (st : St) (i k : Nat) : St := { st with cls := st.cls.modify i fun c => { c with next := k } }
def St.roundAt (st : St) (i k : Nat) : St := { st with cls := st.cls.modify i fun c => { c with round := k } }
def St.useV (st : St) (v : Nat) (b : Bool) : St := { st with used := st.used.set v b }
theorem Link.nextAt {sl : Site → Slot} {st : St} (h : Link sl st) (i t : Nat) : Link (setS sl .clauses ⟨(sl .clauses).v, (sl .clauses).n, (sl .clauses).xs.set (4 * i + 1) (.int .i64 (t : Int))⟩) (st.nextAt i t) := by
  refine ⟨h.hV, ?_, h.heldL, ?_, h.reasonL, ?_, h.usedL, ?_, ?_, ?_, ?_, ?_, ?_⟩
  · simpa [setS, St.nextAt] using h.held
  · simpa [setS, St.nextAt] using h.reason
  · simpa [setS, St.nextAt] using h.used
  · simpa [setS, St.nextAt] using h.trail
  · simpa [setS, St.nextAt] using h.clsN
  · intro j c hc
    simp only [St.nextAt, List.getElem?_modify] at hc
    cases hj : st.cls[j]? with
    | none => rw [hj] at hc; cases hc
    | some d =>
      rw [hj] at hc
      obtain ⟨h0, h1, h2, h3⟩ := h.cls j d hj
      rw [setS_same, setS_other _ _ (by intro e; cases e)]
      dsimp only
      by_cases e : i = j
      · subst e
        simp at hc
        subst hc
        have hlt : 4 * i + 1 < (sl .clauses).xs.length := (List.getElem?_eq_some_iff.1 h1).1
        refine ⟨?_, ?_, ?_, ?_⟩
        · rw [List.getElem?_set_ne (by omega)]; exact h0
        · rw [List.getElem?_set_self hlt]
        · rw [List.getElem?_set_ne (by omega)]; exact h2
        · rw [List.getElem?_set_ne (by omega)]; exact h3
      · simp [e] at hc
        subst hc
        refine ⟨?_, ?_, ?_, ?_⟩
        · rw [List.getElem?_set_ne (by omega)]; exact h0
        · rw [List.getElem?_set_ne (by omega)]; exact h1
        · rw [List.getElem?_set_ne (by omega)]; exact h2
        · rw [List.getElem?_set_ne (by omega)]; exact h3
  · intro j c hc
    simp only [St.nextAt, List.getElem?_modify] at hc
    cases hj : st.cls[j]? with
    | none => rw [hj] at hc; cases hc
    | some d =>
      rw [hj] at hc
      have h0 := h.lits j d hj
      rw [setS_other _ _ (by intro e; cases e)]
      by_cases e : i = j
      · subst e
        simp at hc
        subst hc
        exact h0
      · simp [e] at hc
        subst hc
        exact h0
  · intro t ht
    simpa [setS, St.nextAt] using h.row t ht
  · intro t l' ht hl
    simpa [setS, St.nextAt] using h.wl t l' ht hl
theorem Link.roundAt {sl : Site → Slot} {st : St} (h : Link sl st) (i t : Nat) : Link (setS sl .clauses ⟨(sl .clauses).v, (sl .clauses).n, (sl .clauses).xs.set (4 * i + 3) (.int .i64 (t : Int))⟩) (st.roundAt i t) := by
  refine ⟨h.hV, ?_, h.heldL, ?_, h.reasonL, ?_, h.usedL, ?_, ?_, ?_, ?_, ?_, ?_⟩
  · simpa [setS, St.roundAt] using h.held
  · simpa [setS, St.roundAt] using h.reason
  · simpa [setS, St.roundAt] using h.used
  · simpa [setS, St.roundAt] using h.trail
  · simpa [setS, St.roundAt] using h.clsN
  · intro j c hc
    simp only [St.roundAt, List.getElem?_modify] at hc
    cases hj : st.cls[j]? with
    | none => rw [hj] at hc; cases hc
    | some d =>
      rw [hj] at hc
      obtain ⟨h0, h1, h2, h3⟩ := h.cls j d hj
      rw [setS_same, setS_other _ _ (by intro e; cases e)]
      dsimp only
      by_cases e : i = j
      · subst e
        simp at hc
        subst hc
        have hlt : 4 * i + 3 < (sl .clauses).xs.length := (List.getElem?_eq_some_iff.1 h3).1
        refine ⟨?_, ?_, ?_, ?_⟩
        · rw [List.getElem?_set_ne (by omega)]; exact h0
        · rw [List.getElem?_set_ne (by omega)]; exact h1
        · rw [List.getElem?_set_ne (by omega)]; exact h2
        · rw [List.getElem?_set_self hlt]
      · simp [e] at hc
        subst hc
        refine ⟨?_, ?_, ?_, ?_⟩
        · rw [List.getElem?_set_ne (by omega)]; exact h0
        · rw [List.getElem?_set_ne (by omega)]; exact h1
        · rw [List.getElem?_set_ne (by omega)]; exact h2
        · rw [List.getElem?_set_ne (by omega)]; exact h3
  · intro j c hc
    simp only [St.roundAt, List.getElem?_modify] at hc
    cases hj : st.cls[j]? with
    | none => rw [hj] at hc; cases hc
    | some d =>
      rw [hj] at hc
      have h0 := h.lits j d hj
      rw [setS_other _ _ (by intro e; cases e)]
      by_cases e : i = j
      · subst e
        simp at hc
        subst hc
        exact h0
      · simp [e] at hc
        subst hc
        exact h0
  · intro t ht
    simpa [setS, St.roundAt] using h.row t ht
  · intro t l' ht hl
    simpa [setS, St.roundAt] using h.wl t l' ht hl
theorem boolV_set (l : List Bool) (i : Nat) (x : Bool) : boolV (l.set i x) = (boolV l).set i (.bool x) := by simp [boolV, List.map_set]
theorem Link.useV {sl : Site → Slot} {st : St} (h : Link sl st) (v : Nat) (b : Bool) : Link (setS sl .used ⟨(sl .used).v, (sl .used).n, (sl .used).xs.set v (.bool b)⟩) (st.useV v b) := by
  refine ⟨h.hV, ?_, h.heldL, ?_, h.reasonL, ?_, by simpa [St.useV] using h.usedL, ?_, ?_, ?_, ?_, ?_, ?_⟩
  · simpa [setS, St.useV] using h.held
  · simpa [setS, St.useV] using h.reason
  · refine ⟨by simpa [setS, St.useV] using h.used.1, ?_⟩
    simp only [St.useV, boolV_set]
    rw [← h.used.2]
    simp [setS]
  · simpa [setS, St.useV] using h.trail
  · simpa [setS, St.useV] using h.clsN
  · intro j c hc
    simpa [setS, St.useV] using h.cls j c hc
  · intro j c hc
    simpa [setS, St.useV] using h.lits j c hc
  · intro t ht
    simpa [setS, St.useV] using h.row t ht
  · intro t l' ht hl
    simpa [setS, St.useV] using h.wl t l' ht hl

end Go.Proofs.Ytllaedigdjhkjaa
