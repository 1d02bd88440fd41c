import Derived.Test.YtdiahnommkhkiaaDoorJ41
import Derived.Test.YtdiahnommkhkiaaDoorJ38
import Derived.Test.YtdiahnommkhkiaaDoorJ19
namespace Go.Proofs.YtdiahnommkhkiaaDoor
open Go.RowKit

theorem be_end {T : List UInt8} {n : Nat} {b : Bool} (h : ∃ m, n ≤ m ∧ Names T n m ∧ ((linesOf T)[m]? = some [99] ∨ m = (linesOf T).length)) (hb : b = true ↔ ∃ j, n ≤ j ∧ (linesOf T)[j]? = some [99]) :
    ((restOf T).isEmpty = true ∨ b = true → BeOk T n) ∧ ((restOf T).isEmpty = false → b = false → BeBad T n (linesOf T).length) := by
  obtain ⟨m, h1, h2, h3⟩ := h
  rcases h3 with h3 | h3
  · refine ⟨fun _ => ⟨m, h1, h2, Or.inl h3⟩, fun _ hf => ?_⟩
    have := hb.2 ⟨m, h1, h3⟩
    rw [hf] at this; cases this
  · subst h3
    have hbf : b = false := by
      cases hbb : b with
      | false => rfl
      | true =>
        obtain ⟨j, j1, j2⟩ := hb.1 hbb
        exact absurd rfl (h2 j _ j1 (List.getElem?_eq_some_iff.1 j2).1 j2).1
    refine ⟨fun hh => ?_, fun hr _ => ⟨h1, h2, Or.inr ⟨rfl, fun e => by rw [e] at hr; cases hr⟩⟩⟩
    rcases hh with hh | hh
    · exact ⟨_, h1, h2, Or.inr ⟨rfl, by simpa using hh⟩⟩
    · rw [hbf] at hh; cases hh


end Go.Proofs.YtdiahnommkhkiaaDoor
