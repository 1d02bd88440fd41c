import Derived.Test.YtdiahnommkhkiaaDoorJ11
import Derived.Deep.RegionHeld3
namespace Go.Proofs.YtdiahnommkhkiaaDoor
open Go.RowKit

def iV (x : Int) : Value := .int .i64 x
/-- the numbers of a line -/
def nums (T : List UInt8) (n : Nat) : Option (List Int) := match (linesOf T)[n]? with | some a => if (pcs 32 a).all numOk then some ((pcs 32 a).map numV) else none | none => none
theorem nums_bound {T : List UInt8} {n : Nat} {xs : List Int} (h : nums T n = some xs) : ∀ x, x ∈ xs → 0 ≤ x ∧ x < 1000000000 := by
  unfold nums at h
  cases hL : (linesOf T)[n]? with
  | none => rw [hL] at h; cases h
  | some a =>
    rw [hL] at h
    simp only at h
    split at h
    · rename_i hall
      cases h
      intro x hx
      obtain ⟨p, hp, rfl⟩ := List.mem_map.1 hx
      have hok := List.all_eq_true.1 hall p hp
      unfold numOk at hok
      simp only [Bool.and_eq_true, decide_eq_true_eq] at hok
      have := numV_take p p.length (by rw [List.take_length]; exact hok.2) (Nat.le_refl _)
      rw [List.take_length] at this
      have hp9 : (10 : Int) ^ p.length ≤ 10 ^ 9 := by
        have : (10 : Nat) ^ p.length ≤ 10 ^ 9 := Nat.pow_le_pow_right (by decide) hok.1.1.2
        exact_mod_cast this
      omega
    · cases h
/-- the elements of a row that was made -/
theorem row_els {w : World} {C n : Nat} {v : Value} {xs : List Int} (h : w.ownsRow C 3 1 v n (xs.map iV)) (hn : 0 < xs.length) : ∃ b c, v = .slice (some ⟨b, 0, none⟩) n c ∧ C ≤ b ∧ b < w.heap.size ∧ n ≤ c ∧ ∀ (i : Nat) (x : Int), xs[i]? = some x → w.cell? ⟨b, i, none⟩ = some (.int .i64 x) := by
  have hl := h.1
  rcases h.2 with ⟨_, h0⟩ | ⟨g, cap, cur, hv, h1, h2, h3, h4, h5, h6⟩
  · simp at hl; omega
  · refine ⟨g, cap, hv, h1, ?_, h3, fun i x hx => ?_⟩
    · rcases Nat.lt_or_ge g w.heap.size with h' | h'
      · exact h'
      · simp [Array.getElem?_eq_none h'] at h2
    · rw [heap_cell h2]
      have hil := (List.getElem?_eq_some_iff.1 hx).1
      have e : (cur.toList.take (n * 1))[i]? = some (.int .i64 x) := by rw [h6]; simp [hx, iV]
      rw [← Array.getElem?_toList]
      rw [List.getElem?_take] at e
      split at e
      · exact e
      · cases e
/-- an input's line -/
def InOk (T : List UInt8) (n i : Nat) : Prop := nums T n = some [2 * (1 + (i : Int))]


end Go.Proofs.YtdiahnommkhkiaaDoor

namespace Go.Proofs.YtdiahnommkhkiaaDoor
open Go.RowKit

/-- an output's line -/
def OutLine (T : List UInt8) (n : Nat) (m x : Int) : Prop := nums T n = some [x] ∧ x < m


end Go.Proofs.YtdiahnommkhkiaaDoor
