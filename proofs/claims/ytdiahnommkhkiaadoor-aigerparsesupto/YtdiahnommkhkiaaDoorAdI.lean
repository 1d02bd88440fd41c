import Derived.Test.YtdiahnommkhkiaaDoorAdC
import Derived.Test.YtdiahnommkhkiaaDoorAdE
import Derived.Test.YtdiahnommkhkiaaDoorAdF
import Derived.Test.YtdiahnommkhkiaaDoorAdG
import Derived.Test.YtdiahnommkhkiaaDoorAdH
namespace Go.Proofs.YtdiahnommkhkiaaDoor
open Go.RowKit

theorem be_end {T : List UInt8} {n : Nat} {b : Bool} (h : ∃ m, n ≤ m ∧ Names T n m ∧ ((linesOf T)[m]? = some [99] ∨ m = (linesOf T).length)) (hb : b = true ↔ ∃ j, n ≤ j ∧ (linesOf T)[j]? = some [99]) :
    ((restOf T).isEmpty = true ∨ b = true → BeOk T n) ∧ ((restOf T).isEmpty = false → b = false → BeBad T n (linesOf T).length) := by
  obtain ⟨m, h1, h2, h3⟩ := h
  rcases h3 with h3 | h3
  · refine ⟨fun _ => ⟨m, h1, h2, Or.inl h3⟩, fun _ hf => ?_⟩
    have := hb.2 ⟨m, h1, h3⟩
    rw [hf] at this; cases this
  · subst h3
    have hbf : b = false := by
      cases hbb : b with
      | false => rfl
      | true =>
        obtain ⟨j, j1, j2⟩ := hb.1 hbb
        exact absurd rfl (h2 j _ j1 (List.getElem?_eq_some_iff.1 j2).1 j2).1
    refine ⟨fun hh => ?_, fun hr _ => ⟨h1, h2, Or.inr ⟨rfl, fun e => by rw [e] at hr; cases hr⟩⟩⟩
    rcases hh with hh | hh
    · exact ⟨_, h1, h2, Or.inr ⟨rfl, by simpa using hh⟩⟩
    · rw [hbf] at hh; cases hh
theorem told_ret {w w' : World} {T : List UInt8} {rb fb : Nat} {x : Int} {a : Act} (hd : a.defers = []) (h2 : a.tmps.getD 2 undef = .pointer (some ⟨rb, 0, none⟩)) (h3 : a.tmps.getD 3 undef = .pointer (some ⟨fb, 0, none⟩)) (h : Told w w' rb fb x) (hB : Bad T x) :
    bodyPost Tryd.prog Tryd.f11 (fun e w' => ∃ G S c a, Outcome T G c a ∧ e = .returned (.tuple #[.agg (GrS.cells S G), .agg #[.int .i64 c, .int .i64 a]]) ∧ GrAt w'.heap.size w' S G ∧ Below w.heap.size w w') .ret a w' := by
  have r0 : w'.cell? ⟨rb, 0, none⟩ = some (.int .i64 0) := heap_cell h.r
  have r1 : w'.cell? ⟨rb, 1, none⟩ = some (.slice none 0 0) := heap_cell h.r
  have r2 : w'.cell? ⟨rb, 2, none⟩ = some (.slice none 0 0) := heap_cell h.r
  have r3 : w'.cell? ⟨rb, 3, none⟩ = some (.slice none 0 0) := heap_cell h.r
  have q0 : w'.cell? ⟨fb, 0, none⟩ = some (.int .i64 16) := heap_cell h.f
  have q1 : w'.cell? ⟨fb, 1, none⟩ = some (.int .i64 x) := heap_cell h.f
  have h2' : a.tmps[2]?.getD undef = .pointer (some ⟨rb, 0, none⟩) := by simpa using h2
  have h3' : a.tmps[3]?.getD undef = .pointer (some ⟨fb, 0, none⟩) := by simpa using h3
  refine bodyPost_ret (v := .tuple #[.agg (GrS.cells zeroS zeroG), .agg #[.int .i64 16, .int .i64 x]]) ?_ hd ⟨zeroG, zeroS, 16, x, Or.inr ⟨hB, rfl, rfl⟩, rfl, zeroAt _ _, h.b⟩
  simp [results, Tryd.results11, go_sem, h2', h3', r0, r1, r2, r3, q0, q1, GrS.cells, zeroS, zeroG]

theorem nums_lt {T : List UInt8} {j : Nat} {xs : List Int} (h : nums T j = some xs) : j < (linesOf T).length := by
  rcases Nat.lt_or_ge j (linesOf T).length with h' | h'
  · exact h'
  · rw [nums_none h'] at h; cases h
theorem body_lt {T : List UInt8} {ni nl no na i : Nat} (h : BodyOk T ni nl no na i) : 1 + i < (linesOf T).length := by
  unfold BodyOk at h
  split at h
  · exact nums_lt h
  · split at h
    · obtain ⟨d, _, h | ⟨f, h, _⟩⟩ := h
      · exact nums_lt h.1
      · exact nums_lt h
    · split at h
      · obtain ⟨d, h, _⟩ := h
        exact nums_lt h
      · obtain ⟨d, h, _⟩ := h
        exact nums_lt h
theorem lines_enough {T : List UInt8} {ni nl no na : Nat} (hd : HeadAt T ni nl no na) (h : ∀ i, i < ni + nl + no + na → BodyOk T ni nl no na i) : 1 + ni + nl + no + na ≤ (linesOf T).length := by
  rcases Nat.eq_zero_or_pos (ni + nl + no + na) with h0 | h0
  · obtain ⟨a, ha, _⟩ := hd
    have := (List.getElem?_eq_some_iff.1 ha).1
    omega
  · have := body_lt (h (ni + nl + no + na - 1) (by omega))
    omega

end Go.Proofs.YtdiahnommkhkiaaDoor
