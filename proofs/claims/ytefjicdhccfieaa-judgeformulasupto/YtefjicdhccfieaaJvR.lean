import Derived.Test.YtefjicdhccfieaaAgJ
import Derived.Test.YtefjicdhccfieaaSaJ
namespace Go.Proofs.Ytefjicdhccfieaa
open Go.ChangeShapes Go.WideShapes Go.ChangeAt Go.RowKit

section
variable {H : Type} {enc : TypeId × Value → H} {w : World} {base : Nat} {spare : Nat → Bool} {held : Bool} {fuel : Nat}

set_option maxRecDepth 100000 in
theorem pr_el {cs : List Value} {y : DataW H × List MemPlace} (h : DataW.trod enc Try.prog w base spare held fuel 33 cs = some y) : ∃ x : AndD, cs = x.cells ∧ 3 ≤ Rows.uptoBulk y.1 := by
  obtain ⟨ys, m, rfl, hx, hlen, hyl, hel⟩ := DataW.trod_array Try.underlying33 h
  rw [cA] at hlen
  match cs, hlen, ys, hyl, hx, hel with
  | [k0, k1], _, [y0, y1], _, hx, hel =>
    have e0 := hel 0 (by decide)
    obtain ⟨n0, d0, -, wf0⟩ := DataW.trod_int Try.underlying3 (show DataW.trod _ Try.prog _ _ _ _ _ 3 _ = some y0 from e0)
    simp [cI] at d0
    have e1 := hel 1 (by decide)
    obtain ⟨n1, d1, -, wf1⟩ := DataW.trod_int Try.underlying3 (show DataW.trod _ Try.prog _ _ _ _ _ 3 _ = some y1 from e1)
    simp [cI] at d1
    refine ⟨⟨n0, n1⟩, by simp [AndD.cells, *], ?_⟩
    rw [hx]
    have h0 := bulk_pos y0.1
    have h1 := bulk_pos y1.1
    simp only [Rows.uptoBulk, Rows.uptoBulkAll, List.map_cons, List.map_nil]
    omega
theorem bulk_rows {α : Type} (l : List α) (elems : List (DataW H)) (hl : elems.length = l.length) (hq : ∀ (i : Nat) (x : α), l[i]? = some x → ∃ d, elems[i]? = some d ∧ 3 ≤ Rows.uptoBulk d) : 3 * l.length ≤ Rows.uptoBulkAll elems := by
  induction l generalizing elems with
  | nil => simp
  | cons x r ih =>
    cases elems with
    | nil => simp at hl
    | cons d ds =>
      obtain ⟨d', hd, hx⟩ := hq 0 x rfl
      simp at hd
      subst hd
      have := ih ds (by simpa using hl) (fun i y hy => by
        obtain ⟨e, he, hy2⟩ := hq (i + 1) y (by simpa using hy)
        exact ⟨e, by simpa using he, hy2⟩)
      simp only [List.length_cons, Rows.uptoBulkAll] at *
      omega
set_option maxRecDepth 100000 in
theorem open_pairs {y : DataW H × List MemPlace} {v : Value} (h : DataW.trod enc Try.prog w base spare held fuel 28 [v] = some y) (hb : Rows.uptoBulk y.1 ≤ 1048576) : ∃ a c prs, v = .slice a (List.length prs) c ∧ RowAt w.heap.size w a 2 (prs.map AndD.cells) ∧ prs.length ≤ 400000 := by
  obtain ⟨a1, u1, l1, e1, hr1, hd1⟩ := open_row AndD.cells (fun d x => 3 ≤ Rows.uptoBulk d) Try.underlying28 cA (by decide) (fun fuel cs y h => pr_el h) h
  refine ⟨a1, u1, l1, e1, hr1, ?_⟩
  rcases hd1 with ⟨_, rfl⟩ | ⟨elems, sp, he, hl, hq⟩
  · simp
  · have := bulk_rows l1 elems hl hq
    rw [he] at hb
    simp only [Rows.uptoBulk] at hb
    omega
end
theorem pairs_of {H : Type} {enc : TypeId × Value → H} {W : World} {v : Value} {d : DataW H} {p : List MemPlace} (h : DataW.Trod enc Try.prog W 0 (fun _ => true) true 28 v d p) (hv : v.cells.toList = [v]) (hb : Rows.uptoBulk d ≤ 1048576) :
    ∃ a c prs, v = .slice a (List.length prs) c ∧ RowAt W.heap.size W a 2 (prs.map AndD.cells) ∧ prs.length ≤ 400000 := by
  obtain ⟨fuel, ht⟩ := h
  rw [hv] at ht
  exact open_pairs ht hb

end Go.Proofs.Ytefjicdhccfieaa
