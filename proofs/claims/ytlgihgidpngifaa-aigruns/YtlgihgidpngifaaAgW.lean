import Derived.Test.YtlgihgidpngifaaAgV
namespace Go.Proofs.Ytlgihgidpngifaa
open Go.RowKit

theorem MkAt.other {w w' : World} {mk gb g r : Nat} {S : GrS} {G : GrD} {vals : List Bool} (h : MkAt w mk gb g S G vals) (hg : w.grownBy w' (some r)) (h1 : mk ≠ r) (h2 : gb ≠ r) (h3 : g ≠ r) : MkAt w' mk gb g S G vals :=
  ⟨hg.cell h.m0 (by intro e; cases e; exact h1 rfl), hg.cell h.m1 (by intro e; cases e; exact h1 rfl), Nat.lt_of_lt_of_le h.mlt hg.size, Nat.lt_of_lt_of_le h.glt hg.size, h.box.grown hg h2, (hg.block g h.glt (by intro e; cases e; exact h3 rfl)).trans h.row⟩
/-- all that stood there but two blocks stands as it did -/
structure But (V w : World) (a b : Nat) : Prop where
  os : w.os = V.os
  tape : w.tape = V.tape
  output : w.output = V.output
  size : V.heap.size ≤ w.heap.size
  block : ∀ k, k < V.heap.size → k ≠ a → k ≠ b → w.heap[k]? = V.heap[k]?
theorem But.refl (V : World) (a b : Nat) : But V V a b := ⟨rfl, rfl, rfl, Nat.le_refl _, fun _ _ _ _ => rfl⟩
theorem But.grown {V w w' : World} {a b : Nat} {r : Option Nat} (h : But V w a b) (hg : w.grownBy w' r) (hr : ∀ x, r = some x → x = a ∨ x = b ∨ V.heap.size ≤ x) : But V w' a b :=
  ⟨hg.os.trans h.os, hg.tape.trans h.tape, hg.output.trans h.output, Nat.le_trans h.size hg.size, fun k hk h1 h2 => (hg.block k (Nat.lt_of_lt_of_le hk h.size) (fun e => by
    rcases hr k e.symm with hx | hx | hx
    · exact h1 hx
    · exact h2 hx
    · omega)).trans (h.block k hk h1 h2)⟩
theorem But.below {V w : World} {a b C : Nat} (h : But V w a b) (hC : C ≤ V.heap.size) (ha : C ≤ a) (hb : C ≤ b) : Below C V w :=
  ⟨h.os, h.tape, h.output, h.size, fun k hk => h.block k (Nat.lt_of_lt_of_le hk hC) (by omega) (by omega)⟩
theorem grown_of_below {w w' : World} (h : Below w.heap.size w w') : w.grownBy w' none := ⟨h.os, h.tape, h.output, h.size, fun k hk _ => h.block k hk⟩
theorem first_length {nv ni : Nat} {st : List Bool} (h : 1 + ni + st.length ≤ nv) : (firstV nv ni st).length = nv := by unfold firstV; rw [length_splice _ _ _ (by simpa using h)]; simp
theorem splice_zero (L cs : List Bool) (off : Nat) (h : 0 < off) (h2 : 0 < L.length) : (splice L off cs)[0]? = (L.take off)[0]? := by
  unfold splice
  cases L with
  | nil => simp at h2
  | cons a t =>
    cases off with
    | zero => omega
    | succ n => simp
theorem splice_part (L cs : List Bool) (off : Nat) (h : off ≤ L.length) : ((splice L off cs).drop off).take cs.length = cs := by
  unfold splice
  have e : (L.take off).length = off := by simp; omega
  rw [List.drop_append_of_le_length (by omega), List.drop_of_length_le (by omega), List.nil_append, List.take_append_of_le_length (Nat.le_refl _), List.take_length]
theorem andsN_zero (v : List Bool) (l : List AndD) (x : Bool) (h : v[0]? = some x) : (andsN v l)[0]? = some x := by
  induction l generalizing v with
  | nil => exact h
  | cons d t ih =>
    refine ih _ ?_
    have hl : 0 < v.length := by
      cases v with
      | nil => cases h
      | cons a b => simp
    rw [List.getElem?_append_left hl]; exact h
theorem cyc_zero (G : GrD) (row st : List Bool) : (cycN G row st)[0]? = some false := by
  unfold cycN; exact andsN_zero _ _ _ rfl
/-- what the values of a machine are between two cycles -/
structure ValsOk (G : GrD) (nv ni : Nat) (vals st : List Bool) : Prop where
  len : vals.length = nv
  zero : vals[0]? = some false
  part : (vals.drop (1 + ni)).take G.lats.length = st
theorem ok_first (G : GrD) (nv ni : Nat) (h : 1 + ni + G.lats.length ≤ nv) : ValsOk G nv ni (firstV nv ni (initN G)) (initN G) := by
  have hl : (initN G).length = G.lats.length := by unfold initN; simp
  refine ⟨first_length (by omega), ?_, ?_⟩
  · unfold firstV
    rw [splice_zero _ _ _ (by omega) (by simp; omega), List.getElem?_take, if_pos (by omega), List.getElem?_replicate, if_pos (by omega)]
  · have := splice_part (List.replicate nv false) (initN G) (1 + ni) (by simp; omega)
    rw [hl] at this
    exact this
theorem ok_next (G : GrD) (nv ni : Nat) (vals : List Bool) (h : 1 + ni + G.lats.length ≤ nv) (hl : vals.length = nv) (h0 : vals[0]? = some false) : ValsOk G nv ni (splice vals (1 + ni) (nextN G vals)) (nextN G vals) := by
  have hn : (nextN G vals).length = G.lats.length := by unfold nextN; simp
  refine ⟨?_, ?_, ?_⟩
  · rw [length_splice _ _ _ (by omega)]; exact hl
  · rw [splice_zero _ _ _ (by omega) (by omega)]
    cases vals with
    | nil => cases h0
    | cons a t => simpa [Nat.add_comm 1 ni] using h0
  · have := splice_part vals (nextN G vals) (1 + ni) (by omega)
    rw [hn] at this
    exact this

end Go.Proofs.Ytlgihgidpngifaa
