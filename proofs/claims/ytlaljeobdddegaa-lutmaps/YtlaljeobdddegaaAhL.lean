import Derived.Test.YtlaljeobdddegaaAhK
namespace Go.Proofs.Ytlaljeobdddegaa
open Go.RowKit

/-- the closure, by the literals that are there already -/
theorem ren_own (w : World) (C0 nb lb n : Nat) (L s : List Int) (m : Nat) (hbox : w.cell? ⟨nb, 0, none⟩ = some (.slice (some ⟨lb, 0, none⟩) n n)) (hO : w.ownsRow C0 3 1 (.slice (some ⟨lb, 0, none⟩) n n) n (L.map zH)) (hn : n ≤ 60000) (hm : m ≤ n) (hv : ∀ v, v < m → L[v]? = some (s.getD v 0)) (hb : ∀ v, v < m → 0 ≤ s.getD v 0 ∧ s.getD v 0 ≤ 4000000) (l : Int) (h0 : 0 ≤ l) (h1 : l < 2 * (m : Int)) : Calls Try.prog 50 #[.int .i64 l, .pointer (some ⟨nb, 0, none⟩)] w fun e w' => e = .returned (.int .i64 (renL s l)) ∧ w' = w := by
  obtain ⟨v, hve⟩ : ∃ v, v = (l / 2).toNat := ⟨_, rfl⟩
  have hvm : v < m := by omega
  have hc : w.cell? ⟨lb, v, none⟩ = some (.int .i64 (s.getD v 0)) := by
    rw [hO.cellAt v (by omega), List.getElem?_map, hv v hvm]; rfl
  have := ren_any w nb lb n v (s.getD v 0) l hbox (by omega) h0 hve.symm (by omega) hc (hb v hvm).1 (by have := (hb v hvm).2; omega)
  rw [hve] at this
  exact this
/-- what a loop over the gates may change: three blocks -/
structure Kept3 (a b : World) (x y z : Nat) : Prop where
  os : b.os = a.os
  tape : b.tape = a.tape
  output : b.output = a.output
  size : a.heap.size ≤ b.heap.size
  block : ∀ k, k < a.heap.size → k ≠ x → k ≠ y → k ≠ z → b.heap[k]? = a.heap[k]?
theorem Kept3.refl (a : World) (x y z : Nat) : Kept3 a a x y z := ⟨rfl, rfl, rfl, Nat.le_refl _, fun _ _ _ _ _ => rfl⟩
theorem Kept3.step {a b c : World} {x y z : Nat} (h : Kept3 a b x y z) {row : Option Nat} (hg : b.grownBy c row) (hr : ∀ k, row = some k → k = x ∨ k = y ∨ k = z ∨ a.heap.size ≤ k) : Kept3 a c x y z :=
  ⟨hg.os.trans h.os, hg.tape.trans h.tape, hg.output.trans h.output, Nat.le_trans h.size hg.size, fun k h1 h2 h3 h4 => by
    rw [hg.block k (Nat.lt_of_lt_of_le h1 h.size) (fun e => by have := hr k e.symm; omega)]
    exact h.block k h1 h2 h3 h4⟩
theorem Kept3.cell {a b : World} {x y z : Nat} (h : Kept3 a b x y z) {k j : Nat} (h1 : k < a.heap.size) (h2 : k ≠ x) (h3 : k ≠ y) (h4 : k ≠ z) : b.cell? ⟨k, j, none⟩ = a.cell? ⟨k, j, none⟩ := World.cell?_of_block (h.block k h1 h2 h3 h4)
theorem GtAt.far {C : Nat} {w w' : World} {gb mb first : Nat} {hs : List AndD} {u : Value} (h : GtAt C w gb mb first hs u) {z : Nat} (hg : w.grownBy w' (some z)) (h1 : z ≠ gb) (h2 : z ≠ mb) (h3 : u.ownBlock ≠ some z) : GtAt C w' gb mb first hs u :=
  have f : ∀ j, w'.cell? ⟨gb, j, none⟩ = w.cell? ⟨gb, j, none⟩ := fun j => hg.cell_far ⟨gb, j, none⟩ h.lt (fun e => h1 (by cases e; rfl))
  ⟨(f 0).trans h.c0, (f 1).trans h.c1, (f 2).trans h.c2, h.ow.kept hg (.inr h3), h.kn.to (hg.block mb h.lm (fun e => h2 (by cases e; rfl))), fun j => (hg.frozen_far ⟨gb, j, none⟩ h.lt (fun e => h1 (by cases e; rfl))).trans (h.fr j), Nat.le_trans h.ge hg.size, Nat.lt_of_lt_of_le h.lt hg.size, Nat.lt_of_lt_of_le h.lm hg.size, h.ne, h.ng, h.nm⟩
theorem Grew.cell {w w' : World} {gb mb : Nat} {row : Option Nat} (h : Grew w w' gb mb row) {k j : Nat} (h1 : k < w.heap.size) (h2 : some k ≠ row) (h3 : k ≠ gb) (h4 : k ≠ mb) : w'.cell? ⟨k, j, none⟩ = w.cell? ⟨k, j, none⟩ := by
  obtain ⟨w1, w2, g1, g2, g3⟩ := h
  have s1 := g1.size
  have s2 := g2.size
  exact (g3.cell_far ⟨k, j, none⟩ (by show k < _; omega) (fun e => h4 (by cases e; rfl))).trans ((g2.cell_far ⟨k, j, none⟩ (by show k < _; omega) (fun e => h3 (by cases e; rfl))).trans (g1.cell_far ⟨k, j, none⟩ h1 h2))
theorem Grew.own {w w' : World} {gb mb : Nat} {row : Option Nat} (h : Grew w w' gb mb row) {C e sz n : Nat} {v : Value} {xs : List Value} (ho : w.ownsRow C e sz v n xs) (h2 : v.ownBlock ≠ row) (h3 : v.ownBlock ≠ some gb) (h4 : v.ownBlock ≠ some mb) : w'.ownsRow C e sz v n xs := by
  obtain ⟨w1, w2, g1, g2, g3⟩ := h
  exact ((ho.kept g1 (.inr h2)).kept g2 (.inr h3)).kept g3 (.inr h4)
theorem Grew.size {w w' : World} {gb mb : Nat} {row : Option Nat} (h : Grew w w' gb mb row) : w.heap.size ≤ w'.heap.size := by
  obtain ⟨w1, w2, g1, g2, g3⟩ := h
  exact Nat.le_trans g1.size (Nat.le_trans g2.size g3.size)
theorem Grew.keep {a w w' : World} {gb mb lb : Nat} {row : Option Nat} (h : Grew w w' gb mb row) (hk : Kept3 a w gb mb lb) (hr : ∀ k, row = some k → a.heap.size ≤ k) : Kept3 a w' gb mb lb := by
  obtain ⟨w1, w2, g1, g2, g3⟩ := h
  refine ((hk.step g1 fun k e => ?_).step g2 fun k e => ?_).step g3 fun k e => ?_
  · have := hr k e; omega
  · have := Option.some.inj e; omega
  · have := Option.some.inj e; omega

end Go.Proofs.Ytlaljeobdddegaa
