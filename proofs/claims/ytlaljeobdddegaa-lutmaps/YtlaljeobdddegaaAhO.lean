import Derived.Test.YtlaljeobdddegaaAhM
import Derived.Test.YtlaljeobdddegaaAhN
namespace Go.Proofs.Ytlaljeobdddegaa
open Go.RowKit

/-! As AcI, AcP, AcS have them (that seat is another one) -/
def NewAt (C : Nat) (T : GrS) : Prop := (∀ b o, T.a1 = some ⟨b, o, none⟩ → C ≤ b) ∧ (∀ b o, T.a2 = some ⟨b, o, none⟩ → C ≤ b) ∧ (∀ b o, T.a3 = some ⟨b, o, none⟩ → C ≤ b)
theorem own_new {w : World} {C e sz n m c : Nat} {a : Option Addr} {xs : List Value} (h : w.ownsRow C e sz (.slice a m c) n xs) {D : Nat} (hD : D ≤ C) : ∀ b o, a = some ⟨b, o, none⟩ → D ≤ b := by
  intro b o e
  have := (h.lt b (by rw [e]; rfl)).1
  omega
theorem RowAt.set {w w' : World} {a : Option Addr} {sz C rs : Nat} {els : List (List Value)} (h : RowAt w.heap.size w a sz els) (hn : ∀ b o, a = some ⟨b, o, none⟩ → C ≤ b) (hr : rs < C) (hg : w.grownBy w' (some rs)) : RowAt w'.heap.size w' a sz els := fun he => by
  obtain ⟨b, o, ha, hlt, hc⟩ := h he
  have hb := hn b o ha
  exact ⟨b, o, ha, Nat.lt_of_lt_of_le hlt hg.size, fun i cs h1 j x h2 => (hg.cell_far ⟨b, o + i * sz + j, none⟩ hlt (by simp; omega)).trans (hc i cs h1 j x h2)⟩
theorem GrAt.set {w w' : World} {T : GrS} {G : GrD} {C rs : Nat} (h : GrAt w.heap.size w T G) (hn : NewAt C T) (hr : rs < C) (hg : w.grownBy w' (some rs)) : GrAt w'.heap.size w' T G :=
  ⟨h.l.set hn.1 hr hg, h.a.set hn.2.1 hr hg, h.o.set hn.2.2 hr hg, h.ll, h.la, h.lo⟩
theorem set4 {w : World} {b : Nat} {o0 o1 o2 o3 : Value} (h0 : w.cell? ⟨b, 0, none⟩ = some o0) (h1 : w.cell? ⟨b, 1, none⟩ = some o1) (h2 : w.cell? ⟨b, 2, none⟩ = some o2) (h3 : w.cell? ⟨b, 3, none⟩ = some o3) (x0 x1 x2 x3 : Value) :
    ((((w.setCell ⟨b, 0, none⟩ x0).setCell ⟨b, 1, none⟩ x1).setCell ⟨b, 2, none⟩ x2).setCell ⟨b, 3, none⟩ x3).cell? ⟨b, 0, none⟩ = some x0 ∧ ((((w.setCell ⟨b, 0, none⟩ x0).setCell ⟨b, 1, none⟩ x1).setCell ⟨b, 2, none⟩ x2).setCell ⟨b, 3, none⟩ x3).cell? ⟨b, 1, none⟩ = some x1 ∧ ((((w.setCell ⟨b, 0, none⟩ x0).setCell ⟨b, 1, none⟩ x1).setCell ⟨b, 2, none⟩ x2).setCell ⟨b, 3, none⟩ x3).cell? ⟨b, 2, none⟩ = some x2 ∧ ((((w.setCell ⟨b, 0, none⟩ x0).setCell ⟨b, 1, none⟩ x1).setCell ⟨b, 2, none⟩ x2).setCell ⟨b, 3, none⟩ x3).cell? ⟨b, 3, none⟩ = some x3 := by
  have n : ∀ i j : Nat, i ≠ j → (⟨b, i, none⟩ : Addr) ≠ ⟨b, j, none⟩ := fun i j h e => h (by injection e)
  have o : ∀ (w : World) (i j : Nat) (x : Value), i ≠ j → (w.setCell ⟨b, i, none⟩ x).cell? ⟨b, j, none⟩ = w.cell? ⟨b, j, none⟩ := fun w i j x h => by apply World.cell?_setCell_other; exact n i j h
  refine ⟨?_, ?_, ?_, ?_⟩
  · rw [o _ 3 0 _ (by decide), o _ 2 0 _ (by decide), o _ 1 0 _ (by decide)]; apply World.cell?_setCell_same; exact h0
  · rw [o _ 3 1 _ (by decide), o _ 2 1 _ (by decide)]; apply World.cell?_setCell_same; exact ((o _ 0 1 _ (by decide)).trans h1)
  · rw [o _ 3 2 _ (by decide)]; apply World.cell?_setCell_same; exact ((o _ 1 2 _ (by decide)).trans ((o _ 0 2 _ (by decide)).trans h2))
  · apply World.cell?_setCell_same; exact ((o _ 2 3 _ (by decide)).trans ((o _ 1 3 _ (by decide)).trans ((o _ 0 3 _ (by decide)).trans h3)))
theorem own_not {w : World} {C e sz n : Nat} {v : Value} {xs : List Value} (h : w.ownsRow C e sz v n xs) {x : Nat} (hx : x < C) : v.ownBlock = none ∨ v.ownBlock ≠ some x := by
  refine .inr fun e => ?_
  have := (h.lt x e).1
  omega
theorem set4H (w : World) (b : Nat) (x0 x1 x2 x3 : Value) : w.grownBy ((((w.setCell ⟨b, 0, none⟩ x0).setCell ⟨b, 1, none⟩ x1).setCell ⟨b, 2, none⟩ x2).setCell ⟨b, 3, none⟩ x3) (some b) :=
  grown_trans (grown_trans (grown_trans (setH _ _ _ _) (setH _ _ _ _)) (setH _ _ _ _)) (setH _ _ _ _)
theorem made_zeroes (n : Nat) : (madeCells (Value.int .i64 0).cells (n * 1)).toList = (List.replicate n (0 : Int)).map zH := by
  rw [Nat.mul_one]
  apply List.ext_getElem?
  intro i
  by_cases h : i < n
  · simp [madeCells, Value.cells, zH, h, Nat.mod_one]
  · simp [madeCells, Value.cells, zH, h]

end Go.Proofs.Ytlaljeobdddegaa
