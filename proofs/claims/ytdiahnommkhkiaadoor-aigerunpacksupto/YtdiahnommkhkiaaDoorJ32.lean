import Derived.Test.YtdiahnommkhkiaaDoorJ31
namespace Go.Proofs.YtdiahnommkhkiaaDoor
open Go.RowKit

theorem GrAt.out {w w' : World} {S : GrS} {G : GrD} {C : Nat} (h : GrAt w.heap.size w S G) (hn : NewAt C S) (hs : w.heap.size ≤ w'.heap.size) (hk : ∀ k, C ≤ k → k < w.heap.size → w'.heap[k]? = w.heap[k]?) : GrAt w'.heap.size w' S G := by
  have go : ∀ {a : Option Addr} {sz : Nat} {els : List (List Value)}, RowAt w.heap.size w a sz els → (∀ b o, a = some ⟨b, o, none⟩ → C ≤ b) → RowAt w'.heap.size w' a sz els := fun h hn he => by
    obtain ⟨b, o, ha, hlt, hc⟩ := h he
    exact ⟨b, o, ha, Nat.lt_of_lt_of_le hlt hs, fun i cs h1 j x h2 => (World.cell?_of_block (hk b (hn b o ha) hlt)).trans (hc i cs h1 j x h2)⟩
  exact ⟨go h.l hn.1, go h.a hn.2.1, go h.o hn.2.2, h.ll, h.la, h.lo⟩
theorem two_below {w w1 w5 : World} {p q : Nat} (h : Below w.heap.size w w1) (hs : w1.heap.size ≤ w5.heap.size) (h1 : w5.os = w1.os) (h2 : w5.tape = w1.tape) (h3 : w5.output = w1.output) (hk : ∀ k, k ≠ p → k ≠ q → k < w1.heap.size → w5.heap[k]? = w1.heap[k]?) (hp : w.heap.size ≤ p) (hq : w.heap.size ≤ q) : Below w.heap.size w w5 :=
  ⟨h1.trans h.os, h2.trans h.tape, h3.trans h.output, Nat.le_trans h.size hs, fun k hlt => (hk k (by omega) (by omega) (Nat.lt_of_lt_of_le hlt h.size)).trans (h.block k hlt)⟩
/-- no fault, or one of a block from a number on -/
def ErrN (C : Nat) (w : World) (v : Value) (c a : Int) : Prop := (v = .nilIface ∧ c = 0 ∧ a = 0) ∨ ∃ p, v = .iface 85 (.pointer (some ⟨p, 0, none⟩)) ∧ FtAt w p c a ∧ C ≤ p
theorem NewAt.mono {C D : Nat} {S : GrS} (h : NewAt C S) (hd : D ≤ C) : NewAt D S := ⟨fun b o e => Nat.le_trans hd (h.1 b o e), fun b o e => Nat.le_trans hd (h.2.1 b o e), fun b o e => Nat.le_trans hd (h.2.2 b o e)⟩
theorem zeroN (C : Nat) : NewAt C zeroS := ⟨fun _ _ e => (by cases e), fun _ _ e => (by cases e), fun _ _ e => (by cases e)⟩


end Go.Proofs.YtdiahnommkhkiaaDoor
