import Derived.Test.YtdiahnommkhkiaaDoorJ12
namespace Go.Proofs.YtdiahnommkhkiaaDoor
open Go.RowKit

/-- a latch's line -/
def LatLine (T : List UInt8) (n : Nat) (own m : Int) (d : LatD) : Prop := d.next < m ∧ ((nums T n = some [own, d.next] ∧ d.init = false) ∨ ∃ f, nums T n = some [own, d.next, f] ∧ f ≤ 1 ∧ d.init = decide (f = 1))
theorem set2 {w : World} {b : Nat} {T : TypeId} {x y : Value} (h : w.heap[b]? = some (.cells #[x, y] T (0, 0))) (u v : Value) : ((w.setCell ⟨b, 0, none⟩ u).setCell ⟨b, 1, none⟩ v).heap[b]? = some (.cells #[u, v] T (0, 0)) := by
  have h1 := set_self (o := 0) (u := u) h
  have h2 := set_self (o := 1) (u := v) h1
  exact h2
theorem TxAt.grown {w w' : World} {r b : Nat} {T : List UInt8} {n : Nat} {h : Int × Int × Int × Int × Int} (x : TxAt w r T n h) (hg : w.grownBy w' (some b)) (hne : r ≠ b) : TxAt w' r T n h := by
  obtain ⟨⟨bg, h1⟩, h2, h3⟩ := x
  exact ⟨⟨bg, (hg.block r h1.lt (fun e => hne (Option.some.inj e))).trans h1⟩, h2, h3⟩
theorem grown_far {w a b : World} {r rb : Nat} (h : w.grownBy a (some r)) (h2 : a.grownBy b (some rb)) (hb : w.heap.size ≤ rb) : w.grownBy b (some r) :=
  ⟨h2.os.trans h.os, h2.tape.trans h.tape, h2.output.trans h.output, Nat.le_trans h.size h2.size, fun k hk hne => (h2.block k (Nat.lt_of_lt_of_le hk h.size) (fun e => by have := Option.some.inj e; omega)).trans (h.block k hk hne)⟩


end Go.Proofs.YtdiahnommkhkiaaDoor
