import Derived.Test.YtlaljeobdddegaaAcE
import Derived.Deep.RegionHeld3
namespace Go.Proofs.Ytlaljeobdddegaa
open Go.RowKit

def intV (x : Int) : Value := .int .i64 x
theorem grown_set (w : World) (b j : Nat) (v : Value) : w.grownBy (w.setCell ⟨b, j, none⟩ v) (some b) := by
  refine ⟨rfl, rfl, rfl, by simp [World.setCell], fun k hk hne => ?_⟩
  have hkb : k ≠ b := fun e => hne (by rw [e])
  simp [World.setCell, Array.getElem?_modify, Ne.symm hkb]
theorem grown_thru {a b c d : World} {x : Nat} {row : Option Nat} (h1 : a.grownBy b (some x)) (h2 : b.grownBy c row) (h3 : c.grownBy d (some x)) (hr : ∀ y, row = some y → a.heap.size ≤ y) : a.grownBy d (some x) :=
  ⟨h3.os.trans (h2.os.trans h1.os), h3.tape.trans (h2.tape.trans h1.tape), h3.output.trans (h2.output.trans h1.output), Nat.le_trans h1.size (Nat.le_trans h2.size h3.size), fun k hk hne => by
    have s1 := h1.size
    have s2 := h2.size
    rw [h3.block k (by omega) hne, h2.block k (by omega) (fun e => by have := hr k e.symm; omega), h1.block k hk hne]⟩
theorem grown_ad (w : World) (o : Obj) (row : Option Nat) : w.grownBy (w.alloc o).drew row := ⟨rfl, rfl, rfl, by simp, fun k hk _ => heap_alloc_old w o hk⟩

end Go.Proofs.Ytlaljeobdddegaa
