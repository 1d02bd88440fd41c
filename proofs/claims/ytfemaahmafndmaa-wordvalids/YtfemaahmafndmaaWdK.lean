import Derived.Test.YtfemaahmafndmaaWdJ
import Derived.Deep.RegionHeld3
import Derived.Deep.CutBlock
namespace Go.Proofs.Ytfemaahmafndmaa
open Go.RowKit

theorem all_cutL {α : Type} (p : α → Bool) (l : List α) (k : Nat) : l.all p = ((l.take k).all p && (l.drop k).all p) := by
  conv => lhs; rw [← List.take_append_drop k l, List.all_append]
theorem all_cut (p : Nat → Bool) {k n : Nat} (h : k ≤ n) : (List.range n).all p = ((List.range k).all p && ((List.range n).drop k).all p) := by
  have := all_cutL p (List.range n) k
  rw [List.take_range, Nat.min_eq_left h] at this
  exact this
theorem sees_after {W a b : World} (h : Below W.heap.size W a ∧ (∀ b' o, b' < W.heap.size → a.cell? ⟨b', o, none⟩ = W.cell? ⟨b', o, none⟩)) (hb : Below a.heap.size a b) : Below W.heap.size W b ∧ (∀ b' o, b' < W.heap.size → b.cell? ⟨b', o, none⟩ = W.cell? ⟨b', o, none⟩) :=
  sees_of (h.1.trans (hb.mono h.1.size))
theorem and_right {a b : Bool} (h : true = (a && b)) : b = true := by cases a <;> cases b <;> simp_all
theorem mask_int (x : Int) (h : widthOk x = true) (w : World) :
    Calls Try.prog 19 #[.int .i64 x] w fun e w' => e = .returned (.int .u64 (maskN x)) ∧ w' = w := by
  have hx : 1 ≤ x ∧ x ≤ 32 := by simpa [widthOk] using h
  have := mask_any x.toNat (by omega) (by omega) w
  rw [show ((x.toNat : Nat) : Int) = x by omega] at this
  exact this

/-- a block of a function's text, by its number -/
def blockAt (n : Nat) : Code → Option Code
  | .block m c => if m = n then some (.block m c) else blockAt n c
  | .seq a b => match blockAt n a with
    | some c => some c
    | none => blockAt n b
  | .loop c => blockAt n c
  | .scope c => blockAt n c
  | .cond _ a b => match blockAt n a with
    | some c => some c
    | none => blockAt n b
  | _ => none

end Go.Proofs.Ytfemaahmafndmaa
