import Derived.Test.YtdiahnommkhkiaaDoorJ17
import Derived.Deep.CutBlock
namespace Go.Proofs.YtdiahnommkhkiaaDoor
open Go.RowKit

/-- a block of a text, by its number -/
def blockAt (n : Nat) : Code → Option Code
  | .block m c => if m = n then some (.block m c) else blockAt n c
  | .seq a b => match blockAt n a with
    | some c => some c
    | none => blockAt n b
  | .loop c => blockAt n c
  | .scope c => blockAt n c
  | .cond _ a b => match blockAt n a with
    | some c => some c
    | none => blockAt n b
  | _ => none
/-- lines one behind the other -/
def cat (f : Nat → List UInt8) (k : Nat) : List UInt8 := (List.range k).flatMap f
theorem cat_next (f : Nat → List UInt8) (k : Nat) : cat f (k + 1) = cat f k ++ f k := by unfold cat; rw [List.range_succ, List.flatMap_append]; simp
theorem cat_zero (f : Nat → List UInt8) : cat f 0 = [] := rfl
theorem cat_len {f : Nat → List UInt8} {m : Nat} (k : Nat) (h : ∀ i, i < k → (f i).length ≤ m) : (cat f k).length ≤ m * k := by
  induction k with
  | zero => simp [cat]
  | succ k ih =>
    rw [cat_next, List.length_append]
    have h1 := ih fun i hi => h i (by omega)
    have h2 := h k (by omega)
    rw [Nat.mul_succ]; omega
def fI (i : Nat) : List UInt8 := decI (2 * (1 + (i : Int))) ++ [10]
def fL (G : GrD) (ni i : Nat) : List UInt8 := match G.lats[i]? with | some l => decI (2 * (1 + (ni : Int) + (i : Int))) ++ [32] ++ firstT l | none => []
def fO (G : GrD) (i : Nat) : List UInt8 := match G.outs[i]? with | some x => decI x ++ [10] | none => []
def fA (G : GrD) (first i : Nat) : List UInt8 := match G.ands[i]? with | some d => decI (2 * ((first : Int) + (i : Int))) ++ [32] ++ decI d.x ++ [32] ++ decI d.y ++ [10] | none => []
theorem firstT_len {l : LatD} (h : l.next < 4294967296) : (firstT l).length ≤ 13 := by
  unfold firstT
  have := decI_len h
  cases l.init <;> simp <;> omega


end Go.Proofs.YtdiahnommkhkiaaDoor
