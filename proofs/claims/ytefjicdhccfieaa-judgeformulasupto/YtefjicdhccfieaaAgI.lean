import Derived.Test.YtefjicdhccfieaaAgG
import Derived.ProofKit
import Derived.SizedLaws
import Derived.Deep.Slices
import Derived.Test.YtefjicdhccfieaaSaH
namespace Go.Proofs.Ytefjicdhccfieaa
open Go.ChangeShapes Go.WideShapes Go.ChangeAt Go.RowKit

section
variable {H : Type} {enc : TypeId × Value → H} {w : World} {base : Nat} {spare : Nat → Bool} {held : Bool} {fuel : Nat}

/-- nothing in it that is longer than memory is -/
def Fine (t : TypeId) (d : DataW H) : Prop := ∀ n, n ∈ DataW.weights Try.prog t d → n ≤ reachBytes
theorem fine_part {t : TypeId} {fs : Array Field} {parts : List (DataW H)} (ht : Try.prog.underlying t = some (.struct fs)) (h : Fine t (.agg parts)) {i : Nat} {f : Field} {d : DataW H} (hf : fs[i]? = some f) (hd : parts[i]? = some d) : Fine f.type d := fun n hn => by
  refine h n ?_
  rw [DataW.weights.eq_def]
  simp only [ht]
  exact DataW.weights_mem_each (j := i) (by rw [List.getElem?_map, Array.getElem?_toList, hf]; rfl) hd n hn
theorem mem_all {e : TypeId} {l : List (DataW H)} {i : Nat} {d : DataW H} (hd : l[i]? = some d) : ∀ n, n ∈ DataW.weights Try.prog e d → n ∈ DataW.weightsAll Try.prog e l := by
  induction l generalizing i with
  | nil => simp at hd
  | cons a r ih =>
    intro n hn
    rw [DataW.weightsAll.eq_def]
    simp only [List.mem_append]
    cases i with
    | zero => simp at hd; subst hd; exact .inl hn
    | succ i => exact .inr (ih (by simpa using hd) n hn)
theorem fine_slice {t e : TypeId} {elems sp : List (DataW H)} (ht : Try.prog.underlying t = some (.slice e)) (h : Fine t (.slice elems sp)) : (elems.length + sp.length) * Try.prog.bytesOf e ≤ reachBytes ∧ ∀ (i : Nat) (d : DataW H), elems[i]? = some d → Fine e d := by
  have e1 : DataW.weights Try.prog t (.slice elems sp) = (elems.length + sp.length) * Try.prog.bytesOf e :: (DataW.weightsAll Try.prog e elems ++ DataW.weightsAll Try.prog e sp) := by
    rw [DataW.weights.eq_def]; simp only [ht]
  unfold Fine at h
  rw [e1] at h
  exact ⟨h _ List.mem_cons_self, fun i d hd n hn => h n (List.mem_cons_of_mem _ (List.mem_append.2 (.inl (mem_all hd n hn))))⟩
end
end Go.Proofs.Ytefjicdhccfieaa
