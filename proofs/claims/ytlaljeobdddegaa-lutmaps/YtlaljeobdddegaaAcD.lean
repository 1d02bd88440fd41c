import Derived.Test.YtlaljeobdddegaaAcC
import Derived.Deep.Cut
import Derived.Laws.OwnMore
namespace Go.Proofs.Ytlaljeobdddegaa
open Go.RowKit

def marks (nd : List Bool) (vs : List Nat) : List Bool := vs.foldl (fun l v => l.set v true) nd
theorem marks_snoc (nd : List Bool) (vs : List Nat) (v : Nat) : marks nd (vs ++ [v]) = (marks nd vs).set v true := by unfold marks; rw [List.foldl_append]; rfl
theorem marks_len (nd : List Bool) (vs : List Nat) : (marks nd vs).length = nd.length := by
  induction vs generalizing nd with
  | nil => rfl
  | cons v t ih => show (marks (nd.set v true) t).length = _; rw [ih, List.length_set]
theorem marks_on {nd : List Bool} {vs : List Nat} (h : ∀ v, v ∈ vs → v < nd.length) (x : Nat) : On (marks nd vs) x ↔ x ∈ vs ∨ On nd x := by
  induction vs generalizing nd with
  | nil => simp [marks]
  | cons v t ih =>
    have h1 := ih (nd := nd.set v true) (fun y hy => by rw [List.length_set]; exact h y (List.mem_cons_of_mem _ hy))
    show On (marks (nd.set v true) t) x ↔ _
    rw [h1]
    constructor
    · rintro (h2 | h2)
      · exact .inl (List.mem_cons_of_mem _ h2)
      · rcases on_of h2 with rfl | h2
        · exact .inl List.mem_cons_self
        · exact .inr h2
    · rintro (h2 | h2)
      · rcases List.mem_cons.1 h2 with rfl | h2
        · exact .inr (on_new (h x List.mem_cons_self))
        · exact .inl h2
      · exact .inr (on_set h2)
def vOf (l : Int) : Nat := l.toNat / 2
def nOf (l : LatD) : Nat := l.next.toNat / 2

end Go.Proofs.Ytlaljeobdddegaa
