import Derived.Test.YtfemaahmafndmaaWdG
namespace Go.Proofs.Ytfemaahmafndmaa
open Go.RowKit

def intV (x : Int) : Value := .int .i64 x
theorem add0 (g j : Nat) : ((⟨g, 0, none⟩ : Addr).add j) = ⟨g, j, none⟩ := by unfold Addr.add; split <;> simp_all
theorem own_row {w : World} {C : Nat} {v : Value} {n : Nat} {xs : List Int} (h : w.ownsRow C 3 1 v n (xs.map intV)) :
    n = xs.length ∧ ∃ aw cw, v = .slice aw n cw ∧ RowAt w.heap.size w aw 1 (xs.map intC) := by
  have hl : n = xs.length := by have := h.1; simp at this; omega
  refine ⟨hl, ?_⟩
  rcases h.2 with ⟨h0, h1⟩ | ⟨g, cap, cur, hv, h1⟩
  · refine ⟨none, 0, by rw [h0, h1], fun he => ?_⟩
    exfalso; apply he; have : xs.length = 0 := by omega
    rw [List.length_eq_zero_iff.1 this]; rfl
  · refine ⟨some ⟨g, 0, none⟩, cap, hv, fun _ => ⟨g, 0, rfl, ?_, ?_⟩⟩
    · exact (h.lt g (by rw [hv]; rfl)).2
    · intro i cs hi j x hj
      have hc := h.cells (g := g) (by rw [hv]; rfl) i
      rw [List.getElem?_map] at hi
      cases hx : xs[i]? with
      | none => rw [hx] at hi; cases hi
      | some y =>
        rw [hx] at hi
        have e : [Value.int .i64 y] = cs := by simpa [intC] using hi
        subst e
        cases j with
        | succ j => simp at hj
        | zero =>
          have ex : Value.int .i64 y = x := by simpa using hj
          subst ex
          have := hc (.int .i64 y) (by rw [List.getElem?_map, hx]; rfl)
          rw [add0] at this
          simpa using this
theorem take_next {α : Type} (l : List α) (k : Nat) (x : α) (h : l[k]? = some x) : l.take (k + 1) = l.take k ++ [x] := by
  rw [List.take_add_one, h]; rfl
theorem sees_of {W w' : World} (h : Below W.heap.size W w') : Below W.heap.size W w' ∧ (∀ b' o, b' < W.heap.size → w'.cell? ⟨b', o, none⟩ = W.cell? ⟨b', o, none⟩) := ⟨h, fun b' o hb => h.cell (p := ⟨b', o, none⟩) hb⟩

theorem sees_alloc {W wr : World} (h : Below W.heap.size W wr) (o : Obj) : Below W.heap.size W ((wr.alloc o).drew) ∧ (∀ b' q, b' < W.heap.size → ((wr.alloc o).drew).cell? ⟨b', q, none⟩ = W.cell? ⟨b', q, none⟩) := sees_of (h.alloc h.size o).drew
theorem grown_below {W wr w5 : World} (h : Below W.heap.size W wr) {o : Obj} {e : TypeId} {size n : Nat} {v : Value} {xs : List Value} (HO : wr.ownsRow W.heap.size e size v n xs) (hg : ((wr.alloc o).drew).grownBy w5 v.ownBlock) : Below W.heap.size W w5 :=
  (h.alloc h.size o).drew.grown hg (Nat.le_trans h.size (by simp)) (fun k hk => (HO.lt k hk).1)
theorem sees_grown {W wr w5 : World} (h : Below W.heap.size W wr) {o : Obj} {e : TypeId} {size n : Nat} {v : Value} {xs : List Value} (HO : wr.ownsRow W.heap.size e size v n xs) (hg : ((wr.alloc o).drew).grownBy w5 v.ownBlock) : Below W.heap.size W w5 ∧ (∀ b' q, b' < W.heap.size → w5.cell? ⟨b', q, none⟩ = W.cell? ⟨b', q, none⟩) := sees_of (grown_below h HO hg)
theorem heap_new (w : World) (o : Obj) : (w.alloc o).heap[w.heap.size]? = some o := by unfold World.alloc; simp

end Go.Proofs.Ytfemaahmafndmaa
