import Derived.Test.YtlaljeobdddegaaAgF
namespace Go.Proofs.Ytlaljeobdddegaa
open Go.RowKit

def tinyG : GrD := ⟨2, [⟨8, true⟩], [⟨4, 2⟩, ⟨6, 3⟩, ⟨9, 9⟩], [9, 12]⟩
theorem tiny_ok : GrOk tinyG = true := by decide
/-- cells in a block, one after the other -/
theorem rowAt_flat {B : Nat} {w : World} {b sz : Nat} {els : List (List Value)} (hb : b < B) (hs : ∀ l, l ∈ els → l.length = sz) (h : ∀ (m : Nat) (v : Value), els.flatten[m]? = some v → w.cell? ⟨b, m, none⟩ = some v) : RowAt B w (some ⟨b, 0, none⟩) sz els := by
  intro hne
  refine ⟨b, 0, rfl, hb, fun i cs hi j x hx => ?_⟩
  rw [Nat.zero_add]
  apply h
  clear h
  induction els generalizing i with
  | nil => simp at hi
  | cons l r ih =>
    have hl := hs l List.mem_cons_self
    cases i with
    | zero =>
      simp at hi; subst hi
      have hj := (List.getElem?_eq_some_iff.1 hx).1
      rw [List.flatten_cons, List.getElem?_append_left (by omega)]
      simpa using hx
    | succ i =>
      have hi' : r[i]? = some cs := by simpa using hi
      rw [List.flatten_cons, List.getElem?_append_right (by rw [hl, Nat.succ_mul]; omega)]
      have := ih (fun l hl => hs l (List.mem_cons_of_mem _ hl)) (List.ne_nil_of_mem (List.mem_of_getElem? hi')) i hi'
      rw [hl]
      rw [show (i + 1) * sz + j - sz = i * sz + j by rw [Nat.succ_mul]; omega]
      exact this
theorem cell_new {w : World} {cs : Array Value} {t b j : Nat} (h : b = w.heap.size) : (w.alloc (.cells cs t)).cell? ⟨b, j, none⟩ = cs[j]? := by
  subst h; simp
theorem rowAt_nil {B : Nat} {w : World} {a : Option Addr} {sz : Nat} : RowAt B w a sz [] := fun h => absurd rfl h

set_option maxRecDepth 100000 in
set_option maxHeartbeats 8000000 in
theorem tiny_any (w : World) :
    Calls Try.prog 5 #[] w fun e w' => ∃ S, e = .returned (.agg (GrS.cells S tinyG)) ∧ GrAt w'.heap.size w' S tinyG ∧ Below w.heap.size w w' := by
  go_enter Try.func5, Try.ntmps5
  go_wp2
  generalize hW : World.alloc _ _ = W
  have HB : Hid (Below w.heap.size w W) := by
    rw [← hW]
    exact ((((Below.refl _ _).alloc (Nat.le_refl _) _ |>.alloc (by simp) _ |>.alloc (by simp; omega) _) |>.alloc (by simp; omega) _) |>.alloc (by simp; omega) _)
  have hs : W.heap.size = w.heap.size + 5 := by rw [← hW]; simp
  have z : ∀ j, W.cell? ⟨w.heap.size, j, none⟩ = (#[.int .i64 2, .slice (some ⟨w.heap.size + 1 + 1, 0, none⟩) 1 1, .slice (some ⟨w.heap.size + 1 + 1 + 1, 0, none⟩) 3 3, .slice (some ⟨w.heap.size + 1 + 1 + 1 + 1, 0, none⟩) 2 2] : Array Value)[j]? := by intro j; rw [← hW, World.cell?_alloc_lt _ _ _ (by first | (simp; done) | (simp; omega)), World.cell?_alloc_lt _ _ _ (by first | (simp; done) | (simp; omega)), World.cell?_alloc_lt _ _ _ (by first | (simp; done) | (simp; omega)), World.cell?_alloc_lt _ _ _ (by first | (simp; done) | (simp; omega))]; exact cell_new (by simp)
  have zl : ∀ j, W.cell? ⟨w.heap.size + 1 + 1, j, none⟩ = (#[.int .i64 8, .bool true] : Array Value)[j]? := by intro j; rw [← hW, World.cell?_alloc_lt _ _ _ (by first | (simp; done) | (simp; omega)), World.cell?_alloc_lt _ _ _ (by first | (simp; done) | (simp; omega))]; exact cell_new (by simp)
  have za : ∀ j, W.cell? ⟨w.heap.size + 1 + 1 + 1, j, none⟩ = (#[.int .i64 4, .int .i64 2, .int .i64 6, .int .i64 3, .int .i64 9, .int .i64 9] : Array Value)[j]? := by intro j; rw [← hW, World.cell?_alloc_lt _ _ _ (by first | (simp; done) | (simp; omega))]; exact cell_new (by simp)
  have zo : ∀ j, W.cell? ⟨w.heap.size + 1 + 1 + 1 + 1, j, none⟩ = (#[.int .i64 9, .int .i64 12] : Array Value)[j]? := by intro j; rw [← hW]; exact cell_new (by simp)
  clear hW
  have z0 := z 0
  have z1 := z 1
  have z2 := z 2
  have z3 := z 3
  simp at z0 z1 z2 z3
  refine bodyPost_ret (v := .agg #[.int .i64 2, .slice (some ⟨w.heap.size + 1 + 1, 0, none⟩) 1 1, .slice (some ⟨w.heap.size + 1 + 1 + 1, 0, none⟩) 3 3, .slice (some ⟨w.heap.size + 1 + 1 + 1 + 1, 0, none⟩) 2 2]) (by simp [results, Try.results5, go_sem, *]) rfl ?_
  refine ⟨⟨some ⟨w.heap.size + 1 + 1, 0, none⟩, 1, some ⟨w.heap.size + 1 + 1 + 1, 0, none⟩, 3, some ⟨w.heap.size + 1 + 1 + 1 + 1, 0, none⟩, 2⟩, rfl, ?_, HB.out⟩
  have f : ∀ (b : Nat) (cs : Array Value) (els : List (List Value)), (∀ j, W.cell? ⟨b, j, none⟩ = cs[j]?) → els.flatten = cs.toList → ∀ (m : Nat) (v : Value), els.flatten[m]? = some v → W.cell? ⟨b, m, none⟩ = some v := by
    intro b cs els h1 h2 m v hv
    rw [h1 m, ← Array.getElem?_toList, ← h2]; exact hv
  exact ⟨rowAt_flat (by omega) (by simp [tinyG, LatD.cells]) (f _ _ _ zl rfl), rowAt_flat (by omega) (by simp [tinyG, AndD.cells]) (f _ _ _ za rfl), rowAt_flat (by omega) (by simp [tinyG, intC]) (f _ _ _ zo rfl), by simp [tinyG, big], by simp [tinyG, big], by simp [tinyG, big]⟩

end Go.Proofs.Ytlaljeobdddegaa
