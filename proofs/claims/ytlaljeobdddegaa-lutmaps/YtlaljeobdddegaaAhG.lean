import Derived.Test.YtlaljeobdddegaaAhF
namespace Go.Proofs.Ytlaljeobdddegaa
open Go.RowKit

set_option maxRecDepth 100000 in
set_option maxHeartbeats 4000000 in
theorem newGates_any (w : World) (first : Nat) : Calls Try.prog 49 #[.int .i64 first] w fun e w' => e = .returned (.pointer (some ⟨w.heap.size + 1, 0, none⟩)) ∧ GtAt w.heap.size w' (w.heap.size + 1) w.heap.size first [] (.slice none 0 0) ∧ Below w.heap.size w w' ∧ w'.heap.size = w.heap.size + 2 := by
  have hmm : (Instr.makeMap 101 none).run Try.prog w = .ok (.map (some w.heap.size)) (w.alloc (.map #[] 0)) := by kernel_rfl
  go_enter Try.func49, Try.ntmps49
  go_wp2
  refine bodyPost_ret (v := .pointer (some ⟨w.heap.size + 1, 0, none⟩)) (by simp [results, Try.results49, go_sem]) rfl ⟨rfl, ?_, ((Below.refl _ _).alloc (Nat.le_refl _) _).alloc (by simp) _, by simp⟩
  generalize hA : w.alloc (.map #[] 0) = wa
  have ha : wa.heap.size = w.heap.size + 1 := by rw [← hA]; simp
  have hc : ∀ j, (wa.alloc (.cells #[.int .i64 (first : Int), .slice none 0 0, .map (some w.heap.size)] 103)).cell? ⟨w.heap.size + 1, j, none⟩ = (#[.int .i64 (first : Int), .slice none 0 0, .map (some w.heap.size)] : Array Value)[j]? := fun j => cell_new ha.symm
  refine ⟨(hc 0).trans rfl, (hc 1).trans rfl, (hc 2).trans rfl, World.ownsRow_nil _ _ _ _, ⟨#[], 0, ?_, rfl, fun i d hd => by simp at hd⟩, fun j => ?_, by simp [ha]; omega, by simp [ha], by simp [ha]; omega, by omega, (fun e => by cases e), (fun e => by cases e)⟩
  · rw [heap_alloc_old _ _ (by omega), ← hA]
    exact heap_new _ _
  · have hb : (wa.alloc (.cells #[.int .i64 (first : Int), .slice none 0 0, .map (some w.heap.size)] 103)).heap[w.heap.size + 1]? = some (.cells #[.int .i64 (first : Int), .slice none 0 0, .map (some w.heap.size)] 103) := by rw [← ha]; exact heap_new _ _
    simp [World.frozen?, hb]

end Go.Proofs.Ytlaljeobdddegaa
