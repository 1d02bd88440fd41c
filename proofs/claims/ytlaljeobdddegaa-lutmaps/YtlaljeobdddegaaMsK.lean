import Derived.Test.YtlaljeobdddegaaMsJ
namespace Go.Proofs.Ytlaljeobdddegaa
open Go.RowKit

/-- the law's own trace -/
def ownT (a b : Nat) : List TR := [⟨some ⟨a, 0, none⟩, 2, [true, true]⟩, ⟨some ⟨b, 0, none⟩, 1, [false]⟩]

set_option maxRecDepth 100000 in
set_option maxHeartbeats 8000000 in
theorem law_maps (B : Nat) (w : World) (S : GrS) (G : GrD) (h : GrAt B w S G) (hB : B ≤ w.heap.size) (ta : Option Addr) (tc : Nat) (trs : List TR) (ht : TrAt B w ta trs) :
    Calls Try.prog 3 #[.agg (S.cells G), .slice ta trs.length tc] w fun e w' => e = .returned (.bool true) ∧ Below w.heap.size w w' := by
  have SM : Hid (∀ w : World, Calls Try.prog 5 #[] w fun e w' => ∃ S, e = .returned (.agg (GrS.cells S tinyG)) ∧ GrAt w'.heap.size w' S tinyG ∧ Below w.heap.size w w') := tiny_any
  have RT : Hid (∀ (w : World) S (a : Option Addr) c trs, GrAt w.heap.size w S tinyG → TrAt w.heap.size w a trs → Calls Try.prog 4 #[.agg (GrS.cells S tinyG), .slice a trs.length c] w fun e w' => e = .returned (.bool true) ∧ Below w.heap.size w w') := fun w S a c trs hg ht => mapped_any w.heap.size w S tinyG hg (Nat.le_refl _) a c trs ht
  have RG : Hid (∀ w', Below w.heap.size w w' → Calls Try.prog 4 #[.agg (S.cells G), .slice ta trs.length tc] w' fun e w'' => e = .returned (.bool true) ∧ Below w'.heap.size w' w'') := fun w' hw' =>
    mapped_any B w' S G (h.to (hw'.mono hB)) (Nat.le_trans hB hw'.size) ta tc trs (ht.to (hw'.mono hB))
  clear h ht
  generalize hcs : S.cells G = cs at *
  have hcs' : cs = #[.int .i64 G.ins, .slice S.a1 G.lats.length S.c1, .slice S.a2 G.ands.length S.c2, .slice S.a3 G.outs.length S.c3] := hcs.symm
  clear hcs
  subst hcs'
  go_enter Try.func3, Try.ntmps3
  go_wp2_with fail
  generalize hW : World.alloc w _ = W
  have HB : Hid (Below w.heap.size w W) := by rw [← hW]; exact (Below.refl _ _).alloc (Nat.le_refl _) _
  have hN : w.heap.size < W.heap.size := by rw [← hW]; simp
  have HX : Hid (BoxAt W w.heap.size S G) := by
    rw [← hW]
    exact ⟨by simp, by simp, by simp, by simp, by simp⟩
  clear hW
  go_at_call 5
  refine (SM.out _).mono ?_
  rintro e w1 ⟨S1, rfl, hn1, hb1⟩
  have HB1 := hidden hb1
  have HN1 := hidden hn1
  obtain ⟨s1, t1, s2, t2, s3, t3⟩ := S1
  clear hb1 hn1 SM
  go_wp2_with fail
  generalize hW2 : World.alloc _ _ = W2
  have hs2 : W2.heap.size = w1.heap.size + 3 := by rw [← hW2]; simp
  have HB2 : Hid (Below w1.heap.size w1 W2) := by
    rw [← hW2]
    exact (((Below.refl _ _).alloc (Nat.le_refl _) _).alloc (by simp) _).alloc (by simp; omega) _
  have zb : ∀ j, W2.cell? ⟨w1.heap.size + 1 + 1, j, none⟩ = (#[.slice (some ⟨w1.heap.size, 0, none⟩) 2 2, .slice (some ⟨w1.heap.size + 1, 0, none⟩) 1 1] : Array Value)[j]? := by intro j; rw [← hW2]; exact cell_new (by simp)
  have z0 : ∀ j, W2.cell? ⟨w1.heap.size, j, none⟩ = (#[.bool true, .bool true] : Array Value)[j]? := by intro j; rw [← hW2, World.cell?_alloc_lt _ _ _ (by first | (simp; done) | (simp; omega)), World.cell?_alloc_lt _ _ _ (by first | (simp; done) | (simp; omega))]; exact cell_new (by simp)
  have z1 : ∀ j, W2.cell? ⟨w1.heap.size + 1, j, none⟩ = (#[.bool false] : Array Value)[j]? := by intro j; rw [← hW2, World.cell?_alloc_lt _ _ _ (by first | (simp; done) | (simp; omega))]; exact cell_new (by simp)
  have HT2 : Hid (TrAt W2.heap.size W2 (some ⟨w1.heap.size + 1 + 1, 0, none⟩) (ownT w1.heap.size (w1.heap.size + 1))) := by
    have f : ∀ (b : Nat) (cs : Array Value) (els : List (List Value)), (∀ j, W2.cell? ⟨b, j, none⟩ = cs[j]?) → els.flatten = cs.toList → ∀ (m : Nat) (v : Value), els.flatten[m]? = some v → W2.cell? ⟨b, m, none⟩ = some v := by
      intro b cs els h1 h2 m v hv
      rw [h1 m, ← Array.getElem?_toList, ← h2]; exact hv
    refine ⟨rowAt_flat (by omega) (by simp [ownT, TR.cells]) (f _ _ _ zb rfl), ?_, by simp [ownT]⟩
    intro t htm
    simp only [ownT, List.mem_cons, List.not_mem_nil, or_false] at htm
    rcases htm with rfl | rfl
    · exact rowAt_flat (by omega) (by simp [bC]) (f _ _ _ z0 rfl)
    · exact rowAt_flat (by omega) (by simp [bC]) (f _ _ _ z1 rfl)
  have HG2 : Hid (GrAt W2.heap.size W2 ⟨s1, t1, s2, t2, s3, t3⟩ tinyG) := (HN1.out.to HB2.out).mono HB2.out.size
  have HR2 := hidden (RT.out W2 ⟨s1, t1, s2, t2, s3, t3⟩ _ 2 _ HG2.out HT2.out)
  have HBW2 : Hid (Below W.heap.size W W2) := HB1.out.trans (HB2.out.mono HB1.out.size)
  clear hW2 zb z0 z1 RT HN1 HT2 HG2 hs2
  go_at_call 4
  refine HR2.out.mono ?_
  rintro e w3 ⟨rfl, hb3⟩
  have HB3 := hidden (HBW2.out.trans (hb3.mono HBW2.out.size))
  have HX3 : Hid (BoxAt w3 w.heap.size S G) := HX.out.to hN HB3.out
  have q0 := HX3.out.c0
  have q1 := HX3.out.c1
  have q2 := HX3.out.c2
  have q3 := HX3.out.c3
  clear hb3 HR2 HX3
  go_wp2_with fail
  go_at_call 4
  refine (RG.out _ (HB.out.trans (HB3.out.mono HB.out.size))).mono ?_
  rintro e w4 ⟨rfl, hb4⟩
  have HB4 := hidden (HB3.out.trans (hb4.mono HB3.out.size))
  clear hb4 q0 q1 q2 q3
  go_wp2_with fail
  go_ret
  exact ⟨rfl, HB.out.trans (HB4.out.mono HB.out.size)⟩

end Go.Proofs.Ytlaljeobdddegaa
