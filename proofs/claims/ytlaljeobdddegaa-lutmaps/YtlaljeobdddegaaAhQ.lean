import Derived.Test.YtlaljeobdddegaaAhP
namespace Go.Proofs.Ytlaljeobdddegaa
open Go.RowKit

set_option maxRecDepth 100000 in
set_option maxHeartbeats 8000000 in
theorem hash_any (B : Nat) (w : World) (S : GrS) (G : GrD) (h : GrAt B w S G) (hB : B ≤ w.heap.size) (hok : GrOk G = true) :
    Calls Try.prog 19 #[.agg (S.cells G)] w fun e w' => (∃ T, e = .returned (.agg (T.cells (hashG G))) ∧ GrAt w'.heap.size w' T (hashG G)) ∧ Below w.heap.size w w' := by
  obtain ⟨ni, n, hF⟩ := fine_of hok
  have VL : Hid (∀ w', Below w.heap.size w w' → Calls Try.prog 17 #[.agg (S.cells G)] w' fun e w'' => e = .returned (.bool true) ∧ Below w'.heap.size w' w'') := fun w' hw' => by
    have := valid_any B w' S G (h.to (hw'.mono hB)) (Nat.le_trans hB hw'.size)
    rw [hok] at this
    exact this
  have HF := hidden hF
  have HAT := hidden h
  clear h hF hok
  unfold GrS.cells at VL ⊢
  go_enter Try.func19, Try.ntmps19
  go_upto_region 1 with fail
  generalize hW0 : World.alloc (World.alloc w _) _ = w0
  have HB0 : Hid (Below w.heap.size w w0) := by rw [← hW0]; exact ((Below.refl _ _).alloc (Nat.le_refl _) _).alloc (by simp) _
  have HSZ0 : Hid (w0.heap.size = w.heap.size + 2) := by show _ = _; rw [← hW0]; simp
  have HQ : Hid (∀ j, w0.cell? ⟨w.heap.size, j, none⟩ = (#[.int .i64 G.ins, .slice S.a1 G.lats.length S.c1, .slice S.a2 G.ands.length S.c2, .slice S.a3 G.outs.length S.c3] : Array Value)[j]?) := by
    rw [← hW0]; intro j
    rw [World.cell?_alloc_lt _ _ _ (by simp)]; exact cell_new rfl
  have HQR : Hid (∀ j, w0.cell? ⟨w.heap.size + 1, j, none⟩ = (#[.int .i64 0, .slice none 0 0, .slice none 0 0, .slice none 0 0] : Array Value)[j]?) := by
    rw [← hW0]; intro j
    exact cell_new (by simp)
  have HRF : Hid (∀ j, w0.frozen? ⟨w.heap.size + 1, j, none⟩ = false) := by
    rw [← hW0]; intro j; exact World.frozen?_alloc_at _ _ _ _ (by simp)
  have p0 := HQ.out 0
  have p1 := HQ.out 1
  have p2 := HQ.out 2
  have p3 := HQ.out 3
  simp at p0 p1 p2 p3
  clear hW0
  go_wp2_with fail
  go_at_call 17
  refine (VL.out _ HB0.out).mono ?_
  rintro e w1 ⟨rfl, hb1⟩
  have HB1 := hidden hb1
  have hs1 := hb1.size
  have HSZ1 : Hid (w.heap.size + 2 ≤ w1.heap.size) := by have := HSZ0.out; show _ ≤ _; omega
  have HBX : Hid (BoxAt w1 w.heap.size S G) := by
    have e : ∀ j, w1.cell? ⟨w.heap.size, j, none⟩ = w0.cell? ⟨w.heap.size, j, none⟩ := fun j => HB1.out.cell (p := ⟨w.heap.size, j, none⟩) (by show w.heap.size < _; have := HSZ0.out; omega)
    exact ⟨by have := HSZ1.out; omega, (e 0).trans p0, (e 1).trans p1, (e 2).trans p2, (e 3).trans p3⟩
  have HBw1 : Hid (Below w.heap.size w w1) := HB0.out.trans (HB1.out.mono HB0.out.size)
  have CL : Hid (Calls Try.prog 33 #[.pointer (some ⟨w.heap.size, 0, none⟩)] w1 fun e w' => (∃ T, e = .returned (.agg (T.cells (hashG G))) ∧ GrAt w'.heap.size w' T (hashG G) ∧ NewAt w1.heap.size T) ∧ Below w1.heap.size w1 w') := hashed_any B w1 w.heap.size S G ni n HF.out HBX.out (HAT.out.to (HBw1.out.mono hB)) (Nat.le_trans hB HBw1.out.size)
  have HR1 : Hid (∀ j, w1.cell? ⟨w.heap.size + 1, j, none⟩ = (#[.int .i64 0, .slice none 0 0, .slice none 0 0, .slice none 0 0] : Array Value)[j]?) := fun j => (HB1.out.cell (p := ⟨w.heap.size + 1, j, none⟩) (by show w.heap.size + 1 < _; have := HSZ0.out; omega)).trans (HQR.out j)
  have HF1 : Hid (∀ j, w1.frozen? ⟨w.heap.size + 1, j, none⟩ = false) := fun j => (HB1.out.frozen (p := ⟨w.heap.size + 1, j, none⟩) (by show w.heap.size + 1 < _; have := HSZ0.out; omega)).trans (HRF.out j)
  obtain ⟨rs, hrs⟩ : ∃ x, x = w.heap.size + 1 := ⟨_, rfl⟩
  rw [← hrs] at HR1 HF1
  have hrl : rs < w1.heap.size := by have := HSZ1.out; omega
  have hrw : w.heap.size ≤ rs := by omega
  clear hb1 HB1 HSZ0 HQ HQR HRF p0 p1 p2 p3 HBX HSZ1 hs1 VL HB0
  go_wp2_with fail
  go_at_call 33
  refine CL.out.mono ?_
  rintro e w8 ⟨⟨T, rfl, hat8, hnw⟩, hb8⟩
  rw [← hrs]
  clear hrs
  have HAT8 := hidden hat8
  have HNW := hidden hnw
  have HB8 := hidden hb8
  have hs8 := hb8.size
  have r0 := (hb8.cell (p := ⟨rs, 0, none⟩) hrl).trans (HR1.out 0)
  have r1 := (hb8.cell (p := ⟨rs, 1, none⟩) hrl).trans (HR1.out 1)
  have r2 := (hb8.cell (p := ⟨rs, 2, none⟩) hrl).trans (HR1.out 2)
  have r3 := (hb8.cell (p := ⟨rs, 3, none⟩) hrl).trans (HR1.out 3)
  have f0 := (hb8.frozen (p := ⟨rs, 0, none⟩) hrl).trans (HF1.out 0)
  have f1 := (hb8.frozen (p := ⟨rs, 1, none⟩) hrl).trans (HF1.out 1)
  have f2 := (hb8.frozen (p := ⟨rs, 2, none⟩) hrl).trans (HF1.out 2)
  have f3 := (hb8.frozen (p := ⟨rs, 3, none⟩) hrl).trans (HF1.out 3)
  simp at r0 r1 r2 r3
  clear hat8 hnw hb8
  unfold GrS.cells
  generalize hGC : hashG G = H at *
  have HHC := hidden hGC
  clear hGC
  go_wp2
  obtain ⟨z0, z1, z2, z3⟩ := set4 r0 r1 r2 r3 (.int .i64 H.ins) (.slice T.a1 H.lats.length T.c1) (.slice T.a2 H.ands.length T.c2) (.slice T.a3 H.outs.length T.c3)
  have HG9 := hidden (set4H w8 rs (.int .i64 H.ins) (.slice T.a1 H.lats.length T.c1) (.slice T.a2 H.ands.length T.c2) (.slice T.a3 H.outs.length T.c3))
  generalize World.setCell _ (⟨rs, 3, none⟩ : Addr) _ = w9 at HG9 z0 z1 z2 z3 ⊢
  clear r0 r1 r2 r3 f0 f1 f2 f3
  refine bodyPost_ret (v := .agg #[.int .i64 H.ins, .slice T.a1 H.lats.length T.c1, .slice T.a2 H.ands.length T.c2, .slice T.a3 H.outs.length T.c3]) (by simp [results, Try.results19, go_sem, *]) rfl ?_
  refine ⟨⟨T, ?_, ?_⟩, ?_⟩
  · rw [HHC.out]; try rfl
  · rw [HHC.out]; exact HAT8.out.set HNW.out hrl HG9.out
  · exact (HBw1.out.trans (HB8.out.mono HBw1.out.size)).trans (below_grown HG9.out (by have := HBw1.out.size; omega) (fun k hk => by have := Option.some.inj hk; omega))
end Go.Proofs.Ytlaljeobdddegaa
