import Derived.Test.YtefjicdhccfieaaJvP
import Derived.Test.YtefjicdhccfieaaAgG
namespace Go.Proofs.Ytefjicdhccfieaa
open Go.RowKit

set_option maxRecDepth 100000 in
set_option maxHeartbeats 8000000 in
theorem law_formulas (B0 : Nat) (w0 : World) (SA SB : GrS) (A B : GrD) (hA : GrAt B0 w0 SA A) (hB : GrAt B0 w0 SB B) (hB0 : B0 ≤ w0.heap.size) (pa : Option Addr) (pc : Nat) (prs : List AndD) (R : RowAt B0 w0 pa 2 (prs.map AndD.cells)) (hpn : prs.length ≤ 400000) :
    Calls Try.prog 4 #[.agg (SA.cells A), .agg (SB.cells B), .slice pa prs.length pc] w0 fun e w' => e = .returned (.bool true) ∧ Below w0.heap.size w0 w' := by
  have OC : Hid (∀ w', Below w0.heap.size w0 w' → Calls Try.prog 9 #[.agg #[.int .i64 A.ins, .slice SA.a1 A.lats.length SA.c1, .slice SA.a2 A.ands.length SA.c2, .slice SA.a3 A.outs.length SA.c3], .agg #[.int .i64 B.ins, .slice SB.a1 B.lats.length SB.c1, .slice SB.a2 B.ands.length SB.c2, .slice SB.a3 B.outs.length SB.c3], .slice pa prs.length pc] w' fun e w'' => e = .returned (.bool true) ∧ Below w'.heap.size w' w'') := fun w' hb => joinedOk_any B0 w' SA SB A B (hA.to (hb.mono hB0)) (hB.to (hb.mono hB0)) (Nat.le_trans hB0 hb.size) pa pc prs (R.to (hb.mono hB0)) hpn
  have TC : Hid (∀ w : World, Calls Try.prog 10 #[] w fun e w' => ∃ S : GrS, e = .returned (.agg (GrS.cells S tinyG)) ∧ GrAt w'.heap.size w' S tinyG ∧ Below w.heap.size w w') := tiny_any
  have LC : Hid (∀ (w : World) (S1 S2 : GrS), GrAt w.heap.size w S1 tinyG → GrAt w.heap.size w S2 tinyG → Calls Try.prog 9 #[.agg (S1.cells tinyG), .agg (S2.cells tinyG), .slice (some ⟨w.heap.size, 0, none⟩) 1 1] (w.alloc (.cells #[.int .i64 6, .int .i64 8] 33)) fun e w'' => e = .returned (.bool true) ∧ Below w.heap.size w w'') := fun w S1 S2 h1 h2 => by
    have hb : Below w.heap.size w (w.alloc (.cells #[.int .i64 6, .int .i64 8] 33)) := (Below.refl _ _).alloc (Nat.le_refl _) _
    have hn2 := heap_new w (.cells #[.int .i64 6, .int .i64 8] 33)
    have hr : RowAt (w.alloc (.cells #[.int .i64 6, .int .i64 8] 33)).heap.size (w.alloc (.cells #[.int .i64 6, .int .i64 8] 33)) (some ⟨w.heap.size, 0, none⟩) 2 (([⟨6, 8⟩] : List AndD).map AndD.cells) := rowAt_flat (by simp) (fun l hl => by obtain ⟨q, _, rfl⟩ := List.mem_map.1 hl; rfl) (fun m v hm => by
      rw [cell_of_row _ _ m _ _ _ hn2]
      simpa [AndD.cells] using hm)
    refine (joinedOk_any _ _ S1 S2 tinyG tinyG ((h1.to hb).mono hb.size) ((h2.to hb).mono hb.size) (Nat.le_refl _) _ 1 [⟨6, 8⟩] hr (by simp)).mono ?_
    rintro e w' ⟨he, hb'⟩
    exact ⟨he, hb.trans (hb'.mono hb.size)⟩
  obtain ⟨pn, HPN⟩ : ∃ x, Hid (x = prs.length) := ⟨_, rfl⟩
  rw [← HPN.out] at OC
  rw [← HPN.out]
  clear hA hB R HPN
  unfold GrS.cells
  generalize tinyG = G at *
  go_enter Try.func4, Try.ntmps4
  go_upto_region 1 with fail
  obtain ⟨o1, ho1⟩ : ∃ o, o = Obj.cells #[.int .i64 A.ins, .slice SA.a1 A.lats.length SA.c1, .slice SA.a2 A.ands.length SA.c2, .slice SA.a3 A.outs.length SA.c3] 30 (0, 0) := ⟨_, rfl⟩
  obtain ⟨o2, ho2⟩ : ∃ o, o = Obj.cells #[.int .i64 B.ins, .slice SB.a1 B.lats.length SB.c1, .slice SB.a2 B.ands.length SB.c2, .slice SB.a3 B.outs.length SB.c3] 30 (0, 0) := ⟨_, rfl⟩
  rw [← ho1, ← ho2]
  have s1 : (w0.alloc o1).heap.size = w0.heap.size + 1 := by simp
  have b1 := heap_new w0 o1
  have B1 : Below w0.heap.size w0 (w0.alloc o1) := (Below.refl _ _).alloc (Nat.le_refl _) _
  generalize w0.alloc o1 = w1 at *
  have s2 : (w1.alloc o2).heap.size = w1.heap.size + 1 := by simp
  have b2 := heap_new w1 o2
  have B2 : Below w1.heap.size w1 (w1.alloc o2) := (Below.refl _ _).alloc (Nat.le_refl _) _
  generalize w1.alloc o2 = W at *
  obtain ⟨ga, h5⟩ : ∃ x, x = w0.heap.size := ⟨_, rfl⟩
  obtain ⟨gb, h6⟩ : ∃ x, x = w0.heap.size + 1 := ⟨_, rfl⟩
  have d5 : W.heap[ga]? = some o1 := (B2.block ga (by omega)).trans (by rw [h5]; exact b1)
  have d6 : W.heap[gb]? = some o2 := by rw [h6, ← s1]; exact b2
  rw [ho1] at d5
  rw [ho2] at d6
  have HXA : Hid (BoxAt W ga SA A) := ⟨by omega, (cell_of_row _ _ 0 _ _ (0, 0) d5).trans rfl, (cell_of_row _ _ 1 _ _ (0, 0) d5).trans rfl, (cell_of_row _ _ 2 _ _ (0, 0) d5).trans rfl, (cell_of_row _ _ 3 _ _ (0, 0) d5).trans rfl⟩
  have HXB : Hid (BoxAt W gb SB B) := ⟨by omega, (cell_of_row _ _ 0 _ _ (0, 0) d6).trans rfl, (cell_of_row _ _ 1 _ _ (0, 0) d6).trans rfl, (cell_of_row _ _ 2 _ _ (0, 0) d6).trans rfl, (cell_of_row _ _ 3 _ _ (0, 0) d6).trans rfl⟩
  have HBW0 : Hid (Below w0.heap.size w0 W) := B1.trans (B2.mono (by omega))
  rw [← h6, ← h5]
  have hws : w0.heap.size ≤ W.heap.size := HBW0.out.size
  clear b1 b2 B1 B2 s1 s2 h5 h6 d5 d6 ho1 ho2
  go_wp2_with fail
  go_at_call 10
  refine (TC.out _).mono ?_
  rintro e v1 ⟨S1, rfl, hg1, hb1⟩
  have HG1 := hidden hg1
  have HQ1 := hidden hb1
  clear hg1 hb1
  go_wp2_with fail
  go_at_call 10
  refine (TC.out _).mono ?_
  rintro e v2 ⟨S2, rfl, hg2, hb2⟩
  have HG2 := hidden hg2
  have HG1' : Hid (GrAt v2.heap.size v2 S1 G) := (HG1.out.to hb2).mono hb2.size
  have HQ2 : Hid (Below W.heap.size W v2) := HQ1.out.trans (hb2.mono HQ1.out.size)
  clear hg2 hb2
  go_wp2_with fail
  go_at_call 9
  refine (LC.out _ _ _ HG1'.out HG2.out).mono ?_
  rintro e v3 ⟨rfl, hb3⟩
  have HQ3 : Hid (Below W.heap.size W v3) := HQ2.out.trans (hb3.mono HQ2.out.size)
  clear hb3
  have x0 := (HXA.out.to HXA.out.lt HQ3.out).c0
  have x1 := (HXA.out.to HXA.out.lt HQ3.out).c1
  have x2 := (HXA.out.to HXA.out.lt HQ3.out).c2
  have x3 := (HXA.out.to HXA.out.lt HQ3.out).c3
  have z0 := (HXB.out.to HXB.out.lt HQ3.out).c0
  have z1 := (HXB.out.to HXB.out.lt HQ3.out).c1
  have z2 := (HXB.out.to HXB.out.lt HQ3.out).c2
  have z3 := (HXB.out.to HXB.out.lt HQ3.out).c3
  go_wp2_with fail
  go_at_call 9
  refine (OC.out _ (HBW0.out.trans (HQ3.out.mono hws))).mono ?_
  rintro e v4 ⟨rfl, hb4⟩
  have HQ4 : Hid (Below W.heap.size W v4) := HQ3.out.trans (hb4.mono HQ3.out.size)
  clear hb4
  clear x0 x1 x2 x3 z0 z1 z2 z3
  go_wp2
  go_ret
  exact ⟨rfl, HBW0.out.trans (HQ4.out.mono hws)⟩

end Go.Proofs.Ytefjicdhccfieaa
