import Derived.Test.YtefjicdhccfieaaJ01
import Derived.Test.YtefjicdhccfieaaJ27
import Derived.Test.YtefjicdhccfieaaJ51
import Derived.Test.YtefjicdhccfieaaJ29
set_option maxRecDepth 100000
set_option maxHeartbeats 16000000
namespace Go.Proofs.Ytefjicdhccfieaa
open Go.RowKit
theorem certain_doc (B0 : Nat) (w0 : World) (SA SB : GrS) (A B : GrD) (hA : GrAt B0 w0 SA A) (hB : GrAt B0 w0 SB B) (hB0 : B0 ≤ w0.heap.size) (xa : Option Addr) (xc : Nat) (prs : List AndD) (R : RowAt B0 w0 xa 2 (prs.map AndD.cells)) (hpn : prs.length ≤ 400000) (ba : Option Addr) (bc : Nat) (bcl : List CL) (hbc : ClAt B0 w0 ba bcl) (hbt : total bcl ≤ 1048576) (sa : Option Addr) (sc : Nat) (scl : List CL) (hsc : ClAt B0 w0 sa scl) (hst : total scl ≤ 1048576) (oa : Option Addr) (oc : Nat) (ocl : List CL) (hoc : ClAt B0 w0 oa ocl) (hot : total ocl ≤ 1048576) :
  Calls Try.prog 12 #[.agg (SA.cells A), .agg (SB.cells B), .agg #[.slice xa prs.length xc, .slice ba bcl.length bc, .slice sa scl.length sc, .slice oa ocl.length oc]] w0 fun e w' => HldP w0 A B prs (bcl.map CL.l) (scl.map CL.l) (ocl.map CL.l) e w' := by
 have AC : Hid (∀ w', Below w0.heap.size w0 w' → Calls Try.prog 23 #[.agg #[.int .i64 A.ins, .slice SA.a1 A.lats.length SA.c1, .slice SA.a2 A.ands.length SA.c2, .slice SA.a3 A.outs.length SA.c3], .agg #[.int .i64 B.ins, .slice SB.a1 B.lats.length SB.c1, .slice SB.a2 B.ands.length SB.c2, .slice SB.a3 B.outs.length SB.c3]] w' fun e w'' => e = .returned (.bool (AlikeG A B)) ∧ Below w'.heap.size w' w'') := fun w' hb => alike_doc B0 w' SA SB A B (hA.to (hb.mono hB0)) (hB.to (hb.mono hB0)) (Nat.le_trans hB0 hb.size)
 obtain ⟨pn, HPN⟩ : ∃ x, Hid (x = prs.length) := ⟨_, rfl⟩
 obtain ⟨bn, HBN⟩ : ∃ x, Hid (x = bcl.length) := ⟨_, rfl⟩
 obtain ⟨sn, HSN⟩ : ∃ x, Hid (x = scl.length) := ⟨_, rfl⟩
 obtain ⟨on, HON⟩ : ∃ x, Hid (x = ocl.length) := ⟨_, rfl⟩
 have HNO : Hid (AlikeG A B = false → ¬ HoldsG A B prs (bcl.map CL.l) (scl.map CL.l) (ocl.map CL.l)) := fun h1 h2 => by rw [h2.1] at h1; cases h1
 unfold GrS.cells
 cases hal : AlikeG A B
 ·rw [hal] at AC
  have HNO' := hidden (HNO.out hal)
  rw [← HPN.out, ← HBN.out, ← HSN.out, ← HON.out]
  clear hA hB R hal hbc hsc hoc HNO
  go_enter Try.func12, Try.ntmps12
  go_upto_region 1 with fail
  obtain ⟨o1, ho1⟩ : ∃ o, o = Obj.cells #[.int .i64 A.ins, .slice SA.a1 A.lats.length SA.c1, .slice SA.a2 A.ands.length SA.c2, .slice SA.a3 A.outs.length SA.c3] 30 (0, 0) := ⟨_, rfl⟩
  obtain ⟨o2, ho2⟩ : ∃ o, o = Obj.cells #[.int .i64 B.ins, .slice SB.a1 B.lats.length SB.c1, .slice SB.a2 B.ands.length SB.c2, .slice SB.a3 B.outs.length SB.c3] 30 (0, 0) := ⟨_, rfl⟩
  obtain ⟨o3, ho3⟩ : ∃ o, o = Obj.cells #[.slice xa pn xc, .slice ba bn bc, .slice sa sn sc, .slice oa on oc] 35 (0, 0) := ⟨_, rfl⟩
  rw [← ho1, ← ho2, ← ho3]
  have s1 : (w0.alloc o1).heap.size = w0.heap.size + 1 := by simp
  have b1 := heap_new w0 o1
  have B1 : Below w0.heap.size w0 (w0.alloc o1) := (Below.refl _ _).alloc (Nat.le_refl _) _
  generalize w0.alloc o1 = w1 at *
  have s2 : (w1.alloc o2).heap.size = w1.heap.size + 1 := by simp
  have b2 := heap_new w1 o2
  have B2 : Below w1.heap.size w1 (w1.alloc o2) := (Below.refl _ _).alloc (Nat.le_refl _) _
  generalize w1.alloc o2 = w2 at *
  have s3 : (w2.alloc o3).heap.size = w2.heap.size + 1 := by simp
  have b3 := heap_new w2 o3
  have B3 : Below w2.heap.size w2 (w2.alloc o3) := (Below.refl _ _).alloc (Nat.le_refl _) _
  generalize w2.alloc o3 = W at *
  obtain ⟨ga, h5⟩ : ∃ x, x = w0.heap.size := ⟨_, rfl⟩
  obtain ⟨gb, h6⟩ : ∃ x, x = w0.heap.size + 1 := ⟨_, rfl⟩
  obtain ⟨gc, h7⟩ : ∃ x, x = w0.heap.size + 1 + 1 := ⟨_, rfl⟩
  have d5 : W.heap[ga]? = some o1 := (B3.block ga (by omega)).trans ((B2.block ga (by omega)).trans (by rw [h5]; exact b1))
  have d6 : W.heap[gb]? = some o2 := (B3.block gb (by omega)).trans (by rw [h6, ← s1]; exact b2)
  have d7 : W.heap[gc]? = some o3 := by rw [h7, ← s1, ← s2]; exact b3
  rw [ho1] at d5
  rw [ho2] at d6
  rw [ho3] at d7
  have hgc : gc < W.heap.size := by omega
  have HXC : Hid (∀ w', Below W.heap.size W w' → w'.cell? ⟨gc, 0, none⟩ = some (.slice xa pn xc) ∧ w'.cell? ⟨gc, 1, none⟩ = some (.slice ba bn bc) ∧ w'.cell? ⟨gc, 2, none⟩ = some (.slice sa sn sc) ∧ w'.cell? ⟨gc, 3, none⟩ = some (.slice oa on oc)) := fun w' hb => ⟨(hb.cell (p := ⟨gc, 0, none⟩) hgc).trans ((cell_of_row _ _ 0 _ _ (0, 0) d7).trans rfl), (hb.cell (p := ⟨gc, 1, none⟩) hgc).trans ((cell_of_row _ _ 1 _ _ (0, 0) d7).trans rfl), (hb.cell (p := ⟨gc, 2, none⟩) hgc).trans ((cell_of_row _ _ 2 _ _ (0, 0) d7).trans rfl), (hb.cell (p := ⟨gc, 3, none⟩) hgc).trans ((cell_of_row _ _ 3 _ _ (0, 0) d7).trans rfl)⟩
  have HXA : Hid (BoxAt W ga SA A) := ⟨by omega, (cell_of_row _ _ 0 _ _ (0, 0) d5).trans rfl, (cell_of_row _ _ 1 _ _ (0, 0) d5).trans rfl, (cell_of_row _ _ 2 _ _ (0, 0) d5).trans rfl, (cell_of_row _ _ 3 _ _ (0, 0) d5).trans rfl⟩
  have HXB : Hid (BoxAt W gb SB B) := ⟨by omega, (cell_of_row _ _ 0 _ _ (0, 0) d6).trans rfl, (cell_of_row _ _ 1 _ _ (0, 0) d6).trans rfl, (cell_of_row _ _ 2 _ _ (0, 0) d6).trans rfl, (cell_of_row _ _ 3 _ _ (0, 0) d6).trans rfl⟩
  have HBW0 : Hid (Below w0.heap.size w0 W) := B1.trans ((B2.trans (B3.mono (by omega))).mono (by omega))
  rw [← h7, ← h6, ← h5]
  have hws : w0.heap.size ≤ W.heap.size := HBW0.out.size
  clear b1 b2 b3 B1 B2 B3 s1 s2 s3 h5 h6 h7 d5 d6 d7 ho1 ho2 ho3
  have x0 := (HXA.out.to HXA.out.lt (Below.refl _ _)).c0
  have x1 := (HXA.out.to HXA.out.lt (Below.refl _ _)).c1
  have x2 := (HXA.out.to HXA.out.lt (Below.refl _ _)).c2
  have x3 := (HXA.out.to HXA.out.lt (Below.refl _ _)).c3
  have z0 := (HXB.out.to HXB.out.lt (Below.refl _ _)).c0
  have z1 := (HXB.out.to HXB.out.lt (Below.refl _ _)).c1
  have z2 := (HXB.out.to HXB.out.lt (Below.refl _ _)).c2
  have z3 := (HXB.out.to HXB.out.lt (Below.refl _ _)).c3
  go_wp2_with fail
  go_at_call 23
  refine (AC.out _ HBW0.out).mono ?_
  rintro e w3 ⟨rfl, hb3⟩
  have HB3 := hidden hb3
  clear hb3
  clear x0 x1 x2 x3 z0 z1 z2 z3
  go_wp2
  go_ret
  exact ⟨false, rfl, ⟨fun h => (by cases h), fun h => absurd h HNO'.out⟩, HBW0.out.trans (HB3.out.mono hws)⟩
 rw [hal] at AC
 obtain ⟨hga, hgb, -, -⟩ := alike_ok hal
 have okA := okB_of hga
 have okB := okB_of hgb
 have HJ := hidden (join_bounds okA okB)
 have JC : Hid (∀ w', Below w0.heap.size w0 w' → Calls Try.prog 26 #[.agg #[.int .i64 A.ins, .slice SA.a1 A.lats.length SA.c1, .slice SA.a2 A.ands.length SA.c2, .slice SA.a3 A.outs.length SA.c3], .agg #[.int .i64 B.ins, .slice SB.a1 B.lats.length SB.c1, .slice SB.a2 B.ands.length SB.c2, .slice SB.a3 B.outs.length SB.c3]] w' fun e w'' => JnP w' (joinG A B) e w'') := fun w' hb => joint_doc B0 w' SA SB A B (hA.to (hb.mono hB0)) (hB.to (hb.mono hB0)) (Nat.le_trans hB0 hb.size) okA okB
 have HRR : Hid (∀ w', Below w0.heap.size w0 w' → RowAt B0 w' xa 2 (prs.map AndD.cells)) := fun w' hb => R.to (hb.mono hB0)
 have DC0 : Hid (pairsOk (joinG A B).vars prs = true → ∀ w', Below w0.heap.size w0 w' → ∀ which : Nat, which < 3 → Calls Try.prog 29 #[.agg #[.int .i64 A.ins, .slice SA.a1 A.lats.length SA.c1, .slice SA.a2 A.ands.length SA.c2, .slice SA.a3 A.outs.length SA.c3], .agg #[.int .i64 B.ins, .slice SB.a1 B.lats.length SB.c1, .slice SB.a2 B.ands.length SB.c2, .slice SB.a3 B.outs.length SB.c3], .slice xa prs.length xc, .int .i64 (which : Int)] w' fun e w'' => FmQ w' (formV (joinG A B) prs which) (formF (joinG A B) prs which) e w'') := fun hok w' hb which hw => formed_doc B0 w' SA SB A B okA okB (Nat.le_trans hB0 hb.size) (fun w'' hb' => JC.out w'' (hb.trans (hb'.mono hb.size))) xa xc prs (HRR.out w' hb) (pairs_le hok HJ.out.vs.2) hpn which (by omega)
 have HBCL : Hid (∀ w', Below w0.heap.size w0 w' → ClAt B0 w' ba bcl) := fun w' hb => hbc.to (hb.mono hB0)
 have HSCL : Hid (∀ w', Below w0.heap.size w0 w' → ClAt B0 w' sa scl) := fun w' hb => hsc.to (hb.mono hB0)
 have HOCL : Hid (∀ w', Below w0.heap.size w0 w' → ClAt B0 w' oa ocl) := fun w' hb => hoc.to (hb.mono hB0)
 have HYE : Hid (pairsOk (joinG A B).vars prs = false → ¬ HoldsG A B prs (bcl.map CL.l) (scl.map CL.l) (ocl.map CL.l)) := fun h1 h2 => by rw [h2.2.1] at h1; cases h1
 have HIF : Hid (∀ bx bY bz : Bool, pairsOk (joinG A B).vars prs = true → (bx = true ↔ RefP (formV (joinG A B) prs 0) (formF (joinG A B) prs 0) (bcl.map CL.l)) → (bY = true ↔ RefP (formV (joinG A B) prs 1) (formF (joinG A B) prs 1) (scl.map CL.l)) → (bz = true ↔ RefP (formV (joinG A B) prs 2) (formF (joinG A B) prs 2) (ocl.map CL.l)) → ((bx && bY && bz) = true ↔ HoldsG A B prs (bcl.map CL.l) (scl.map CL.l) (ocl.map CL.l))) := fun bx bY bz hp h1 h2 h3 => by
  rw [Bool.and_eq_true, Bool.and_eq_true, h1, h2, h3]
  exact ⟨fun ⟨⟨a, b⟩, c⟩ => ⟨hal, hp, a, b, c⟩, fun ⟨_, _, a, b, c⟩ => ⟨⟨a, b⟩, c⟩⟩
 have HLT : Hid (total bcl ≤ 1048576 ∧ total scl ≤ 1048576 ∧ total ocl ≤ 1048576) := ⟨hbt, hst, hot⟩
 clear hga hgb okA okB hal hA hB R hbc hsc hoc hbt hst hot HNO
 have HPO : Hid (∀ (b : Bool) (w' : World), (b = true ↔ HoldsG A B prs (bcl.map CL.l) (scl.map CL.l) (ocl.map CL.l)) → Below w0.heap.size w0 w' → HldP w0 A B prs (bcl.map CL.l) (scl.map CL.l) (ocl.map CL.l) (.returned (.bool b)) w') := fun b w' h1 h2 => ⟨b, rfl, h1, h2⟩
 generalize HoldsG A B prs (bcl.map CL.l) (scl.map CL.l) (ocl.map CL.l) = HG at *
 generalize joinG A B = G at *
 have PC : Hid (∀ w' (T : GrS), Below w0.heap.size w0 w' → Calls Try.prog 27 #[.agg #[.int .i64 G.ins, .slice T.a1 G.lats.length T.c1, .slice T.a2 G.ands.length T.c2, .slice T.a3 G.outs.length T.c3], .slice xa prs.length xc] w' fun e w'' => e = .returned (.bool (pairsOk G.vars prs)) ∧ Below w'.heap.size w' w'') := fun w' T hb => paired_doc B0 w' T G HJ.out xa xc prs (HRR.out w' hb) (Nat.le_trans hB0 hb.size) (by simp only [big]; omega)
 have HTT : Hid (∀ which, totL (formF G prs which) ≤ 12000000) := fun which => formF_tot HJ.out.a1 HJ.out.l1 HJ.out.o1 prs hpn which
 rw [← HPN.out] at DC0 PC
 rw [← HPN.out, ← HBN.out, ← HSN.out, ← HON.out]
 clear HRR HJ
 go_enter Try.func12, Try.ntmps12
 go_upto_region 1 with fail
 obtain ⟨o1, ho1⟩ : ∃ o, o = Obj.cells #[.int .i64 A.ins, .slice SA.a1 A.lats.length SA.c1, .slice SA.a2 A.ands.length SA.c2, .slice SA.a3 A.outs.length SA.c3] 30 (0, 0) := ⟨_, rfl⟩
 obtain ⟨o2, ho2⟩ : ∃ o, o = Obj.cells #[.int .i64 B.ins, .slice SB.a1 B.lats.length SB.c1, .slice SB.a2 B.ands.length SB.c2, .slice SB.a3 B.outs.length SB.c3] 30 (0, 0) := ⟨_, rfl⟩
 obtain ⟨o3, ho3⟩ : ∃ o, o = Obj.cells #[.slice xa pn xc, .slice ba bn bc, .slice sa sn sc, .slice oa on oc] 35 (0, 0) := ⟨_, rfl⟩
 rw [← ho1, ← ho2, ← ho3]
 have s1 : (w0.alloc o1).heap.size = w0.heap.size + 1 := by simp
 have b1 := heap_new w0 o1
 have B1 : Below w0.heap.size w0 (w0.alloc o1) := (Below.refl _ _).alloc (Nat.le_refl _) _
 generalize w0.alloc o1 = w1 at *
 have s2 : (w1.alloc o2).heap.size = w1.heap.size + 1 := by simp
 have b2 := heap_new w1 o2
 have B2 : Below w1.heap.size w1 (w1.alloc o2) := (Below.refl _ _).alloc (Nat.le_refl _) _
 generalize w1.alloc o2 = w2 at *
 have s3 : (w2.alloc o3).heap.size = w2.heap.size + 1 := by simp
 have b3 := heap_new w2 o3
 have B3 : Below w2.heap.size w2 (w2.alloc o3) := (Below.refl _ _).alloc (Nat.le_refl _) _
 generalize w2.alloc o3 = W at *
 obtain ⟨ga, h5⟩ : ∃ x, x = w0.heap.size := ⟨_, rfl⟩
 obtain ⟨gb, h6⟩ : ∃ x, x = w0.heap.size + 1 := ⟨_, rfl⟩
 obtain ⟨gc, h7⟩ : ∃ x, x = w0.heap.size + 1 + 1 := ⟨_, rfl⟩
 have d5 : W.heap[ga]? = some o1 := (B3.block ga (by omega)).trans ((B2.block ga (by omega)).trans (by rw [h5]; exact b1))
 have d6 : W.heap[gb]? = some o2 := (B3.block gb (by omega)).trans (by rw [h6, ← s1]; exact b2)
 have d7 : W.heap[gc]? = some o3 := by rw [h7, ← s1, ← s2]; exact b3
 rw [ho1] at d5
 rw [ho2] at d6
 rw [ho3] at d7
 have hgc : gc < W.heap.size := by omega
 have HXC : Hid (∀ w', Below W.heap.size W w' → w'.cell? ⟨gc, 0, none⟩ = some (.slice xa pn xc) ∧ w'.cell? ⟨gc, 1, none⟩ = some (.slice ba bn bc) ∧ w'.cell? ⟨gc, 2, none⟩ = some (.slice sa sn sc) ∧ w'.cell? ⟨gc, 3, none⟩ = some (.slice oa on oc)) := fun w' hb => ⟨(hb.cell (p := ⟨gc, 0, none⟩) hgc).trans ((cell_of_row _ _ 0 _ _ (0, 0) d7).trans rfl), (hb.cell (p := ⟨gc, 1, none⟩) hgc).trans ((cell_of_row _ _ 1 _ _ (0, 0) d7).trans rfl), (hb.cell (p := ⟨gc, 2, none⟩) hgc).trans ((cell_of_row _ _ 2 _ _ (0, 0) d7).trans rfl), (hb.cell (p := ⟨gc, 3, none⟩) hgc).trans ((cell_of_row _ _ 3 _ _ (0, 0) d7).trans rfl)⟩
 have HXA : Hid (BoxAt W ga SA A) := ⟨by omega, (cell_of_row _ _ 0 _ _ (0, 0) d5).trans rfl, (cell_of_row _ _ 1 _ _ (0, 0) d5).trans rfl, (cell_of_row _ _ 2 _ _ (0, 0) d5).trans rfl, (cell_of_row _ _ 3 _ _ (0, 0) d5).trans rfl⟩
 have HXB : Hid (BoxAt W gb SB B) := ⟨by omega, (cell_of_row _ _ 0 _ _ (0, 0) d6).trans rfl, (cell_of_row _ _ 1 _ _ (0, 0) d6).trans rfl, (cell_of_row _ _ 2 _ _ (0, 0) d6).trans rfl, (cell_of_row _ _ 3 _ _ (0, 0) d6).trans rfl⟩
 have HBW0 : Hid (Below w0.heap.size w0 W) := B1.trans ((B2.trans (B3.mono (by omega))).mono (by omega))
 rw [← h7, ← h6, ← h5]
 have hws : w0.heap.size ≤ W.heap.size := HBW0.out.size
 clear b1 b2 b3 B1 B2 B3 s1 s2 s3 h5 h6 h7 d5 d6 d7 ho1 ho2 ho3
 have x0 := (HXA.out.to HXA.out.lt (Below.refl _ _)).c0
 have x1 := (HXA.out.to HXA.out.lt (Below.refl _ _)).c1
 have x2 := (HXA.out.to HXA.out.lt (Below.refl _ _)).c2
 have x3 := (HXA.out.to HXA.out.lt (Below.refl _ _)).c3
 have z0 := (HXB.out.to HXB.out.lt (Below.refl _ _)).c0
 have z1 := (HXB.out.to HXB.out.lt (Below.refl _ _)).c1
 have z2 := (HXB.out.to HXB.out.lt (Below.refl _ _)).c2
 have z3 := (HXB.out.to HXB.out.lt (Below.refl _ _)).c3
 go_wp2_with fail
 go_at_call 23
 refine (AC.out _ HBW0.out).mono ?_
 rintro e w3 ⟨rfl, hb3⟩
 have HQ3 := hidden hb3
 have HBW3 : Hid (Below w0.heap.size w0 w3) := HBW0.out.trans (hb3.mono hws)
 clear hb3 AC
 clear x0 x1 x2 x3 z0 z1 z2 z3
 have K1 : Hid (∀ w', Below W.heap.size W w' → (fun w' => w'.cell? ⟨ga, 0, none⟩ = some (.int .i64 A.ins) ∧ w'.cell? ⟨ga, 1, none⟩ = some (.slice SA.a1 A.lats.length SA.c1) ∧ w'.cell? ⟨ga, 2, none⟩ = some (.slice SA.a2 A.ands.length SA.c2) ∧ w'.cell? ⟨ga, 3, none⟩ = some (.slice SA.a3 A.outs.length SA.c3) ∧ w'.cell? ⟨gb, 0, none⟩ = some (.int .i64 B.ins) ∧ w'.cell? ⟨gb, 1, none⟩ = some (.slice SB.a1 B.lats.length SB.c1) ∧ w'.cell? ⟨gb, 2, none⟩ = some (.slice SB.a2 B.ands.length SB.c2) ∧ w'.cell? ⟨gb, 3, none⟩ = some (.slice SB.a3 B.outs.length SB.c3) ∧ w'.cell? ⟨gc, 0, none⟩ = some (.slice xa pn xc) ∧ w'.cell? ⟨gc, 1, none⟩ = some (.slice ba bn bc) ∧ w'.cell? ⟨gc, 2, none⟩ = some (.slice sa sn sc) ∧ w'.cell? ⟨gc, 3, none⟩ = some (.slice oa on oc)) w') := fun w' hb => by
  have ha := HXA.out.to HXA.out.lt hb
  have hb' := HXB.out.to HXB.out.lt hb
  have hc := HXC.out w' hb
  exact ⟨ha.c0, ha.c1, ha.c2, ha.c3, hb'.c0, hb'.c1, hb'.c2, hb'.c3, hc.1, hc.2.1, hc.2.2.1, hc.2.2.2⟩
 go_upto_region 4 with fail
 refine wp_region_noPanic ?_
 refine wp_region_held_drew (S := (fun w' => w'.cell? ⟨ga, 0, none⟩ = some (.int .i64 A.ins) ∧ w'.cell? ⟨ga, 1, none⟩ = some (.slice SA.a1 A.lats.length SA.c1) ∧ w'.cell? ⟨ga, 2, none⟩ = some (.slice SA.a2 A.ands.length SA.c2) ∧ w'.cell? ⟨ga, 3, none⟩ = some (.slice SA.a3 A.outs.length SA.c3) ∧ w'.cell? ⟨gb, 0, none⟩ = some (.int .i64 B.ins) ∧ w'.cell? ⟨gb, 1, none⟩ = some (.slice SB.a1 B.lats.length SB.c1) ∧ w'.cell? ⟨gb, 2, none⟩ = some (.slice SB.a2 B.ands.length SB.c2) ∧ w'.cell? ⟨gb, 3, none⟩ = some (.slice SB.a3 B.outs.length SB.c3) ∧ w'.cell? ⟨gc, 0, none⟩ = some (.slice xa pn xc) ∧ w'.cell? ⟨gc, 1, none⟩ = some (.slice ba bn bc) ∧ w'.cell? ⟨gc, 2, none⟩ = some (.slice sa sn sc) ∧ w'.cell? ⟨gc, 3, none⟩ = some (.slice oa on oc))) (by kernel_rfl) (by first | assumption | exact K1.out _ (Below.drew HQ3.out) | exact K1.out _ (by assumption)) (fun hHeld => ?_)
 refine tk 0 ?_
 refine tk 1 ?_
 refine tk 3 ?_
 refine tk 4 ?_
 refine wpAnyH_ready (rs := [2]) (by kernel_rfl) (by simp) ?_
 refine AllReadyH.cons (o := _) rfl (fun K hK => ?_) AllReadyH.nil
 (try simp only [gA, gB, gC])
 go_simp
 go_at_call 26
 refine (JC.out _ (Below.drew HBW3.out)).mono ?_
 rintro e v1 ⟨T, he, -, hbv1⟩
 unfold GrS.cells at he
 subst he
 have hb1 : Below W.heap.size W v1 := (Below.drew HQ3.out).trans (hbv1.mono (Below.drew HQ3.out).size)
 clear hbv1
 go_wp2_with fail
 refine hK.out _ _ (by first | assumption | exact K1.out _ (Below.drew HQ3.out) | exact K1.out _ (by assumption)) (fun hHeld1 => ?_)
 clear hK K
 try simp only [Act.put, sA, sB, sC]
 refine wpAnyH_ready (rs := [5]) (by kernel_rfl) (by simp) ?_
 refine AllReadyH.cons (o := _) rfl (fun K hK => ?_) AllReadyH.nil
 (try simp only [gA, gB, gC])
 go_simp
 go_at_call 27
 refine (PC.out _ T (HBW0.out.trans (hb1.mono hws))).mono ?_
 rintro e v2 ⟨rfl, hbv2⟩
 have hb2 : Below W.heap.size W v2 := hb1.trans (hbv2.mono hb1.size)
 clear hbv2
 go_wp2_with fail
 refine hK.out _ _ (by first | assumption | exact K1.out _ (Below.drew HQ3.out) | exact K1.out _ (by assumption)) (fun hHeld2 => ?_)
 clear hK K
 try simp only [Act.put, sA, sB, sC]
 refine tk 6 ?_
 refine wpAnyH_done (by kernel_rfl) ?_ _
 refine NoPanic.normal ?_
 have HQ4 := hidden hb2
 clear hb1 hb2 JC PC HQ3 HBW3
 cases hok : pairsOk G.vars prs
 ·have HNO' := hidden (HYE.out hok)
  clear DC0 HIF HYE
  go_wp2
  go_ret
  exact HPO.out false _ ⟨fun h => (by cases h), fun h => absurd h HNO'.out⟩ (HBW0.out.trans (HQ4.out.mono hws))
 have DC := hidden (DC0.out hok)
 have HIF' := hidden (fun bx bY bz => HIF.out bx bY bz hok)
 clear DC0 HIF HYE hok
 go_upto_region 7 with fail
 refine wp_region_noPanic ?_
 refine wp_region_held_drew (S := (fun w' => w'.cell? ⟨ga, 0, none⟩ = some (.int .i64 A.ins) ∧ w'.cell? ⟨ga, 1, none⟩ = some (.slice SA.a1 A.lats.length SA.c1) ∧ w'.cell? ⟨ga, 2, none⟩ = some (.slice SA.a2 A.ands.length SA.c2) ∧ w'.cell? ⟨ga, 3, none⟩ = some (.slice SA.a3 A.outs.length SA.c3) ∧ w'.cell? ⟨gb, 0, none⟩ = some (.int .i64 B.ins) ∧ w'.cell? ⟨gb, 1, none⟩ = some (.slice SB.a1 B.lats.length SB.c1) ∧ w'.cell? ⟨gb, 2, none⟩ = some (.slice SB.a2 B.ands.length SB.c2) ∧ w'.cell? ⟨gb, 3, none⟩ = some (.slice SB.a3 B.outs.length SB.c3) ∧ w'.cell? ⟨gc, 0, none⟩ = some (.slice xa pn xc) ∧ w'.cell? ⟨gc, 1, none⟩ = some (.slice ba bn bc) ∧ w'.cell? ⟨gc, 2, none⟩ = some (.slice sa sn sc) ∧ w'.cell? ⟨gc, 3, none⟩ = some (.slice oa on oc))) (by kernel_rfl) (by first | assumption | exact K1.out _ (Below.drew HQ4.out) | exact K1.out _ (by assumption)) (fun hHeld => ?_)
 refine tk 0 ?_
 refine tk 1 ?_
 refine tk 2 ?_
 refine tk 3 ?_
 refine tk 5 ?_
 refine tk 6 ?_
 refine wpAnyH_ready (rs := [4]) (by kernel_rfl) (by simp) ?_
 refine AllReadyH.cons (o := _) rfl (fun K hK => ?_) AllReadyH.nil
 (try simp only [gA, gB, gC])
 go_simp
 go_at_call 29
 refine (DC.out _ (HBW0.out.trans ((Below.drew HQ4.out).mono hws)) 0 (by omega)).mono ?_
 rintro e v1 ⟨fa, fc, fcl, rfl, hfc, hfr, hfe, hbv1⟩
 have hb1 : Below W.heap.size W v1 := (Below.drew HQ4.out).trans (hbv1.mono (Below.drew HQ4.out).size)
 obtain ⟨hca, hct⟩ := fm_clAt hfc hfr hfe (HTT.out 0)
 have REF : Hid (Calls Try.prog 8 #[.agg #[.int .i64 (formV G prs 0), .slice fa fcl.length fc], .slice ba bn bc] v1 fun e w' => RefPost v1 (formV G prs 0) (formF G prs 0) (bcl.map CL.l) e w') := by
  have := refuted_any v1.heap.size v1 fa fc (formV G prs 0) fcl hca (Nat.le_refl _) ba bc bcl ((HBCL.out _ (HBW0.out.trans (hb1.mono hws))).mono (Nat.le_trans hB0 (HBW0.out.trans (hb1.mono hws)).size)) (by have := HLT.out; omega)
  rw [hfc] at this
  rw [HBN.out]
  exact this
 clear hbv1 hca hct hfc hfr hfe
 go_wp2_with fail
 refine hK.out _ _ (by first | assumption | exact K1.out _ (Below.drew HQ4.out) | exact K1.out _ (by assumption)) (fun hHeld1 => ?_)
 clear hK K
 try simp only [Act.put, sA, sB, sC]
 refine wpAnyH_ready (rs := [7]) (by kernel_rfl) (by simp) ?_
 refine AllReadyH.cons (o := _) rfl (fun K hK => ?_) AllReadyH.nil
 (try simp only [gA, gB, gC])
 go_simp
 go_at_call 8
 refine REF.out.mono ?_
 rintro e v2 ⟨bx, rfl, hibx, hbv2⟩
 have Hbx := hidden hibx
 have hb2 : Below W.heap.size W v2 := hb1.trans (hbv2.mono hb1.size)
 clear hbv2 REF hibx
 go_wp2_with fail
 refine hK.out _ _ (by first | assumption | exact K1.out _ (Below.drew HQ4.out) | exact K1.out _ (by assumption)) (fun hHeld2 => ?_)
 clear hK K
 try simp only [Act.put, sA, sB, sC]
 refine tk 8 ?_
 refine wpAnyH_done (by kernel_rfl) ?_ _
 refine NoPanic.normal ?_
 have HQ5 := hidden hb2
 clear hb1 hb2 HQ4
 go_upto_region 8 with fail
 refine wp_region_noPanic ?_
 refine wp_region_held_drew (S := (fun w' => w'.cell? ⟨ga, 0, none⟩ = some (.int .i64 A.ins) ∧ w'.cell? ⟨ga, 1, none⟩ = some (.slice SA.a1 A.lats.length SA.c1) ∧ w'.cell? ⟨ga, 2, none⟩ = some (.slice SA.a2 A.ands.length SA.c2) ∧ w'.cell? ⟨ga, 3, none⟩ = some (.slice SA.a3 A.outs.length SA.c3) ∧ w'.cell? ⟨gb, 0, none⟩ = some (.int .i64 B.ins) ∧ w'.cell? ⟨gb, 1, none⟩ = some (.slice SB.a1 B.lats.length SB.c1) ∧ w'.cell? ⟨gb, 2, none⟩ = some (.slice SB.a2 B.ands.length SB.c2) ∧ w'.cell? ⟨gb, 3, none⟩ = some (.slice SB.a3 B.outs.length SB.c3) ∧ w'.cell? ⟨gc, 0, none⟩ = some (.slice xa pn xc) ∧ w'.cell? ⟨gc, 1, none⟩ = some (.slice ba bn bc) ∧ w'.cell? ⟨gc, 2, none⟩ = some (.slice sa sn sc) ∧ w'.cell? ⟨gc, 3, none⟩ = some (.slice oa on oc))) (by kernel_rfl) (by first | assumption | exact K1.out _ (Below.drew HQ5.out) | exact K1.out _ (by assumption)) (fun hHeld => ?_)
 refine tk 0 ?_
 refine tk 1 ?_
 refine tk 2 ?_
 refine tk 3 ?_
 refine tk 5 ?_
 refine tk 6 ?_
 refine wpAnyH_ready (rs := [4]) (by kernel_rfl) (by simp) ?_
 refine AllReadyH.cons (o := _) rfl (fun K hK => ?_) AllReadyH.nil
 (try simp only [gA, gB, gC])
 go_simp
 go_at_call 29
 refine (DC.out _ (HBW0.out.trans ((Below.drew HQ5.out).mono hws)) 1 (by omega)).mono ?_
 rintro e v1 ⟨fa, fc, fcl, rfl, hfc, hfr, hfe, hbv1⟩
 have hb1 : Below W.heap.size W v1 := (Below.drew HQ5.out).trans (hbv1.mono (Below.drew HQ5.out).size)
 obtain ⟨hca, hct⟩ := fm_clAt hfc hfr hfe (HTT.out 1)
 have REF : Hid (Calls Try.prog 8 #[.agg #[.int .i64 (formV G prs 1), .slice fa fcl.length fc], .slice sa sn sc] v1 fun e w' => RefPost v1 (formV G prs 1) (formF G prs 1) (scl.map CL.l) e w') := by
  have := refuted_any v1.heap.size v1 fa fc (formV G prs 1) fcl hca (Nat.le_refl _) sa sc scl ((HSCL.out _ (HBW0.out.trans (hb1.mono hws))).mono (Nat.le_trans hB0 (HBW0.out.trans (hb1.mono hws)).size)) (by have := HLT.out; omega)
  rw [hfc] at this
  rw [HSN.out]
  exact this
 clear hbv1 hca hct hfc hfr hfe
 go_wp2_with fail
 refine hK.out _ _ (by first | assumption | exact K1.out _ (Below.drew HQ5.out) | exact K1.out _ (by assumption)) (fun hHeld1 => ?_)
 clear hK K
 try simp only [Act.put, sA, sB, sC]
 refine wpAnyH_ready (rs := [7]) (by kernel_rfl) (by simp) ?_
 refine AllReadyH.cons (o := _) rfl (fun K hK => ?_) AllReadyH.nil
 (try simp only [gA, gB, gC])
 go_simp
 go_at_call 8
 refine REF.out.mono ?_
 rintro e v2 ⟨bY, rfl, hibY, hbv2⟩
 have HbY := hidden hibY
 have hb2 : Below W.heap.size W v2 := hb1.trans (hbv2.mono hb1.size)
 clear hbv2 REF hibY
 go_wp2_with fail
 refine hK.out _ _ (by first | assumption | exact K1.out _ (Below.drew HQ5.out) | exact K1.out _ (by assumption)) (fun hHeld2 => ?_)
 clear hK K
 try simp only [Act.put, sA, sB, sC]
 refine tk 8 ?_
 refine wpAnyH_done (by kernel_rfl) ?_ _
 refine NoPanic.normal ?_
 have HQ6 := hidden hb2
 clear hb1 hb2 HQ5
 go_upto_region 9 with fail
 refine wp_region_noPanic ?_
 refine wp_region_held_drew (S := (fun w' => w'.cell? ⟨ga, 0, none⟩ = some (.int .i64 A.ins) ∧ w'.cell? ⟨ga, 1, none⟩ = some (.slice SA.a1 A.lats.length SA.c1) ∧ w'.cell? ⟨ga, 2, none⟩ = some (.slice SA.a2 A.ands.length SA.c2) ∧ w'.cell? ⟨ga, 3, none⟩ = some (.slice SA.a3 A.outs.length SA.c3) ∧ w'.cell? ⟨gb, 0, none⟩ = some (.int .i64 B.ins) ∧ w'.cell? ⟨gb, 1, none⟩ = some (.slice SB.a1 B.lats.length SB.c1) ∧ w'.cell? ⟨gb, 2, none⟩ = some (.slice SB.a2 B.ands.length SB.c2) ∧ w'.cell? ⟨gb, 3, none⟩ = some (.slice SB.a3 B.outs.length SB.c3) ∧ w'.cell? ⟨gc, 0, none⟩ = some (.slice xa pn xc) ∧ w'.cell? ⟨gc, 1, none⟩ = some (.slice ba bn bc) ∧ w'.cell? ⟨gc, 2, none⟩ = some (.slice sa sn sc) ∧ w'.cell? ⟨gc, 3, none⟩ = some (.slice oa on oc))) (by kernel_rfl) (by first | assumption | exact K1.out _ (Below.drew HQ6.out) | exact K1.out _ (by assumption)) (fun hHeld => ?_)
 refine tk 0 ?_
 refine tk 1 ?_
 refine tk 2 ?_
 refine tk 3 ?_
 refine tk 5 ?_
 refine tk 6 ?_
 refine wpAnyH_ready (rs := [4]) (by kernel_rfl) (by simp) ?_
 refine AllReadyH.cons (o := _) rfl (fun K hK => ?_) AllReadyH.nil
 (try simp only [gA, gB, gC])
 go_simp
 go_at_call 29
 refine (DC.out _ (HBW0.out.trans ((Below.drew HQ6.out).mono hws)) 2 (by omega)).mono ?_
 rintro e v1 ⟨fa, fc, fcl, rfl, hfc, hfr, hfe, hbv1⟩
 have hb1 : Below W.heap.size W v1 := (Below.drew HQ6.out).trans (hbv1.mono (Below.drew HQ6.out).size)
 obtain ⟨hca, hct⟩ := fm_clAt hfc hfr hfe (HTT.out 2)
 have REF : Hid (Calls Try.prog 8 #[.agg #[.int .i64 (formV G prs 2), .slice fa fcl.length fc], .slice oa on oc] v1 fun e w' => RefPost v1 (formV G prs 2) (formF G prs 2) (ocl.map CL.l) e w') := by
  have := refuted_any v1.heap.size v1 fa fc (formV G prs 2) fcl hca (Nat.le_refl _) oa oc ocl ((HOCL.out _ (HBW0.out.trans (hb1.mono hws))).mono (Nat.le_trans hB0 (HBW0.out.trans (hb1.mono hws)).size)) (by have := HLT.out; omega)
  rw [hfc] at this
  rw [HON.out]
  exact this
 clear hbv1 hca hct hfc hfr hfe
 go_wp2_with fail
 refine hK.out _ _ (by first | assumption | exact K1.out _ (Below.drew HQ6.out) | exact K1.out _ (by assumption)) (fun hHeld1 => ?_)
 clear hK K
 try simp only [Act.put, sA, sB, sC]
 refine wpAnyH_ready (rs := [7]) (by kernel_rfl) (by simp) ?_
 refine AllReadyH.cons (o := _) rfl (fun K hK => ?_) AllReadyH.nil
 (try simp only [gA, gB, gC])
 go_simp
 go_at_call 8
 refine REF.out.mono ?_
 rintro e v2 ⟨bz, rfl, hibz, hbv2⟩
 have Hbz := hidden hibz
 have hb2 : Below W.heap.size W v2 := hb1.trans (hbv2.mono hb1.size)
 clear hbv2 REF hibz
 go_wp2_with fail
 refine hK.out _ _ (by first | assumption | exact K1.out _ (Below.drew HQ6.out) | exact K1.out _ (by assumption)) (fun hHeld2 => ?_)
 clear hK K
 try simp only [Act.put, sA, sB, sC]
 refine tk 8 ?_
 refine wpAnyH_done (by kernel_rfl) ?_ _
 refine NoPanic.normal ?_
 have HQ7 := hidden hb2
 clear hb1 hb2 HQ6 K1 DC
 have HRES := hidden (HIF'.out bx bY bz Hbx.out HbY.out Hbz.out)
 clear HIF' Hbx HbY Hbz
 cases bx
 ·go_wp2
  go_ret
  exact HPO.out false _ HRES.out (HBW0.out.trans (HQ7.out.mono hws))
 ·cases bY
  ·go_wp2
   go_ret
   exact HPO.out false _ HRES.out (HBW0.out.trans (HQ7.out.mono hws))
  ·go_wp2
   go_ret
   exact HPO.out _ _ (by simpa using HRES.out) (HBW0.out.trans (HQ7.out.mono hws))
end Go.Proofs.Ytefjicdhccfieaa
