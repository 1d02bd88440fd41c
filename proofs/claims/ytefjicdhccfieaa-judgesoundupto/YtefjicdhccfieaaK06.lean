import Derived.Test.YtefjicdhccfieaaK01
import Derived.Test.YtefjicdhccfieaaK05
import Derived.Deep.RegionHeld3
import Derived.Deep.CutBlock
set_option maxRecDepth 100000
set_option maxHeartbeats 16000000
namespace Go.Proofs.Ytefjicdhccfieaa
open Go.RowKit
def AlikeG (A B : GrD) : Bool := GrOk A && GrOk B && decide (A.ins = B.ins) && decide ((A.outs.length : Int) = B.outs.length)
theorem areAlike_any (C : Nat) (w : World) (pa pb : Nat) (SA SB : GrS) (A B : GrD) (hXA : BoxAt w pa SA A) (hXB : BoxAt w pb SB B) (hA : GrAt C w SA A) (hB : GrAt C w SB B) (hC : C ≤ w.heap.size) :
  Calls Try.prog 31 #[.pointer (some ⟨pa, 0, none⟩), .pointer (some ⟨pb, 0, none⟩)] w fun e w' => e = .returned (.bool (AlikeG A B)) ∧ Below w.heap.size w w' := by
 have VA : Hid (∀ w', Below w.heap.size w w' → Calls Try.prog 59 #[.pointer (some ⟨pa, 0, none⟩)] w' fun e w'' => e = .returned (.bool (GrOk A)) ∧ Below w'.heap.size w' w'') := fun w' hb => isValid_any C w' pa SA A (hXA.to hXA.lt hb) (hA.to (hb.mono hC)) (Nat.le_trans hC hb.size)
 have VB : Hid (∀ w', Below w.heap.size w w' → Calls Try.prog 59 #[.pointer (some ⟨pb, 0, none⟩)] w' fun e w'' => e = .returned (.bool (GrOk B)) ∧ Below w'.heap.size w' w'') := fun w' hb => isValid_any C w' pb SB B (hXB.to hXB.lt hb) (hB.to (hb.mono hC)) (Nat.le_trans hC hb.size)
 have K1 : Hid (∀ w', Below w.heap.size w w' → (fun w' => w'.cell? ⟨pa, 0, none⟩ = some (.int .i64 A.ins) ∧ w'.cell? ⟨pb, 0, none⟩ = some (.int .i64 B.ins) ∧ w'.cell? ⟨pa, 3, none⟩ = some (.slice SA.a3 A.outs.length SA.c3) ∧ w'.cell? ⟨pb, 3, none⟩ = some (.slice SB.a3 B.outs.length SB.c3)) w') := fun w' hb => ⟨(hXA.to hXA.lt hb).c0, (hXB.to hXB.lt hb).c0, (hXA.to hXA.lt hb).c3, (hXB.to hXB.lt hb).c3⟩
 have HAL : Hid (AlikeG A B = (GrOk A && GrOk B && decide (A.ins = B.ins) && decide ((A.outs.length : Int) = B.outs.length))) := rfl
 generalize GrOk A = oa at *
 generalize GrOk B = ob at *
 clear hXA hXB hA hB
 go_enter Try.func31, Try.ntmps31
 go_upto_region 1 with fail
 cases oa
 ·have HF : Hid (AlikeG A B = false) := by show _ = _; rw [HAL.out]; rfl
  refine wp_region_noPanic ?_
  refine wp_region_held_drew (S := (fun w' => w'.cell? ⟨pa, 0, none⟩ = some (.int .i64 A.ins) ∧ w'.cell? ⟨pb, 0, none⟩ = some (.int .i64 B.ins) ∧ w'.cell? ⟨pa, 3, none⟩ = some (.slice SA.a3 A.outs.length SA.c3) ∧ w'.cell? ⟨pb, 3, none⟩ = some (.slice SB.a3 B.outs.length SB.c3))) (by kernel_rfl) (by first | assumption | exact K1.out _ (Below.refl _ _) | exact K1.out _ (Below.drew (Below.refl _ _)) | exact K1.out _ (by assumption)) (fun hHeld => ?_)
  refine tk 0 ?_
  refine wpAnyH_ready (rs := [1]) (by kernel_rfl) (by simp) ?_
  refine AllReadyH.cons (o := _) rfl (fun K hK => ?_) AllReadyH.nil
  (try simp only [gA, gB, gC])
  go_simp
  go_at_call 59
  refine (VA.out _ (Below.drew (Below.refl _ _))).mono ?_
  rintro e w1 ⟨rfl, hb1⟩
  replace hb1 : Below w.heap.size w w1 := (Below.drew (Below.refl w.heap.size w)).trans hb1
  go_wp2_with fail
  refine hK.out _ _ (by first | assumption | exact K1.out _ (Below.refl _ _) | exact K1.out _ (Below.drew (Below.refl _ _)) | exact K1.out _ (by assumption)) (fun hHeld1 => ?_)
  clear hK K
  try simp only [Act.put, sA, sB, sC]
  refine tk 2 ?_
  refine tu 3 ?_
  refine tu 4 ?_
  refine tk 5 ?_
  refine tk 6 ?_
  refine tu 7 ?_
  refine tu 8 ?_
  refine tu 9 ?_
  refine tu 10 ?_
  refine tu 11 ?_
  refine tu 12 ?_
  refine tu 13 ?_
  refine tu 14 ?_
  refine tu 15 ?_
  refine tk 16 ?_
  refine tk 17 ?_
  refine tu 18 ?_
  refine tu 19 ?_
  refine tu 20 ?_
  refine tu 21 ?_
  refine tu 22 ?_
  refine tu 23 ?_
  refine tu 24 ?_
  refine tu 25 ?_
  refine tu 26 ?_
  refine tu 27 ?_
  refine tu 28 ?_
  refine tk 29 ?_
  refine tk 30 ?_
  refine wpAnyH_done (by kernel_rfl) ?_ _
  refine NoPanic.normal ?_
  go_wp2
  go_ret
  exact ⟨ret_bool HF.out.symm, hb1⟩
 cases ob
 ·have HF : Hid (AlikeG A B = false) := by show _ = _; rw [HAL.out]; rfl
  refine wp_region_noPanic ?_
  refine wp_region_held_drew (S := (fun w' => w'.cell? ⟨pa, 0, none⟩ = some (.int .i64 A.ins) ∧ w'.cell? ⟨pb, 0, none⟩ = some (.int .i64 B.ins) ∧ w'.cell? ⟨pa, 3, none⟩ = some (.slice SA.a3 A.outs.length SA.c3) ∧ w'.cell? ⟨pb, 3, none⟩ = some (.slice SB.a3 B.outs.length SB.c3))) (by kernel_rfl) (by first | assumption | exact K1.out _ (Below.refl _ _) | exact K1.out _ (Below.drew (Below.refl _ _)) | exact K1.out _ (by assumption)) (fun hHeld => ?_)
  refine tk 0 ?_
  refine wpAnyH_ready (rs := [1]) (by kernel_rfl) (by simp) ?_
  refine AllReadyH.cons (o := _) rfl (fun K hK => ?_) AllReadyH.nil
  (try simp only [gA, gB, gC])
  go_simp
  go_at_call 59
  refine (VA.out _ (Below.drew (Below.refl _ _))).mono ?_
  rintro e w1 ⟨rfl, hb1⟩
  replace hb1 : Below w.heap.size w w1 := (Below.drew (Below.refl w.heap.size w)).trans hb1
  go_wp2_with fail
  refine hK.out _ _ (by first | assumption | exact K1.out _ (Below.refl _ _) | exact K1.out _ (Below.drew (Below.refl _ _)) | exact K1.out _ (by assumption)) (fun hHeld1 => ?_)
  clear hK K
  try simp only [Act.put, sA, sB, sC]
  refine tk 2 ?_
  refine tk 3 ?_
  refine wpAnyH_ready (rs := [4]) (by kernel_rfl) (by simp) ?_
  refine AllReadyH.cons (o := _) rfl (fun K hK => ?_) AllReadyH.nil
  (try simp only [gA, gB, gC])
  go_simp
  go_at_call 59
  refine (VB.out _ hb1).mono ?_
  rintro e w2 ⟨rfl, hb2⟩
  replace hb2 : Below w.heap.size w w2 := hb1.trans (hb2.mono hb1.size)
  go_wp2_with fail
  refine hK.out _ _ (by first | assumption | exact K1.out _ (Below.refl _ _) | exact K1.out _ (Below.drew (Below.refl _ _)) | exact K1.out _ (by assumption)) (fun hHeld2 => ?_)
  clear hK K
  try simp only [Act.put, sA, sB, sC]
  refine tk 5 ?_
  refine tk 6 ?_
  refine tu 7 ?_
  refine tu 8 ?_
  refine tu 9 ?_
  refine tu 10 ?_
  refine tu 11 ?_
  refine tu 12 ?_
  refine tu 13 ?_
  refine tu 14 ?_
  refine tu 15 ?_
  refine tk 16 ?_
  refine tk 17 ?_
  refine tu 18 ?_
  refine tu 19 ?_
  refine tu 20 ?_
  refine tu 21 ?_
  refine tu 22 ?_
  refine tu 23 ?_
  refine tu 24 ?_
  refine tu 25 ?_
  refine tu 26 ?_
  refine tu 27 ?_
  refine tu 28 ?_
  refine tk 29 ?_
  refine tk 30 ?_
  refine wpAnyH_done (by kernel_rfl) ?_ _
  refine NoPanic.normal ?_
  go_wp2
  go_ret
  exact ⟨ret_bool HF.out.symm, hb2⟩
 by_cases hi : A.ins = B.ins
 ·have hib : (A.ins == B.ins) = true := beq_iff_eq.2 hi
  have HF : Hid (AlikeG A B = ((A.outs.length : Int) == (B.outs.length : Int))) := by
   show _ = _
   rw [HAL.out, decide_eq_true hi]
   rw [Bool.eq_iff_iff]; simp
  clear hi
  refine wp_region_noPanic ?_
  refine wp_region_held_drew (S := (fun w' => w'.cell? ⟨pa, 0, none⟩ = some (.int .i64 A.ins) ∧ w'.cell? ⟨pb, 0, none⟩ = some (.int .i64 B.ins) ∧ w'.cell? ⟨pa, 3, none⟩ = some (.slice SA.a3 A.outs.length SA.c3) ∧ w'.cell? ⟨pb, 3, none⟩ = some (.slice SB.a3 B.outs.length SB.c3))) (by kernel_rfl) (by first | assumption | exact K1.out _ (Below.refl _ _) | exact K1.out _ (Below.drew (Below.refl _ _)) | exact K1.out _ (by assumption)) (fun hHeld => ?_)
  refine tk 0 ?_
  refine wpAnyH_ready (rs := [1]) (by kernel_rfl) (by simp) ?_
  refine AllReadyH.cons (o := _) rfl (fun K hK => ?_) AllReadyH.nil
  (try simp only [gA, gB, gC])
  go_simp
  go_at_call 59
  refine (VA.out _ (Below.drew (Below.refl _ _))).mono ?_
  rintro e w1 ⟨rfl, hb1⟩
  replace hb1 : Below w.heap.size w w1 := (Below.drew (Below.refl w.heap.size w)).trans hb1
  go_wp2_with fail
  refine hK.out _ _ (by first | assumption | exact K1.out _ (Below.refl _ _) | exact K1.out _ (Below.drew (Below.refl _ _)) | exact K1.out _ (by assumption)) (fun hHeld1 => ?_)
  clear hK K
  try simp only [Act.put, sA, sB, sC]
  refine tk 2 ?_
  refine tk 3 ?_
  refine wpAnyH_ready (rs := [4]) (by kernel_rfl) (by simp) ?_
  refine AllReadyH.cons (o := _) rfl (fun K hK => ?_) AllReadyH.nil
  (try simp only [gA, gB, gC])
  go_simp
  go_at_call 59
  refine (VB.out _ hb1).mono ?_
  rintro e w2 ⟨rfl, hb2⟩
  replace hb2 : Below w.heap.size w w2 := hb1.trans (hb2.mono hb1.size)
  go_wp2_with fail
  refine hK.out _ _ (by first | assumption | exact K1.out _ (Below.refl _ _) | exact K1.out _ (Below.drew (Below.refl _ _)) | exact K1.out _ (by assumption)) (fun hHeld2 => ?_)
  clear hK K
  try simp only [Act.put, sA, sB, sC]
  refine tk 5 ?_
  refine tk 6 ?_
  refine tk 7 ?_
  refine tk 8 ?_
  refine tk 9 ?_
  refine tk 10 ?_
  refine tk 11 ?_
  refine tk 12 ?_
  refine tk 13 ?_
  refine tk 14 ?_
  refine tk 15 ?_
  refine tk 16 ?_
  refine tk 17 ?_
  refine tk 18 ?_
  refine tk 19 ?_
  refine tk 20 ?_
  refine tk 21 ?_
  refine tk 22 ?_
  refine tk 23 ?_
  refine tk 24 ?_
  refine tk 25 ?_
  refine tk 26 ?_
  refine tk 27 ?_
  refine tk 28 ?_
  refine tk 29 ?_
  refine tk 30 ?_
  refine wpAnyH_done (by kernel_rfl) ?_ _
  refine NoPanic.normal ?_
  go_wp2
  go_ret
  exact ⟨ret_bool HF.out.symm, hb2⟩
 ·have hib : (A.ins == B.ins) = false := beq_eq_false_iff_ne.2 hi
  have HF : Hid (AlikeG A B = false) := by show _ = _; rw [HAL.out, decide_eq_false hi]; rfl
  clear hi
  refine wp_region_noPanic ?_
  refine wp_region_held_drew (S := (fun w' => w'.cell? ⟨pa, 0, none⟩ = some (.int .i64 A.ins) ∧ w'.cell? ⟨pb, 0, none⟩ = some (.int .i64 B.ins) ∧ w'.cell? ⟨pa, 3, none⟩ = some (.slice SA.a3 A.outs.length SA.c3) ∧ w'.cell? ⟨pb, 3, none⟩ = some (.slice SB.a3 B.outs.length SB.c3))) (by kernel_rfl) (by first | assumption | exact K1.out _ (Below.refl _ _) | exact K1.out _ (Below.drew (Below.refl _ _)) | exact K1.out _ (by assumption)) (fun hHeld => ?_)
  refine tk 0 ?_
  refine wpAnyH_ready (rs := [1]) (by kernel_rfl) (by simp) ?_
  refine AllReadyH.cons (o := _) rfl (fun K hK => ?_) AllReadyH.nil
  (try simp only [gA, gB, gC])
  go_simp
  go_at_call 59
  refine (VA.out _ (Below.drew (Below.refl _ _))).mono ?_
  rintro e w1 ⟨rfl, hb1⟩
  replace hb1 : Below w.heap.size w w1 := (Below.drew (Below.refl w.heap.size w)).trans hb1
  go_wp2_with fail
  refine hK.out _ _ (by first | assumption | exact K1.out _ (Below.refl _ _) | exact K1.out _ (Below.drew (Below.refl _ _)) | exact K1.out _ (by assumption)) (fun hHeld1 => ?_)
  clear hK K
  try simp only [Act.put, sA, sB, sC]
  refine tk 2 ?_
  refine tk 3 ?_
  refine wpAnyH_ready (rs := [4]) (by kernel_rfl) (by simp) ?_
  refine AllReadyH.cons (o := _) rfl (fun K hK => ?_) AllReadyH.nil
  (try simp only [gA, gB, gC])
  go_simp
  go_at_call 59
  refine (VB.out _ hb1).mono ?_
  rintro e w2 ⟨rfl, hb2⟩
  replace hb2 : Below w.heap.size w w2 := hb1.trans (hb2.mono hb1.size)
  go_wp2_with fail
  refine hK.out _ _ (by first | assumption | exact K1.out _ (Below.refl _ _) | exact K1.out _ (Below.drew (Below.refl _ _)) | exact K1.out _ (by assumption)) (fun hHeld2 => ?_)
  clear hK K
  try simp only [Act.put, sA, sB, sC]
  refine tk 5 ?_
  refine tk 6 ?_
  refine tk 7 ?_
  refine tk 8 ?_
  refine tk 9 ?_
  refine tk 10 ?_
  refine tk 11 ?_
  refine tk 12 ?_
  refine tk 13 ?_
  refine tk 14 ?_
  refine tk 15 ?_
  refine tk 16 ?_
  refine tk 17 ?_
  refine tu 18 ?_
  refine tu 19 ?_
  refine tu 20 ?_
  refine tu 21 ?_
  refine tu 22 ?_
  refine tu 23 ?_
  refine tu 24 ?_
  refine tu 25 ?_
  refine tu 26 ?_
  refine tu 27 ?_
  refine tu 28 ?_
  refine tk 29 ?_
  refine tk 30 ?_
  refine wpAnyH_done (by kernel_rfl) ?_ _
  refine NoPanic.normal ?_
  go_wp2
  go_ret
  exact ⟨ret_bool HF.out.symm, hb2⟩
end Go.Proofs.Ytefjicdhccfieaa
