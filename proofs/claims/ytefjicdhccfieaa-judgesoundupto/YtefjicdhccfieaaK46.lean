import Derived.Test.YtefjicdhccfieaaK01
import Derived.Test.YtefjicdhccfieaaK21
import Derived.Test.YtefjicdhccfieaaK45
set_option maxRecDepth 100000
set_option maxHeartbeats 16000000
namespace Go.Proofs.Ytefjicdhccfieaa
open Go.RowKit
def HoldsG (A B : GrD) (prs : List AndD) (bs ss os : List (List Int)) : Prop := AlikeG A B = true ∧ pairsOk (joinG A B).vars prs = true ∧ RefP (formV (joinG A B) prs 0) (formF (joinG A B) prs 0) bs ∧ RefP (formV (joinG A B) prs 1) (formF (joinG A B) prs 1) ss ∧ RefP (formV (joinG A B) prs 2) (formF (joinG A B) prs 2) os
def HldP (w : World) (A B : GrD) (prs : List AndD) (bs ss os : List (List Int)) (e : Ending) (w' : World) : Prop := ∃ b, e = .returned (.bool b) ∧ (b = true ↔ HoldsG A B prs bs ss os) ∧ Below w.heap.size w w'
theorem holds_any (B0 : Nat) (w : World) (SA SB : GrS) (A B : GrD) (hA : GrAt B0 w SA A) (hB : GrAt B0 w SB B) (hB0 : B0 ≤ w.heap.size) (xa : Option Addr) (xc : Nat) (prs : List AndD) (R : RowAt B0 w xa 2 (prs.map AndD.cells)) (hpn : prs.length ≤ 400000) (ba : Option Addr) (bc : Nat) (bcl : List CL) (hbc : ClAt B0 w ba bcl) (hbt : total bcl ≤ 1048576) (sa : Option Addr) (sc : Nat) (scl : List CL) (hsc : ClAt B0 w sa scl) (hst : total scl ≤ 1048576) (oa : Option Addr) (oc : Nat) (ocl : List CL) (hoc : ClAt B0 w oa ocl) (hot : total ocl ≤ 1048576) :
  Calls Try.prog 11 #[.agg (SA.cells A), .agg (SB.cells B), .agg #[.slice xa prs.length xc, .slice ba bcl.length bc, .slice sa scl.length sc, .slice oa ocl.length oc]] w fun e w' => HldP w A B prs (bcl.map CL.l) (scl.map CL.l) (ocl.map CL.l) e w' := by
 have HA := hidden hA
 have HB := hidden hB
 have HR := hidden R
 have HBC := hidden hbc
 have HBT := hidden hbt
 have HSC := hidden hsc
 have HST := hidden hst
 have HOC := hidden hoc
 have HOT := hidden hot
 clear hA hB R hbc hbt hsc hst hoc hot
 unfold GrS.cells
 go_enter Try.func11, Try.ntmps11
 go_upto_region 1 with fail
 obtain ⟨o1, ho1⟩ : ∃ o, o = Obj.cells #[.int .i64 A.ins, .slice SA.a1 A.lats.length SA.c1, .slice SA.a2 A.ands.length SA.c2, .slice SA.a3 A.outs.length SA.c3] 30 (0, 0) := ⟨_, rfl⟩
 obtain ⟨o2, ho2⟩ : ∃ o, o = Obj.cells #[.int .i64 B.ins, .slice SB.a1 B.lats.length SB.c1, .slice SB.a2 B.ands.length SB.c2, .slice SB.a3 B.outs.length SB.c3] 30 (0, 0) := ⟨_, rfl⟩
 obtain ⟨o3, ho3⟩ : ∃ o, o = Obj.cells #[.slice xa prs.length xc, .slice ba bcl.length bc, .slice sa scl.length sc, .slice oa ocl.length oc] 35 (0, 0) := ⟨_, rfl⟩
 rw [← ho1, ← ho2, ← ho3]
 have s1 : (w.alloc o1).heap.size = w.heap.size + 1 := by simp
 have b1 := heap_new w o1
 have B1 : Below w.heap.size w (w.alloc o1) := (Below.refl _ _).alloc (Nat.le_refl _) _
 generalize w.alloc o1 = w1 at *
 have s2 : (w1.alloc o2).heap.size = w1.heap.size + 1 := by simp
 have b2 := heap_new w1 o2
 have B2 : Below w1.heap.size w1 (w1.alloc o2) := (Below.refl _ _).alloc (Nat.le_refl _) _
 generalize w1.alloc o2 = w2 at *
 have s3 : (w2.alloc o3).heap.size = w2.heap.size + 1 := by simp
 have b3 := heap_new w2 o3
 have B3 : Below w2.heap.size w2 (w2.alloc o3) := (Below.refl _ _).alloc (Nat.le_refl _) _
 generalize w2.alloc o3 = W at *
 obtain ⟨pa, h5⟩ : ∃ x, x = w.heap.size := ⟨_, rfl⟩
 obtain ⟨pb, h6⟩ : ∃ x, x = w.heap.size + 1 := ⟨_, rfl⟩
 obtain ⟨pc, h7⟩ : ∃ x, x = w.heap.size + 1 + 1 := ⟨_, rfl⟩
 have d5 : W.heap[pa]? = some o1 := (B3.block pa (by omega)).trans ((B2.block pa (by omega)).trans (by rw [h5]; exact b1))
 have d6 : W.heap[pb]? = some o2 := (B3.block pb (by omega)).trans (by rw [h6, ← s1]; exact b2)
 have d7 : W.heap[pc]? = some o3 := by rw [h7, ← s1, ← s2]; exact b3
 rw [ho1] at d5
 rw [ho2] at d6
 rw [ho3] at d7
 have HXA : Hid (BoxAt W pa SA A) := ⟨by omega, (cell_of_row _ _ 0 _ _ (0, 0) d5).trans rfl, (cell_of_row _ _ 1 _ _ (0, 0) d5).trans rfl, (cell_of_row _ _ 2 _ _ (0, 0) d5).trans rfl, (cell_of_row _ _ 3 _ _ (0, 0) d5).trans rfl⟩
 have HXB : Hid (BoxAt W pb SB B) := ⟨by omega, (cell_of_row _ _ 0 _ _ (0, 0) d6).trans rfl, (cell_of_row _ _ 1 _ _ (0, 0) d6).trans rfl, (cell_of_row _ _ 2 _ _ (0, 0) d6).trans rfl, (cell_of_row _ _ 3 _ _ (0, 0) d6).trans rfl⟩
 have HWC : Hid (∀ w', Below W.heap.size W w' → (fun w' => w'.cell? ⟨pc, 0, none⟩ = some (.slice xa prs.length xc) ∧ w'.cell? ⟨pc, 1, none⟩ = some (.slice ba bcl.length bc) ∧ w'.cell? ⟨pc, 2, none⟩ = some (.slice sa scl.length sc) ∧ w'.cell? ⟨pc, 3, none⟩ = some (.slice oa ocl.length oc)) w') := fun w' hb => by
  have d8 := (hb.block pc (by omega)).trans d7
  exact ⟨(cell_of_row _ _ 0 _ _ (0, 0) d8).trans rfl, (cell_of_row _ _ 1 _ _ (0, 0) d8).trans rfl, (cell_of_row _ _ 2 _ _ (0, 0) d8).trans rfl, (cell_of_row _ _ 3 _ _ (0, 0) d8).trans rfl⟩
 have HBW0 : Hid (Below w.heap.size w W) := B1.trans ((B2.trans (B3.mono (by omega))).mono (by omega))
 rw [← h7, ← h6, ← h5]
 have hws : w.heap.size ≤ W.heap.size := HBW0.out.size
 clear b1 b2 b3 B1 B2 B3 s1 s2 s3 h5 h6 h7 d5 d6 d7 ho1 ho2 ho3
 have AA := hidden (areAlike_any B0 W pa pb SA SB A B HXA.out HXB.out (HA.out.to (HBW0.out.mono hB0)) (HB.out.to (HBW0.out.mono hB0)) (Nat.le_trans hB0 hws))
 obtain ⟨al, HAL⟩ : ∃ b, Hid (AlikeG A B = b) := ⟨_, rfl⟩
 rw [HAL.out] at AA
 go_wp2_with fail
 go_at_call 31
 refine AA.out.mono ?_
 rintro e w3 ⟨rfl, hb3⟩
 have HB3 := hidden hb3
 clear hb3 AA
 cases al
 ·have HNO : Hid (¬ HoldsG A B prs (bcl.map CL.l) (scl.map CL.l) (ocl.map CL.l)) := fun hh => by have := hh.1; rw [HAL.out] at this; cases this
  have HBF : Hid (Below w.heap.size w w3) := HBW0.out.trans (HB3.out.mono hws)
  go_wp2
  go_ret
  exact ⟨false, rfl, ⟨fun h => (by cases h), fun h => absurd h HNO.out⟩, HBF.out⟩
 obtain ⟨okA', okB', -, -⟩ := alike_ok HAL.out
 have okA := okB_of okA'
 have okB := okB_of okB'
 have HJB := hidden (join_bounds okA okB)
 have JC := hidden (joined_any B0 w3 pa pb SA SB A B (HXA.out.to HXA.out.lt HB3.out) (HXB.out.to HXB.out.lt HB3.out) ((HA.out.to (HBW0.out.mono hB0)).to (HB3.out.mono (Nat.le_trans hB0 hws))) ((HB.out.to (HBW0.out.mono hB0)).to (HB3.out.mono (Nat.le_trans hB0 hws))) (Nat.le_trans hB0 (Nat.le_trans hws HB3.out.size)) okA okB)
 clear okA okB okA' okB'
 go_wp2_with fail
 go_at_call 32
 refine JC.out.mono ?_
 rintro e w4 ⟨Tj, rfl, hat4, hb4⟩
 have HAT4 := hidden hat4
 have HB4 : Hid (Below W.heap.size W w4) := HB3.out.trans (hb4.mono HB3.out.size)
 clear hat4 hb4 JC
 obtain ⟨G, HG⟩ : ∃ G, Hid (G = joinG A B) := ⟨_, rfl⟩
 rw [← HG.out] at HAT4 HJB ⊢
 unfold GrS.cells
 go_upto_region 4 with fail
 generalize hW5 : World.alloc w4 _ = w5
 obtain ⟨gp, hgp⟩ : ∃ x, x = w4.heap.size := ⟨_, rfl⟩
 have HB5 : Hid (Below w4.heap.size w4 w5) := by rw [← hW5]; exact (Below.refl _ _).alloc (Nat.le_refl _) _
 have d5 : w5.heap[gp]? = some (.cells #[.int .i64 G.ins, .slice Tj.a1 G.lats.length Tj.c1, .slice Tj.a2 G.ands.length Tj.c2, .slice Tj.a3 G.outs.length Tj.c3] 30 (0, 0)) := by rw [← hW5, hgp]; exact heap_new _ _
 have hgl : gp < w5.heap.size := (Array.getElem?_eq_some_iff.1 d5).1
 have HJ5 : Hid (JG w5.heap.size w5 gp Tj G) := ⟨⟨hgl, (cell_of_row _ _ 0 _ _ (0, 0) d5).trans rfl, (cell_of_row _ _ 1 _ _ (0, 0) d5).trans rfl, (cell_of_row _ _ 2 _ _ (0, 0) d5).trans rfl, (cell_of_row _ _ 3 _ _ (0, 0) d5).trans rfl⟩, hgl, (HAT4.out.to HB5.out).mono HB5.out.size, HJB.out.i0, HJB.out.i1, HJB.out.l1, HJB.out.a1, HJB.out.o1, HJB.out.andL, HJB.out.latL, HJB.out.outL⟩
 rw [← hgp]
 have HBW : Hid (Below w.heap.size w w5) := HBW0.out.trans ((HB4.out.trans (HB5.out.mono HB4.out.size)).mono hws)
 have hwB5 : w.heap.size ≤ w5.heap.size := HBW.out.size
 have hB5 : B0 ≤ w5.heap.size := Nat.le_trans hB0 hwB5
 have HBW5 : Hid (Below B0 w w5) := HBW.out.mono hB0
 have K1 : Hid (∀ w', Below w5.heap.size w5 w' → (fun w' => w'.cell? ⟨pc, 0, none⟩ = some (.slice xa prs.length xc) ∧ w'.cell? ⟨pc, 1, none⟩ = some (.slice ba bcl.length bc) ∧ w'.cell? ⟨pc, 2, none⟩ = some (.slice sa scl.length sc) ∧ w'.cell? ⟨pc, 3, none⟩ = some (.slice oa ocl.length oc)) w') := fun w' hb => HWC.out w' ((HB4.out.trans (HB5.out.mono HB4.out.size)).trans (hb.mono (Nat.le_trans HB4.out.size HB5.out.size)))
 clear hW5 hgp d5
 have HTOT : Hid (∀ k, totL (formF G prs k) ≤ 12000000) := fun k => formF_tot HJB.out.a1 HJB.out.l1 HJB.out.o1 prs hpn k
 have HSZ := hidden HJ5.out.sz
 obtain ⟨po, HPO⟩ : ∃ b, Hid (pairsOk G.vars prs = b) := ⟨_, rfl⟩
 have AL : Hid (∀ w', Below w5.heap.size w5 w' → Calls Try.prog 33 #[.pointer (some ⟨gp, 0, none⟩), .slice xa prs.length xc] w' fun e w'' => e = .returned (.bool po) ∧ Below w'.heap.size w' w'') := fun w' hb => by
  have hj := HJ5.out.to hb
  rw [← HPO.out]
  exact areLiterals_any B0 w' gp Tj G hj.box hj.i0 hj.i1 hj.at_.ll hj.at_.la HSZ.out.2 HSZ.out.1 xa xc prs (HR.out.to (HBW5.out.trans (hb.mono hB5))) (Nat.le_trans hB5 hb.size) (by simp only [big]; omega)
 cases po
 ·have HNO : Hid (¬ HoldsG A B prs (bcl.map CL.l) (scl.map CL.l) (ocl.map CL.l)) := fun hh => by have := hh.2.1; rw [← HG.out, HPO.out] at this; cases this
  refine wp_region_noPanic ?_
  refine wp_region_held_drew (S := (fun w' => w'.cell? ⟨pc, 0, none⟩ = some (.slice xa prs.length xc) ∧ w'.cell? ⟨pc, 1, none⟩ = some (.slice ba bcl.length bc) ∧ w'.cell? ⟨pc, 2, none⟩ = some (.slice sa scl.length sc) ∧ w'.cell? ⟨pc, 3, none⟩ = some (.slice oa ocl.length oc))) (by kernel_rfl) (by first | assumption | exact K1.out _ (Below.refl _ _) | exact K1.out _ (Below.drew (Below.refl _ _)) | exact K1.out _ (by assumption)) (fun hHeld => ?_)
  refine tk 0 ?_
  refine tk 1 ?_
  refine wpAnyH_ready (rs := [2]) (by kernel_rfl) (by simp) ?_
  refine AllReadyH.cons (o := _) rfl (fun K hK => ?_) AllReadyH.nil
  (try simp only [gA, gB, gC])
  go_simp
  go_at_call 33
  refine (AL.out _ (Below.drew (Below.refl w5.heap.size w5))).mono ?_
  rintro e v1 ⟨rfl, hbv1⟩
  have hb1 : Below w5.heap.size w5 v1 := (Below.drew (Below.refl w5.heap.size w5)).trans hbv1
  clear hbv1
  go_wp2_with fail
  refine hK.out _ _ (by first | assumption | exact K1.out _ (Below.refl _ _) | exact K1.out _ (Below.drew (Below.refl _ _)) | exact K1.out _ (by assumption)) (fun hHeld1 => ?_)
  clear hK K
  try simp only [Act.put, sA, sB, sC]
  refine tk 3 ?_
  refine tu 4 ?_
  refine tu 5 ?_
  refine tu 6 ?_
  refine tu 7 ?_
  refine tu 8 ?_
  refine tu 9 ?_
  refine tk 10 ?_
  refine tk 11 ?_
  refine tu 12 ?_
  refine tu 13 ?_
  refine tu 14 ?_
  refine tu 15 ?_
  refine tu 16 ?_
  refine tu 17 ?_
  refine tk 18 ?_
  refine tk 19 ?_
  refine tu 20 ?_
  refine tu 21 ?_
  refine tu 22 ?_
  refine tu 23 ?_
  refine tu 24 ?_
  refine tu 25 ?_
  refine tk 26 ?_
  refine tk 27 ?_
  refine wpAnyH_done (by kernel_rfl) ?_ _
  refine NoPanic.normal ?_
  have HBF := hidden (HBW.out.trans (hb1.mono hwB5))
  clear hb1
  go_wp2
  go_ret
  exact ⟨false, rfl, ⟨fun h => (by cases h), fun h => absurd h HNO.out⟩, HBF.out⟩
 have WRC : Hid (∀ (k : Nat) (w' : World), Below w5.heap.size w5 w' → k < 3 → Calls Try.prog 34 #[.pointer (some ⟨gp, 0, none⟩), .slice xa prs.length xc, .int .i64 (k : Int)] w' fun e w'' => FmQ w' (formV G prs k) (formF G prs k) e w'') := fun k w' hb hk =>
  written_any w5.heap.size w' gp Tj G (HJ5.out.to hb) hb.size xa xc prs ((HR.out.to (HBW5.out.trans (hb.mono hB5))).mono hB5) (pairs_le HPO.out HSZ.out.2) hpn k (by omega)
 have HH : Hid (∀ P : Prop, (HoldsG A B prs (bcl.map CL.l) (scl.map CL.l) (ocl.map CL.l) → P) ↔ (RefP (formV G prs 0) (formF G prs 0) (bcl.map CL.l) ∧ RefP (formV G prs 1) (formF G prs 1) (scl.map CL.l) ∧ RefP (formV G prs 2) (formF G prs 2) (ocl.map CL.l) → P)) := fun P => by
  unfold HoldsG
  rw [← HG.out]
  exact ⟨fun h q => h ⟨HAL.out, HPO.out, q⟩, fun h q => h q.2.2⟩
 by_cases hR0 : RefP (formV G prs 0) (formF G prs 0) (bcl.map CL.l)
 ·by_cases hR1 : RefP (formV G prs 1) (formF G prs 1) (scl.map CL.l)
  ·by_cases hR2 : RefP (formV G prs 2) (formF G prs 2) (ocl.map CL.l)
   ·have HYES : Hid (HoldsG A B prs (bcl.map CL.l) (scl.map CL.l) (ocl.map CL.l)) := by
     show HoldsG _ _ _ _ _ _
     unfold HoldsG
     rw [← HG.out]
     exact ⟨HAL.out, HPO.out, hR0, hR1, hR2⟩
    refine wp_region_noPanic ?_
    refine wp_region_held_drew (S := (fun w' => w'.cell? ⟨pc, 0, none⟩ = some (.slice xa prs.length xc) ∧ w'.cell? ⟨pc, 1, none⟩ = some (.slice ba bcl.length bc) ∧ w'.cell? ⟨pc, 2, none⟩ = some (.slice sa scl.length sc) ∧ w'.cell? ⟨pc, 3, none⟩ = some (.slice oa ocl.length oc))) (by kernel_rfl) (by first | assumption | exact K1.out _ (Below.refl _ _) | exact K1.out _ (Below.drew (Below.refl _ _)) | exact K1.out _ (by assumption)) (fun hHeld => ?_)
    refine tk 0 ?_
    refine tk 1 ?_
    refine wpAnyH_ready (rs := [2]) (by kernel_rfl) (by simp) ?_
    refine AllReadyH.cons (o := _) rfl (fun K hK => ?_) AllReadyH.nil
    (try simp only [gA, gB, gC])
    go_simp
    go_at_call 33
    refine (AL.out _ (Below.drew (Below.refl w5.heap.size w5))).mono ?_
    rintro e v1 ⟨rfl, hbv1⟩
    have hb1 : Below w5.heap.size w5 v1 := (Below.drew (Below.refl w5.heap.size w5)).trans hbv1
    clear hbv1
    go_wp2_with fail
    refine hK.out _ _ (by first | assumption | exact K1.out _ (Below.refl _ _) | exact K1.out _ (Below.drew (Below.refl _ _)) | exact K1.out _ (by assumption)) (fun hHeld1 => ?_)
    clear hK K
    try simp only [Act.put, sA, sB, sC]
    refine tk 3 ?_
    refine tk 4 ?_
    refine tk 5 ?_
    refine tk 7 ?_
    refine tk 8 ?_
    refine wpAnyH_ready (rs := [6]) (by kernel_rfl) (by simp) ?_
    refine AllReadyH.cons (o := _) rfl (fun K hK => ?_) AllReadyH.nil
    (try simp only [gA, gB, gC])
    go_simp
    go_at_call 34
    refine (WRC.out 0 _ hb1 (by decide)).mono ?_
    rintro e v2 ⟨a2, c2, cls2, rfl, hcl2, hrow2, heach2, hbv2⟩
    have hb2 : Below w5.heap.size w5 v2 := hb1.trans (hbv2.mono hb1.size)
    have hfc2 := fm_clAt hcl2 hrow2 heach2 (HTOT.out 0)
    clear hrow2 heach2 hbv2
    go_wp2_with fail
    refine hK.out _ _ (by first | assumption | exact K1.out _ (Below.refl _ _) | exact K1.out _ (Below.drew (Below.refl _ _)) | exact K1.out _ (by assumption)) (fun hHeld2 => ?_)
    clear hK K
    try simp only [Act.put, sA, sB, sC]
    refine wpAnyH_ready (rs := [9]) (by kernel_rfl) (by simp) ?_
    refine AllReadyH.cons (o := _) rfl (fun K hK => ?_) AllReadyH.nil
    (try simp only [gA, gB, gC])
    go_simp
    go_at_call 7
    refine (check_any v2.heap.size v2 a2 c2 _ cls2 hfc2.1 (Nat.le_refl _) ba bc bcl ((HBC.out.to (HBW5.out.trans (hb2.mono hB5)) |>.mono (Nat.le_trans hB5 hb2.size))) (by have := hfc2.2; have := HBT.out; omega)).mono ?_
    rintro e v3 ⟨bb, rfl, hiff3, hbv3⟩
    rw [hcl2] at hiff3
    have hb3 : Below w5.heap.size w5 v3 := hb2.trans (hbv3.mono hb2.size)
    obtain rfl : bb = true := hiff3.2 (hR0)
    clear hbv3 hiff3
    go_wp2_with fail
    refine hK.out _ _ (by first | assumption | exact K1.out _ (Below.refl _ _) | exact K1.out _ (Below.drew (Below.refl _ _)) | exact K1.out _ (by assumption)) (fun hHeld3 => ?_)
    clear hK K
    try simp only [Act.put, sA, sB, sC]
    refine tk 10 ?_
    refine tk 11 ?_
    refine tk 12 ?_
    refine tk 13 ?_
    refine tk 15 ?_
    refine tk 16 ?_
    refine wpAnyH_ready (rs := [14]) (by kernel_rfl) (by simp) ?_
    refine AllReadyH.cons (o := _) rfl (fun K hK => ?_) AllReadyH.nil
    (try simp only [gA, gB, gC])
    go_simp
    go_at_call 34
    refine (WRC.out 1 _ hb3 (by decide)).mono ?_
    rintro e v4 ⟨a4, c4, cls4, rfl, hcl4, hrow4, heach4, hbv4⟩
    have hb4 : Below w5.heap.size w5 v4 := hb3.trans (hbv4.mono hb3.size)
    have hfc4 := fm_clAt hcl4 hrow4 heach4 (HTOT.out 1)
    clear hrow4 heach4 hbv4
    go_wp2_with fail
    refine hK.out _ _ (by first | assumption | exact K1.out _ (Below.refl _ _) | exact K1.out _ (Below.drew (Below.refl _ _)) | exact K1.out _ (by assumption)) (fun hHeld4 => ?_)
    clear hK K
    try simp only [Act.put, sA, sB, sC]
    refine wpAnyH_ready (rs := [17]) (by kernel_rfl) (by simp) ?_
    refine AllReadyH.cons (o := _) rfl (fun K hK => ?_) AllReadyH.nil
    (try simp only [gA, gB, gC])
    go_simp
    go_at_call 7
    refine (check_any v4.heap.size v4 a4 c4 _ cls4 hfc4.1 (Nat.le_refl _) sa sc scl ((HSC.out.to (HBW5.out.trans (hb4.mono hB5)) |>.mono (Nat.le_trans hB5 hb4.size))) (by have := hfc4.2; have := HST.out; omega)).mono ?_
    rintro e v5 ⟨bb, rfl, hiff5, hbv5⟩
    rw [hcl4] at hiff5
    have hb5 : Below w5.heap.size w5 v5 := hb4.trans (hbv5.mono hb4.size)
    obtain rfl : bb = true := hiff5.2 (hR1)
    clear hbv5 hiff5
    go_wp2_with fail
    refine hK.out _ _ (by first | assumption | exact K1.out _ (Below.refl _ _) | exact K1.out _ (Below.drew (Below.refl _ _)) | exact K1.out _ (by assumption)) (fun hHeld5 => ?_)
    clear hK K
    try simp only [Act.put, sA, sB, sC]
    refine tk 18 ?_
    refine tk 19 ?_
    refine tk 20 ?_
    refine tk 21 ?_
    refine tk 23 ?_
    refine tk 24 ?_
    refine wpAnyH_ready (rs := [22]) (by kernel_rfl) (by simp) ?_
    refine AllReadyH.cons (o := _) rfl (fun K hK => ?_) AllReadyH.nil
    (try simp only [gA, gB, gC])
    go_simp
    go_at_call 34
    refine (WRC.out 2 _ hb5 (by decide)).mono ?_
    rintro e v6 ⟨a6, c6, cls6, rfl, hcl6, hrow6, heach6, hbv6⟩
    have hb6 : Below w5.heap.size w5 v6 := hb5.trans (hbv6.mono hb5.size)
    have hfc6 := fm_clAt hcl6 hrow6 heach6 (HTOT.out 2)
    clear hrow6 heach6 hbv6
    go_wp2_with fail
    refine hK.out _ _ (by first | assumption | exact K1.out _ (Below.refl _ _) | exact K1.out _ (Below.drew (Below.refl _ _)) | exact K1.out _ (by assumption)) (fun hHeld6 => ?_)
    clear hK K
    try simp only [Act.put, sA, sB, sC]
    refine wpAnyH_ready (rs := [25]) (by kernel_rfl) (by simp) ?_
    refine AllReadyH.cons (o := _) rfl (fun K hK => ?_) AllReadyH.nil
    (try simp only [gA, gB, gC])
    go_simp
    go_at_call 7
    refine (check_any v6.heap.size v6 a6 c6 _ cls6 hfc6.1 (Nat.le_refl _) oa oc ocl ((HOC.out.to (HBW5.out.trans (hb6.mono hB5)) |>.mono (Nat.le_trans hB5 hb6.size))) (by have := hfc6.2; have := HOT.out; omega)).mono ?_
    rintro e v7 ⟨bb, rfl, hiff7, hbv7⟩
    rw [hcl6] at hiff7
    have hb7 : Below w5.heap.size w5 v7 := hb6.trans (hbv7.mono hb6.size)
    obtain rfl : bb = true := hiff7.2 (hR2)
    clear hbv7 hiff7
    go_wp2_with fail
    refine hK.out _ _ (by first | assumption | exact K1.out _ (Below.refl _ _) | exact K1.out _ (Below.drew (Below.refl _ _)) | exact K1.out _ (by assumption)) (fun hHeld7 => ?_)
    clear hK K
    try simp only [Act.put, sA, sB, sC]
    refine tk 26 ?_
    refine tk 27 ?_
    refine wpAnyH_done (by kernel_rfl) ?_ _
    refine NoPanic.normal ?_
    have HBF := hidden (HBW.out.trans (hb7.mono hwB5))
    clear hb7
    go_wp2
    go_ret
    exact ⟨true, rfl, ⟨fun _ => HYES.out, fun _ => rfl⟩, HBF.out⟩
   ·have HNO : Hid (¬ HoldsG A B prs (bcl.map CL.l) (scl.map CL.l) (ocl.map CL.l)) := (HH.out False).2 (fun q => hR2 q.2.2)
    refine wp_region_noPanic ?_
    refine wp_region_held_drew (S := (fun w' => w'.cell? ⟨pc, 0, none⟩ = some (.slice xa prs.length xc) ∧ w'.cell? ⟨pc, 1, none⟩ = some (.slice ba bcl.length bc) ∧ w'.cell? ⟨pc, 2, none⟩ = some (.slice sa scl.length sc) ∧ w'.cell? ⟨pc, 3, none⟩ = some (.slice oa ocl.length oc))) (by kernel_rfl) (by first | assumption | exact K1.out _ (Below.refl _ _) | exact K1.out _ (Below.drew (Below.refl _ _)) | exact K1.out _ (by assumption)) (fun hHeld => ?_)
    refine tk 0 ?_
    refine tk 1 ?_
    refine wpAnyH_ready (rs := [2]) (by kernel_rfl) (by simp) ?_
    refine AllReadyH.cons (o := _) rfl (fun K hK => ?_) AllReadyH.nil
    (try simp only [gA, gB, gC])
    go_simp
    go_at_call 33
    refine (AL.out _ (Below.drew (Below.refl w5.heap.size w5))).mono ?_
    rintro e v1 ⟨rfl, hbv1⟩
    have hb1 : Below w5.heap.size w5 v1 := (Below.drew (Below.refl w5.heap.size w5)).trans hbv1
    clear hbv1
    go_wp2_with fail
    refine hK.out _ _ (by first | assumption | exact K1.out _ (Below.refl _ _) | exact K1.out _ (Below.drew (Below.refl _ _)) | exact K1.out _ (by assumption)) (fun hHeld1 => ?_)
    clear hK K
    try simp only [Act.put, sA, sB, sC]
    refine tk 3 ?_
    refine tk 4 ?_
    refine tk 5 ?_
    refine tk 7 ?_
    refine tk 8 ?_
    refine wpAnyH_ready (rs := [6]) (by kernel_rfl) (by simp) ?_
    refine AllReadyH.cons (o := _) rfl (fun K hK => ?_) AllReadyH.nil
    (try simp only [gA, gB, gC])
    go_simp
    go_at_call 34
    refine (WRC.out 0 _ hb1 (by decide)).mono ?_
    rintro e v2 ⟨a2, c2, cls2, rfl, hcl2, hrow2, heach2, hbv2⟩
    have hb2 : Below w5.heap.size w5 v2 := hb1.trans (hbv2.mono hb1.size)
    have hfc2 := fm_clAt hcl2 hrow2 heach2 (HTOT.out 0)
    clear hrow2 heach2 hbv2
    go_wp2_with fail
    refine hK.out _ _ (by first | assumption | exact K1.out _ (Below.refl _ _) | exact K1.out _ (Below.drew (Below.refl _ _)) | exact K1.out _ (by assumption)) (fun hHeld2 => ?_)
    clear hK K
    try simp only [Act.put, sA, sB, sC]
    refine wpAnyH_ready (rs := [9]) (by kernel_rfl) (by simp) ?_
    refine AllReadyH.cons (o := _) rfl (fun K hK => ?_) AllReadyH.nil
    (try simp only [gA, gB, gC])
    go_simp
    go_at_call 7
    refine (check_any v2.heap.size v2 a2 c2 _ cls2 hfc2.1 (Nat.le_refl _) ba bc bcl ((HBC.out.to (HBW5.out.trans (hb2.mono hB5)) |>.mono (Nat.le_trans hB5 hb2.size))) (by have := hfc2.2; have := HBT.out; omega)).mono ?_
    rintro e v3 ⟨bb, rfl, hiff3, hbv3⟩
    rw [hcl2] at hiff3
    have hb3 : Below w5.heap.size w5 v3 := hb2.trans (hbv3.mono hb2.size)
    obtain rfl : bb = true := hiff3.2 (hR0)
    clear hbv3 hiff3
    go_wp2_with fail
    refine hK.out _ _ (by first | assumption | exact K1.out _ (Below.refl _ _) | exact K1.out _ (Below.drew (Below.refl _ _)) | exact K1.out _ (by assumption)) (fun hHeld3 => ?_)
    clear hK K
    try simp only [Act.put, sA, sB, sC]
    refine tk 10 ?_
    refine tk 11 ?_
    refine tk 12 ?_
    refine tk 13 ?_
    refine tk 15 ?_
    refine tk 16 ?_
    refine wpAnyH_ready (rs := [14]) (by kernel_rfl) (by simp) ?_
    refine AllReadyH.cons (o := _) rfl (fun K hK => ?_) AllReadyH.nil
    (try simp only [gA, gB, gC])
    go_simp
    go_at_call 34
    refine (WRC.out 1 _ hb3 (by decide)).mono ?_
    rintro e v4 ⟨a4, c4, cls4, rfl, hcl4, hrow4, heach4, hbv4⟩
    have hb4 : Below w5.heap.size w5 v4 := hb3.trans (hbv4.mono hb3.size)
    have hfc4 := fm_clAt hcl4 hrow4 heach4 (HTOT.out 1)
    clear hrow4 heach4 hbv4
    go_wp2_with fail
    refine hK.out _ _ (by first | assumption | exact K1.out _ (Below.refl _ _) | exact K1.out _ (Below.drew (Below.refl _ _)) | exact K1.out _ (by assumption)) (fun hHeld4 => ?_)
    clear hK K
    try simp only [Act.put, sA, sB, sC]
    refine wpAnyH_ready (rs := [17]) (by kernel_rfl) (by simp) ?_
    refine AllReadyH.cons (o := _) rfl (fun K hK => ?_) AllReadyH.nil
    (try simp only [gA, gB, gC])
    go_simp
    go_at_call 7
    refine (check_any v4.heap.size v4 a4 c4 _ cls4 hfc4.1 (Nat.le_refl _) sa sc scl ((HSC.out.to (HBW5.out.trans (hb4.mono hB5)) |>.mono (Nat.le_trans hB5 hb4.size))) (by have := hfc4.2; have := HST.out; omega)).mono ?_
    rintro e v5 ⟨bb, rfl, hiff5, hbv5⟩
    rw [hcl4] at hiff5
    have hb5 : Below w5.heap.size w5 v5 := hb4.trans (hbv5.mono hb4.size)
    obtain rfl : bb = true := hiff5.2 (hR1)
    clear hbv5 hiff5
    go_wp2_with fail
    refine hK.out _ _ (by first | assumption | exact K1.out _ (Below.refl _ _) | exact K1.out _ (Below.drew (Below.refl _ _)) | exact K1.out _ (by assumption)) (fun hHeld5 => ?_)
    clear hK K
    try simp only [Act.put, sA, sB, sC]
    refine tk 18 ?_
    refine tk 19 ?_
    refine tk 20 ?_
    refine tk 21 ?_
    refine tk 23 ?_
    refine tk 24 ?_
    refine wpAnyH_ready (rs := [22]) (by kernel_rfl) (by simp) ?_
    refine AllReadyH.cons (o := _) rfl (fun K hK => ?_) AllReadyH.nil
    (try simp only [gA, gB, gC])
    go_simp
    go_at_call 34
    refine (WRC.out 2 _ hb5 (by decide)).mono ?_
    rintro e v6 ⟨a6, c6, cls6, rfl, hcl6, hrow6, heach6, hbv6⟩
    have hb6 : Below w5.heap.size w5 v6 := hb5.trans (hbv6.mono hb5.size)
    have hfc6 := fm_clAt hcl6 hrow6 heach6 (HTOT.out 2)
    clear hrow6 heach6 hbv6
    go_wp2_with fail
    refine hK.out _ _ (by first | assumption | exact K1.out _ (Below.refl _ _) | exact K1.out _ (Below.drew (Below.refl _ _)) | exact K1.out _ (by assumption)) (fun hHeld6 => ?_)
    clear hK K
    try simp only [Act.put, sA, sB, sC]
    refine wpAnyH_ready (rs := [25]) (by kernel_rfl) (by simp) ?_
    refine AllReadyH.cons (o := _) rfl (fun K hK => ?_) AllReadyH.nil
    (try simp only [gA, gB, gC])
    go_simp
    go_at_call 7
    refine (check_any v6.heap.size v6 a6 c6 _ cls6 hfc6.1 (Nat.le_refl _) oa oc ocl ((HOC.out.to (HBW5.out.trans (hb6.mono hB5)) |>.mono (Nat.le_trans hB5 hb6.size))) (by have := hfc6.2; have := HOT.out; omega)).mono ?_
    rintro e v7 ⟨bb, rfl, hiff7, hbv7⟩
    rw [hcl6] at hiff7
    have hb7 : Below w5.heap.size w5 v7 := hb6.trans (hbv7.mono hb6.size)
    obtain rfl : bb = false := by cases bb; rfl; exact absurd (hiff7.1 rfl) hR2
    clear hbv7 hiff7
    go_wp2_with fail
    refine hK.out _ _ (by first | assumption | exact K1.out _ (Below.refl _ _) | exact K1.out _ (Below.drew (Below.refl _ _)) | exact K1.out _ (by assumption)) (fun hHeld7 => ?_)
    clear hK K
    try simp only [Act.put, sA, sB, sC]
    refine tk 26 ?_
    refine tk 27 ?_
    refine wpAnyH_done (by kernel_rfl) ?_ _
    refine NoPanic.normal ?_
    have HBF := hidden (HBW.out.trans (hb7.mono hwB5))
    clear hb7
    go_wp2
    go_ret
    exact ⟨false, rfl, ⟨fun h => (by cases h), fun h => absurd h HNO.out⟩, HBF.out⟩
  ·have HNO : Hid (¬ HoldsG A B prs (bcl.map CL.l) (scl.map CL.l) (ocl.map CL.l)) := (HH.out False).2 (fun q => hR1 q.2.1)
   refine wp_region_noPanic ?_
   refine wp_region_held_drew (S := (fun w' => w'.cell? ⟨pc, 0, none⟩ = some (.slice xa prs.length xc) ∧ w'.cell? ⟨pc, 1, none⟩ = some (.slice ba bcl.length bc) ∧ w'.cell? ⟨pc, 2, none⟩ = some (.slice sa scl.length sc) ∧ w'.cell? ⟨pc, 3, none⟩ = some (.slice oa ocl.length oc))) (by kernel_rfl) (by first | assumption | exact K1.out _ (Below.refl _ _) | exact K1.out _ (Below.drew (Below.refl _ _)) | exact K1.out _ (by assumption)) (fun hHeld => ?_)
   refine tk 0 ?_
   refine tk 1 ?_
   refine wpAnyH_ready (rs := [2]) (by kernel_rfl) (by simp) ?_
   refine AllReadyH.cons (o := _) rfl (fun K hK => ?_) AllReadyH.nil
   (try simp only [gA, gB, gC])
   go_simp
   go_at_call 33
   refine (AL.out _ (Below.drew (Below.refl w5.heap.size w5))).mono ?_
   rintro e v1 ⟨rfl, hbv1⟩
   have hb1 : Below w5.heap.size w5 v1 := (Below.drew (Below.refl w5.heap.size w5)).trans hbv1
   clear hbv1
   go_wp2_with fail
   refine hK.out _ _ (by first | assumption | exact K1.out _ (Below.refl _ _) | exact K1.out _ (Below.drew (Below.refl _ _)) | exact K1.out _ (by assumption)) (fun hHeld1 => ?_)
   clear hK K
   try simp only [Act.put, sA, sB, sC]
   refine tk 3 ?_
   refine tk 4 ?_
   refine tk 5 ?_
   refine tk 7 ?_
   refine tk 8 ?_
   refine wpAnyH_ready (rs := [6]) (by kernel_rfl) (by simp) ?_
   refine AllReadyH.cons (o := _) rfl (fun K hK => ?_) AllReadyH.nil
   (try simp only [gA, gB, gC])
   go_simp
   go_at_call 34
   refine (WRC.out 0 _ hb1 (by decide)).mono ?_
   rintro e v2 ⟨a2, c2, cls2, rfl, hcl2, hrow2, heach2, hbv2⟩
   have hb2 : Below w5.heap.size w5 v2 := hb1.trans (hbv2.mono hb1.size)
   have hfc2 := fm_clAt hcl2 hrow2 heach2 (HTOT.out 0)
   clear hrow2 heach2 hbv2
   go_wp2_with fail
   refine hK.out _ _ (by first | assumption | exact K1.out _ (Below.refl _ _) | exact K1.out _ (Below.drew (Below.refl _ _)) | exact K1.out _ (by assumption)) (fun hHeld2 => ?_)
   clear hK K
   try simp only [Act.put, sA, sB, sC]
   refine wpAnyH_ready (rs := [9]) (by kernel_rfl) (by simp) ?_
   refine AllReadyH.cons (o := _) rfl (fun K hK => ?_) AllReadyH.nil
   (try simp only [gA, gB, gC])
   go_simp
   go_at_call 7
   refine (check_any v2.heap.size v2 a2 c2 _ cls2 hfc2.1 (Nat.le_refl _) ba bc bcl ((HBC.out.to (HBW5.out.trans (hb2.mono hB5)) |>.mono (Nat.le_trans hB5 hb2.size))) (by have := hfc2.2; have := HBT.out; omega)).mono ?_
   rintro e v3 ⟨bb, rfl, hiff3, hbv3⟩
   rw [hcl2] at hiff3
   have hb3 : Below w5.heap.size w5 v3 := hb2.trans (hbv3.mono hb2.size)
   obtain rfl : bb = true := hiff3.2 (hR0)
   clear hbv3 hiff3
   go_wp2_with fail
   refine hK.out _ _ (by first | assumption | exact K1.out _ (Below.refl _ _) | exact K1.out _ (Below.drew (Below.refl _ _)) | exact K1.out _ (by assumption)) (fun hHeld3 => ?_)
   clear hK K
   try simp only [Act.put, sA, sB, sC]
   refine tk 10 ?_
   refine tk 11 ?_
   refine tk 12 ?_
   refine tk 13 ?_
   refine tk 15 ?_
   refine tk 16 ?_
   refine wpAnyH_ready (rs := [14]) (by kernel_rfl) (by simp) ?_
   refine AllReadyH.cons (o := _) rfl (fun K hK => ?_) AllReadyH.nil
   (try simp only [gA, gB, gC])
   go_simp
   go_at_call 34
   refine (WRC.out 1 _ hb3 (by decide)).mono ?_
   rintro e v4 ⟨a4, c4, cls4, rfl, hcl4, hrow4, heach4, hbv4⟩
   have hb4 : Below w5.heap.size w5 v4 := hb3.trans (hbv4.mono hb3.size)
   have hfc4 := fm_clAt hcl4 hrow4 heach4 (HTOT.out 1)
   clear hrow4 heach4 hbv4
   go_wp2_with fail
   refine hK.out _ _ (by first | assumption | exact K1.out _ (Below.refl _ _) | exact K1.out _ (Below.drew (Below.refl _ _)) | exact K1.out _ (by assumption)) (fun hHeld4 => ?_)
   clear hK K
   try simp only [Act.put, sA, sB, sC]
   refine wpAnyH_ready (rs := [17]) (by kernel_rfl) (by simp) ?_
   refine AllReadyH.cons (o := _) rfl (fun K hK => ?_) AllReadyH.nil
   (try simp only [gA, gB, gC])
   go_simp
   go_at_call 7
   refine (check_any v4.heap.size v4 a4 c4 _ cls4 hfc4.1 (Nat.le_refl _) sa sc scl ((HSC.out.to (HBW5.out.trans (hb4.mono hB5)) |>.mono (Nat.le_trans hB5 hb4.size))) (by have := hfc4.2; have := HST.out; omega)).mono ?_
   rintro e v5 ⟨bb, rfl, hiff5, hbv5⟩
   rw [hcl4] at hiff5
   have hb5 : Below w5.heap.size w5 v5 := hb4.trans (hbv5.mono hb4.size)
   obtain rfl : bb = false := by cases bb; rfl; exact absurd (hiff5.1 rfl) hR1
   clear hbv5 hiff5
   go_wp2_with fail
   refine hK.out _ _ (by first | assumption | exact K1.out _ (Below.refl _ _) | exact K1.out _ (Below.drew (Below.refl _ _)) | exact K1.out _ (by assumption)) (fun hHeld5 => ?_)
   clear hK K
   try simp only [Act.put, sA, sB, sC]
   refine tk 18 ?_
   refine tk 19 ?_
   refine tu 20 ?_
   refine tu 21 ?_
   refine tu 22 ?_
   refine tu 23 ?_
   refine tu 24 ?_
   refine tu 25 ?_
   refine tk 26 ?_
   refine tk 27 ?_
   refine wpAnyH_done (by kernel_rfl) ?_ _
   refine NoPanic.normal ?_
   have HBF := hidden (HBW.out.trans (hb5.mono hwB5))
   clear hb5
   go_wp2
   go_ret
   exact ⟨false, rfl, ⟨fun h => (by cases h), fun h => absurd h HNO.out⟩, HBF.out⟩
 ·have HNO : Hid (¬ HoldsG A B prs (bcl.map CL.l) (scl.map CL.l) (ocl.map CL.l)) := (HH.out False).2 (fun q => hR0 q.1)
  refine wp_region_noPanic ?_
  refine wp_region_held_drew (S := (fun w' => w'.cell? ⟨pc, 0, none⟩ = some (.slice xa prs.length xc) ∧ w'.cell? ⟨pc, 1, none⟩ = some (.slice ba bcl.length bc) ∧ w'.cell? ⟨pc, 2, none⟩ = some (.slice sa scl.length sc) ∧ w'.cell? ⟨pc, 3, none⟩ = some (.slice oa ocl.length oc))) (by kernel_rfl) (by first | assumption | exact K1.out _ (Below.refl _ _) | exact K1.out _ (Below.drew (Below.refl _ _)) | exact K1.out _ (by assumption)) (fun hHeld => ?_)
  refine tk 0 ?_
  refine tk 1 ?_
  refine wpAnyH_ready (rs := [2]) (by kernel_rfl) (by simp) ?_
  refine AllReadyH.cons (o := _) rfl (fun K hK => ?_) AllReadyH.nil
  (try simp only [gA, gB, gC])
  go_simp
  go_at_call 33
  refine (AL.out _ (Below.drew (Below.refl w5.heap.size w5))).mono ?_
  rintro e v1 ⟨rfl, hbv1⟩
  have hb1 : Below w5.heap.size w5 v1 := (Below.drew (Below.refl w5.heap.size w5)).trans hbv1
  clear hbv1
  go_wp2_with fail
  refine hK.out _ _ (by first | assumption | exact K1.out _ (Below.refl _ _) | exact K1.out _ (Below.drew (Below.refl _ _)) | exact K1.out _ (by assumption)) (fun hHeld1 => ?_)
  clear hK K
  try simp only [Act.put, sA, sB, sC]
  refine tk 3 ?_
  refine tk 4 ?_
  refine tk 5 ?_
  refine tk 7 ?_
  refine tk 8 ?_
  refine wpAnyH_ready (rs := [6]) (by kernel_rfl) (by simp) ?_
  refine AllReadyH.cons (o := _) rfl (fun K hK => ?_) AllReadyH.nil
  (try simp only [gA, gB, gC])
  go_simp
  go_at_call 34
  refine (WRC.out 0 _ hb1 (by decide)).mono ?_
  rintro e v2 ⟨a2, c2, cls2, rfl, hcl2, hrow2, heach2, hbv2⟩
  have hb2 : Below w5.heap.size w5 v2 := hb1.trans (hbv2.mono hb1.size)
  have hfc2 := fm_clAt hcl2 hrow2 heach2 (HTOT.out 0)
  clear hrow2 heach2 hbv2
  go_wp2_with fail
  refine hK.out _ _ (by first | assumption | exact K1.out _ (Below.refl _ _) | exact K1.out _ (Below.drew (Below.refl _ _)) | exact K1.out _ (by assumption)) (fun hHeld2 => ?_)
  clear hK K
  try simp only [Act.put, sA, sB, sC]
  refine wpAnyH_ready (rs := [9]) (by kernel_rfl) (by simp) ?_
  refine AllReadyH.cons (o := _) rfl (fun K hK => ?_) AllReadyH.nil
  (try simp only [gA, gB, gC])
  go_simp
  go_at_call 7
  refine (check_any v2.heap.size v2 a2 c2 _ cls2 hfc2.1 (Nat.le_refl _) ba bc bcl ((HBC.out.to (HBW5.out.trans (hb2.mono hB5)) |>.mono (Nat.le_trans hB5 hb2.size))) (by have := hfc2.2; have := HBT.out; omega)).mono ?_
  rintro e v3 ⟨bb, rfl, hiff3, hbv3⟩
  rw [hcl2] at hiff3
  have hb3 : Below w5.heap.size w5 v3 := hb2.trans (hbv3.mono hb2.size)
  obtain rfl : bb = false := by cases bb; rfl; exact absurd (hiff3.1 rfl) hR0
  clear hbv3 hiff3
  go_wp2_with fail
  refine hK.out _ _ (by first | assumption | exact K1.out _ (Below.refl _ _) | exact K1.out _ (Below.drew (Below.refl _ _)) | exact K1.out _ (by assumption)) (fun hHeld3 => ?_)
  clear hK K
  try simp only [Act.put, sA, sB, sC]
  refine tk 10 ?_
  refine tk 11 ?_
  refine tu 12 ?_
  refine tu 13 ?_
  refine tu 14 ?_
  refine tu 15 ?_
  refine tu 16 ?_
  refine tu 17 ?_
  refine tk 18 ?_
  refine tk 19 ?_
  refine tu 20 ?_
  refine tu 21 ?_
  refine tu 22 ?_
  refine tu 23 ?_
  refine tu 24 ?_
  refine tu 25 ?_
  refine tk 26 ?_
  refine tk 27 ?_
  refine wpAnyH_done (by kernel_rfl) ?_ _
  refine NoPanic.normal ?_
  have HBF := hidden (HBW.out.trans (hb3.mono hwB5))
  clear hb3
  go_wp2
  go_ret
  exact ⟨false, rfl, ⟨fun h => (by cases h), fun h => absurd h HNO.out⟩, HBF.out⟩
end Go.Proofs.Ytefjicdhccfieaa
