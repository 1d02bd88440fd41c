import Derived.Test.YtefjicdhccfieaaK01
import Derived.Test.YtefjicdhccfieaaK52
set_option maxRecDepth 100000
set_option maxHeartbeats 16000000
namespace Go.Proofs.Ytefjicdhccfieaa
open Go.RowKit
theorem law_sound (B0 : Nat) (w0 : World) (SA SB : GrS) (A B : GrD) (hA : GrAt B0 w0 SA A) (hB : GrAt B0 w0 SB B) (hB0 : B0 ≤ w0.heap.size) (xa : Option Addr) (xc : Nat) (prs : List AndD) (R : RowAt B0 w0 xa 2 (prs.map AndD.cells)) (hpn : prs.length ≤ 400000) (ba : Option Addr) (bc : Nat) (bcl : List CL) (hbc : ClAt B0 w0 ba bcl) (hbt : total bcl ≤ 1048576) (sa : Option Addr) (sc : Nat) (scl : List CL) (hsc : ClAt B0 w0 sa scl) (hst : total scl ≤ 1048576) (oa : Option Addr) (oc : Nat) (ocl : List CL) (hoc : ClAt B0 w0 oa ocl) (hot : total ocl ≤ 1048576) (ta : Option Addr) (tc : Nat) (trs : List TR) (ht : TrAt B0 w0 ta trs) :
  Calls Try.prog 6 #[.agg (SA.cells A), .agg (SB.cells B), .agg #[.slice xa prs.length xc, .slice ba bcl.length bc, .slice sa scl.length sc, .slice oa ocl.length oc], .slice ta trs.length tc] w0 fun e w' => e = .returned (.bool true) ∧ Below w0.heap.size w0 w' := by
 have PH : Hid (∀ w', Below w0.heap.size w0 w' → Calls Try.prog 11 #[.agg #[.int .i64 A.ins, .slice SA.a1 A.lats.length SA.c1, .slice SA.a2 A.ands.length SA.c2, .slice SA.a3 A.outs.length SA.c3], .agg #[.int .i64 B.ins, .slice SB.a1 B.lats.length SB.c1, .slice SB.a2 B.ands.length SB.c2, .slice SB.a3 B.outs.length SB.c3], .agg #[.slice xa prs.length xc, .slice ba bcl.length bc, .slice sa scl.length sc, .slice oa ocl.length oc]] w' fun e w'' => HldP w' A B prs (bcl.map CL.l) (scl.map CL.l) (ocl.map CL.l) e w'') := fun w' hb => holds_any B0 w' SA SB A B (hA.to (hb.mono hB0)) (hB.to (hb.mono hB0)) (Nat.le_trans hB0 hb.size) xa xc prs (R.to (hb.mono hB0)) hpn ba bc bcl (hbc.to (hb.mono hB0)) hbt sa sc scl (hsc.to (hb.mono hB0)) hst oa oc ocl (hoc.to (hb.mono hB0)) hot
 have HSO : Hid (HoldsG A B prs (bcl.map CL.l) (scl.map CL.l) (ocl.map CL.l) → (runN A (trs.map TR.l) (initN A) = runN B (trs.map TR.l) (initN B)) ∧ GrOk A = true ∧ GrOk B = true) := fun h => ⟨holds_sound h _, (alike_ok h.1).1, (alike_ok h.1).2.1⟩
 obtain ⟨tn, HTN⟩ : ∃ x, Hid (x = trs.length) := ⟨_, rfl⟩
 have GA0 : Hid (GrOk A = true → (∀ w', Below w0.heap.size w0 w' → Calls Try.prog 14 #[.agg #[.int .i64 A.ins, .slice SA.a1 A.lats.length SA.c1, .slice SA.a2 A.ands.length SA.c2, .slice SA.a3 A.outs.length SA.c3], .slice ta tn tc] w' fun e w'' => ∃ v, ∃ rows : List RD, e = .returned v ∧ w''.ownsRow w'.heap.size 62 1 v tn (rows.map RD.v) ∧ rows.map RD.l = runN A (trs.map TR.l) (initN A) ∧ (∀ r, r ∈ rows → BS w'' r.v r.l) ∧ Below w'.heap.size w' w'')) := fun hok w' hb => by
  obtain ⟨s1, p1, p2, p3⟩ := grOk_parts hok
  rw [HTN.out]
  exact graphRun_any B0 w' SA A (hA.to (hb.mono hB0)) (Nat.le_trans hB0 hb.size) s1 p1 p2 p3 ta tc trs (ht.to (hb.mono hB0))
 have GB0 : Hid (GrOk B = true → (∀ w', Below w0.heap.size w0 w' → Calls Try.prog 14 #[.agg #[.int .i64 B.ins, .slice SB.a1 B.lats.length SB.c1, .slice SB.a2 B.ands.length SB.c2, .slice SB.a3 B.outs.length SB.c3], .slice ta tn tc] w' fun e w'' => ∃ v, ∃ rows : List RD, e = .returned v ∧ w''.ownsRow w'.heap.size 62 1 v tn (rows.map RD.v) ∧ rows.map RD.l = runN B (trs.map TR.l) (initN B) ∧ (∀ r, r ∈ rows → BS w'' r.v r.l) ∧ Below w'.heap.size w' w'')) := fun hok w' hb => by
  obtain ⟨s1, p1, p2, p3⟩ := grOk_parts hok
  rw [HTN.out]
  exact graphRun_any B0 w' SB B (hB.to (hb.mono hB0)) (Nat.le_trans hB0 hb.size) s1 p1 p2 p3 ta tc trs (ht.to (hb.mono hB0))
 have HOB0 : Hid (GrOk A = true → A.outs.length < big) := fun hok => by
  obtain ⟨s1, -, -, -⟩ := grOk_parts hok
  have := s1.2.2.2.1
  simp only [big]; omega
 have HTB : Hid (tn < big) := by
  show _ < _
  rw [HTN.out]
  have := ht.len
  simp only [big]; omega
 obtain ⟨pn, HPN⟩ : ∃ x, Hid (x = prs.length) := ⟨_, rfl⟩
 obtain ⟨bn, HBN⟩ : ∃ x, Hid (x = bcl.length) := ⟨_, rfl⟩
 obtain ⟨sn, HSN⟩ : ∃ x, Hid (x = scl.length) := ⟨_, rfl⟩
 obtain ⟨on, HON⟩ : ∃ x, Hid (x = ocl.length) := ⟨_, rfl⟩
 rw [← HPN.out, ← HBN.out, ← HSN.out, ← HON.out] at PH
 rw [← HPN.out, ← HBN.out, ← HSN.out, ← HON.out, ← HTN.out]
 clear hA hB R hbc hsc hoc HPN HBN HSN HON ht HTN
 unfold GrS.cells
 go_enter Try.func6, Try.ntmps6
 go_upto_region 1 with fail
 obtain ⟨o1, ho1⟩ : ∃ o, o = Obj.cells #[.int .i64 A.ins, .slice SA.a1 A.lats.length SA.c1, .slice SA.a2 A.ands.length SA.c2, .slice SA.a3 A.outs.length SA.c3] 30 (0, 0) := ⟨_, rfl⟩
 obtain ⟨o2, ho2⟩ : ∃ o, o = Obj.cells #[.int .i64 B.ins, .slice SB.a1 B.lats.length SB.c1, .slice SB.a2 B.ands.length SB.c2, .slice SB.a3 B.outs.length SB.c3] 30 (0, 0) := ⟨_, rfl⟩
 obtain ⟨o3, ho3⟩ : ∃ o, o = Obj.cells #[.slice xa pn xc, .slice ba bn bc, .slice sa sn sc, .slice oa on oc] 35 (0, 0) := ⟨_, rfl⟩
 rw [← ho1, ← ho2, ← ho3]
 have s1 : (w0.alloc o1).heap.size = w0.heap.size + 1 := by simp
 have b1 := heap_new w0 o1
 have B1 : Below w0.heap.size w0 (w0.alloc o1) := (Below.refl _ _).alloc (Nat.le_refl _) _
 generalize w0.alloc o1 = w1 at *
 have s2 : (w1.alloc o2).heap.size = w1.heap.size + 1 := by simp
 have b2 := heap_new w1 o2
 have B2 : Below w1.heap.size w1 (w1.alloc o2) := (Below.refl _ _).alloc (Nat.le_refl _) _
 generalize w1.alloc o2 = w2 at *
 have s3 : (w2.alloc o3).heap.size = w2.heap.size + 1 := by simp
 have b3 := heap_new w2 o3
 have B3 : Below w2.heap.size w2 (w2.alloc o3) := (Below.refl _ _).alloc (Nat.le_refl _) _
 generalize w2.alloc o3 = W at *
 obtain ⟨ga, h5⟩ : ∃ x, x = w0.heap.size := ⟨_, rfl⟩
 obtain ⟨gb, h6⟩ : ∃ x, x = w0.heap.size + 1 := ⟨_, rfl⟩
 obtain ⟨gc, h7⟩ : ∃ x, x = w0.heap.size + 1 + 1 := ⟨_, rfl⟩
 have d5 : W.heap[ga]? = some o1 := (B3.block ga (by omega)).trans ((B2.block ga (by omega)).trans (by rw [h5]; exact b1))
 have d6 : W.heap[gb]? = some o2 := (B3.block gb (by omega)).trans (by rw [h6, ← s1]; exact b2)
 have d7 : W.heap[gc]? = some o3 := by rw [h7, ← s1, ← s2]; exact b3
 rw [ho1] at d5
 rw [ho2] at d6
 rw [ho3] at d7
 have hgc : gc < W.heap.size := by omega
 have HXC : Hid (∀ w', Below W.heap.size W w' → w'.cell? ⟨gc, 0, none⟩ = some (.slice xa pn xc) ∧ w'.cell? ⟨gc, 1, none⟩ = some (.slice ba bn bc) ∧ w'.cell? ⟨gc, 2, none⟩ = some (.slice sa sn sc) ∧ w'.cell? ⟨gc, 3, none⟩ = some (.slice oa on oc)) := fun w' hb => ⟨(hb.cell (p := ⟨gc, 0, none⟩) hgc).trans ((cell_of_row _ _ 0 _ _ (0, 0) d7).trans rfl), (hb.cell (p := ⟨gc, 1, none⟩) hgc).trans ((cell_of_row _ _ 1 _ _ (0, 0) d7).trans rfl), (hb.cell (p := ⟨gc, 2, none⟩) hgc).trans ((cell_of_row _ _ 2 _ _ (0, 0) d7).trans rfl), (hb.cell (p := ⟨gc, 3, none⟩) hgc).trans ((cell_of_row _ _ 3 _ _ (0, 0) d7).trans rfl)⟩
 have HXA : Hid (BoxAt W ga SA A) := ⟨by omega, (cell_of_row _ _ 0 _ _ (0, 0) d5).trans rfl, (cell_of_row _ _ 1 _ _ (0, 0) d5).trans rfl, (cell_of_row _ _ 2 _ _ (0, 0) d5).trans rfl, (cell_of_row _ _ 3 _ _ (0, 0) d5).trans rfl⟩
 have HXB : Hid (BoxAt W gb SB B) := ⟨by omega, (cell_of_row _ _ 0 _ _ (0, 0) d6).trans rfl, (cell_of_row _ _ 1 _ _ (0, 0) d6).trans rfl, (cell_of_row _ _ 2 _ _ (0, 0) d6).trans rfl, (cell_of_row _ _ 3 _ _ (0, 0) d6).trans rfl⟩
 have HBW0 : Hid (Below w0.heap.size w0 W) := B1.trans ((B2.trans (B3.mono (by omega))).mono (by omega))
 rw [← h7, ← h6, ← h5]
 have hws : w0.heap.size ≤ W.heap.size := HBW0.out.size
 clear b1 b2 b3 B1 B2 B3 s1 s2 s3 h5 h6 h7 d5 d6 d7 ho1 ho2 ho3
 go_wp2_with fail
 obtain ⟨oz, hoz⟩ : ∃ o, o = Obj.cells #[.int .i64 1, .slice none 0 0, .slice none 0 0, .slice none 0 0] 30 (0, 0) := ⟨_, rfl⟩
 obtain ⟨on', hon⟩ : ∃ o, o = Obj.cells #[.slice none 0 0] 26 (0, 0) := ⟨_, rfl⟩
 rw [← hoz, ← hon]
 have t1 : (W.alloc oz).heap.size = W.heap.size + 1 := by simp
 have B1 : Below W.heap.size W (W.alloc oz) := (Below.refl _ _).alloc (Nat.le_refl _) _
 generalize W.alloc oz = k1 at *
 have t2 : (k1.alloc on').heap.size = k1.heap.size + 1 := by simp
 have n2 := heap_new k1 on'
 have B2 : Below k1.heap.size k1 (k1.alloc on') := (Below.refl _ _).alloc (Nat.le_refl _) _
 generalize k1.alloc on' = k2 at *
 have t3 : (k2.alloc on').heap.size = k2.heap.size + 1 := by simp
 have n3 := heap_new k2 on'
 have B3 : Below k2.heap.size k2 (k2.alloc on') := (Below.refl _ _).alloc (Nat.le_refl _) _
 generalize k2.alloc on' = k3 at *
 have t4 : (k3.alloc on').heap.size = k3.heap.size + 1 := by simp
 have n4 := heap_new k3 on'
 have B4 : Below k3.heap.size k3 (k3.alloc on') := (Below.refl _ _).alloc (Nat.le_refl _) _
 generalize k3.alloc on' = k4 at *
 have m2 : k4.heap[W.heap.size + 1]? = some on' := (B4.block _ (by omega)).trans ((B3.block _ (by omega)).trans (by rw [← t1]; exact n2))
 have m3 : k4.heap[W.heap.size + 1 + 1]? = some on' := (B4.block _ (by omega)).trans (by rw [← t1, ← t2]; exact n3)
 have m4 : k4.heap[W.heap.size + 1 + 1 + 1]? = some on' := by rw [← t1, ← t2, ← t3]; exact n4
 rw [hon] at m2 m3 m4
 have HONE := hidden (one_any k4 _ _ _ m2 m3 m4)
 have HQ2 : Hid (Below W.heap.size W k4) := B1.trans ((B2.trans ((B3.trans (B4.mono (by omega))).mono (by omega))).mono (by omega))
 clear t1 t2 t3 t4 n2 n3 n4 B1 B2 B3 B4 m2 m3 m4 hoz hon
 go_at_call 11
 refine HONE.out.mono ?_
 rintro e v3 ⟨rfl, hb3⟩
 have HQ3 : Hid (Below W.heap.size W v3) := HQ2.out.trans (hb3.mono HQ2.out.size)
 clear hb3 HONE
 have x0 := (HXA.out.to HXA.out.lt HQ3.out).c0
 have x1 := (HXA.out.to HXA.out.lt HQ3.out).c1
 have x2 := (HXA.out.to HXA.out.lt HQ3.out).c2
 have x3 := (HXA.out.to HXA.out.lt HQ3.out).c3
 have z0 := (HXB.out.to HXB.out.lt HQ3.out).c0
 have z1 := (HXB.out.to HXB.out.lt HQ3.out).c1
 have z2 := (HXB.out.to HXB.out.lt HQ3.out).c2
 have z3 := (HXB.out.to HXB.out.lt HQ3.out).c3
 have cc := HXC.out _ HQ3.out
 obtain ⟨cc0, cc1, cc2, cc3⟩ := cc
 go_wp2_with fail
 go_at_call 11
 refine (PH.out _ (HBW0.out.trans (HQ3.out.mono hws))).mono ?_
 rintro e v4 ⟨bx, rfl, hx, hb4⟩
 clear x0 x1 x2 x3 z0 z1 z2 z3
 clear cc0 cc1 cc2 cc3
 have HQ4 : Hid (Below W.heap.size W v4) := HQ3.out.trans (hb4.mono HQ3.out.size)
 have HX := hidden hx
 clear hb4 hx PH
 cases bx
 ·clear HX HSO GA0 GB0
  go_wp2
  go_ret
  exact ⟨rfl, HBW0.out.trans (HQ4.out.mono hws)⟩
 ·have hso := HSO.out (HX.out.1 rfl)
  have HEQ := hidden hso.1
  have GA := hidden (GA0.out hso.2.1)
  have GB := hidden (GB0.out hso.2.2)
  have HOB := hidden (HOB0.out hso.2.1)
  clear HX HSO GA0 GB0 HOB0 hso
  have K1 : Hid (∀ w', Below W.heap.size W w' → (fun w' => w'.cell? ⟨ga, 0, none⟩ = some (.int .i64 A.ins) ∧ w'.cell? ⟨ga, 1, none⟩ = some (.slice SA.a1 A.lats.length SA.c1) ∧ w'.cell? ⟨ga, 2, none⟩ = some (.slice SA.a2 A.ands.length SA.c2) ∧ w'.cell? ⟨ga, 3, none⟩ = some (.slice SA.a3 A.outs.length SA.c3) ∧ w'.cell? ⟨gb, 0, none⟩ = some (.int .i64 B.ins) ∧ w'.cell? ⟨gb, 1, none⟩ = some (.slice SB.a1 B.lats.length SB.c1) ∧ w'.cell? ⟨gb, 2, none⟩ = some (.slice SB.a2 B.ands.length SB.c2) ∧ w'.cell? ⟨gb, 3, none⟩ = some (.slice SB.a3 B.outs.length SB.c3)) w') := fun w' hb => by
   have ha := HXA.out.to HXA.out.lt hb
   have hb' := HXB.out.to HXB.out.lt hb
   exact ⟨ha.c0, ha.c1, ha.c2, ha.c3, hb'.c0, hb'.c1, hb'.c2, hb'.c3⟩
  go_upto_region 7 with fail
  refine wp_region_noPanic ?_
  refine wp_region_held_drew (S := (fun w' => w'.cell? ⟨ga, 0, none⟩ = some (.int .i64 A.ins) ∧ w'.cell? ⟨ga, 1, none⟩ = some (.slice SA.a1 A.lats.length SA.c1) ∧ w'.cell? ⟨ga, 2, none⟩ = some (.slice SA.a2 A.ands.length SA.c2) ∧ w'.cell? ⟨ga, 3, none⟩ = some (.slice SA.a3 A.outs.length SA.c3) ∧ w'.cell? ⟨gb, 0, none⟩ = some (.int .i64 B.ins) ∧ w'.cell? ⟨gb, 1, none⟩ = some (.slice SB.a1 B.lats.length SB.c1) ∧ w'.cell? ⟨gb, 2, none⟩ = some (.slice SB.a2 B.ands.length SB.c2) ∧ w'.cell? ⟨gb, 3, none⟩ = some (.slice SB.a3 B.outs.length SB.c3))) (by kernel_rfl) (by first | assumption | exact K1.out _ (Below.drew HQ4.out) | exact K1.out _ (by assumption)) (fun hHeld => ?_)
  refine tk 0 ?_
  refine tk 1 ?_
  refine tk 2 ?_
  refine tk 3 ?_
  refine tk 5 ?_
  refine tk 6 ?_
  refine wpAnyH_ready (rs := [4]) (by kernel_rfl) (by simp) ?_
  refine AllReadyH.cons (o := _) rfl (fun K hK => ?_) AllReadyH.nil
  (try simp only [gA, gB, gC])
  go_simp
  go_at_call 14
  refine (GA.out _ (HBW0.out.trans ((Below.drew HQ4.out).mono hws))).mono ?_
  rintro e v5 ⟨x5, ra, rfl, hro5, hrl5, hbs5, hbv5⟩
  obtain ⟨a5, c5, rfl, hr5, hn5⟩ := rows_of hro5 hbs5
  have hb5 : Below W.heap.size W v5 := (Below.drew HQ4.out).trans (hbv5.mono (Below.drew HQ4.out).size)
  have HR5 := hidden hr5
  have HL5 := hidden hrl5
  have HN5 := hidden hn5
  clear hro5 hrl5 hbs5 hbv5 hr5 hn5
  go_wp2_with fail
  refine hK.out _ _ (by first | assumption | exact K1.out _ (Below.drew HQ4.out) | exact K1.out _ (by assumption)) (fun hHeld1 => ?_)
  clear hK K
  try simp only [Act.put, sA, sB, sC]
  refine wpAnyH_ready (rs := [7]) (by kernel_rfl) (by simp) ?_
  refine AllReadyH.cons (o := _) rfl (fun K hK => ?_) AllReadyH.nil
  (try simp only [gA, gB, gC])
  go_simp
  go_at_call 14
  refine (GB.out _ (HBW0.out.trans (hb5.mono hws))).mono ?_
  rintro e v6 ⟨x6, rb, rfl, hro6, hrl6, hbs6, hbv6⟩
  obtain ⟨a6, c6, rfl, hr6, hn6⟩ := rows_of hro6 hbs6
  have hb6 : Below W.heap.size W v6 := hb5.trans (hbv6.mono hb5.size)
  have HR6 := hidden hr6
  have HL6 := hidden hrl6
  have HN6 := hidden hn6
  have HR5' := hidden (HR5.out.to hbv6)
  have SRC : Hid (Calls Try.prog 13 #[.slice a5 tn c5, .slice a6 tn c6] v6 fun e w' => e = .returned (.bool true) ∧ ∃ q, w' = v6.drewN q) := sameRows_any v6 a5 a6 c5 c6 ra rb tn HN5.out HN6.out HTB.out HR5' HR6 (show _ = _ by rw [HL5.out, HL6.out]; exact HEQ.out) (fun r hr => by
   have := run_each A _ _ r.l (by rw [← HL5.out]; exact List.mem_map.2 ⟨r, hr, rfl⟩)
   rw [this]
   exact HOB.out)
  clear hro6 hrl6 hbs6 hbv6 hr6 hn6
  go_wp2_with fail
  refine hK.out _ _ (by first | assumption | exact K1.out _ (Below.drew HQ4.out) | exact K1.out _ (by assumption)) (fun hHeld2 => ?_)
  clear hK K
  try simp only [Act.put, sA, sB, sC]
  refine wpAnyH_ready (rs := [8]) (by kernel_rfl) (by simp) ?_
  refine AllReadyH.cons (o := _) rfl (fun K hK => ?_) AllReadyH.nil
  (try simp only [gA, gB, gC])
  go_simp
  go_at_call 13
  refine SRC.out.mono ?_
  rintro e v7 ⟨rfl, nq, hv7⟩
  have hb7 : Below W.heap.size W v7 := by rw [hv7]; exact Below.drewN hb6 nq
  clear hv7
  go_wp2_with fail
  refine hK.out _ _ (by first | assumption | exact K1.out _ (Below.drew HQ4.out) | exact K1.out _ (by assumption)) (fun hHeld3 => ?_)
  clear hK K
  try simp only [Act.put, sA, sB, sC]
  refine tk 9 ?_
  refine tk 10 ?_
  refine wpAnyH_done (by kernel_rfl) ?_ _
  refine NoPanic.normal ?_
  go_wp2
  go_ret
  exact ⟨ret_bool rfl, HBW0.out.trans (hb7.mono hws)⟩
end Go.Proofs.Ytefjicdhccfieaa
