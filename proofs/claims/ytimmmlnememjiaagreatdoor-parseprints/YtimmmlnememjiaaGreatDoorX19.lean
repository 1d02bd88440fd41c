import Derived.Test.YtimmmlnememjiaaGreatDoorX
import Derived.Test.YtimmmlnememjiaaGreatDoorX15
import Derived.Test.YtimmmlnememjiaaGreatDoorX17
import Derived.Test.YtimmmlnememjiaaGreatDoorX18
set_option maxRecDepth 100000
set_option maxHeartbeats 16000000
namespace Go.Proofs.YtimmmlnememjiaaGreatDoor
open Go.RowKit
theorem port_any (br : Nat) (s : ByteArray) (c : Int) (m : Nat) (w : World) (h : Sx br s w c m) :
  Calls Tryz.prog 21 #[.pointer (some ⟨br, 0, none⟩)] w (PoPost br s c m w) := by
 have HX := hI h
 have hlt := h.lt
 clear h
 go_enter Tryz.func21, Tryz.ntmps21
 have HTO : Hid ((#[.string ⟨#[]⟩, .int .i64 0, .bool false, .bool false, .bool false, .int .i64 0, .int .i64 0, .int .i64 0, .int .i64 0, .int .u64 0, .string ⟨#[]⟩, .slice none 0 0, .int .i64 0, .int .i64 0, .int .i64 0, .int .i64 0, .int .u64 0, .string ⟨#[]⟩, .slice none 0 0] : Array Value).all (·.oneCell') = true) := arr_one rfl
 go_upto_region 2 with (refine wpList_store_mid rfl 62 (.tmp 3) (.tmp 4) rfl (w.heap.size + 1) 0 #[.string ⟨#[]⟩, .int .i64 0, .bool false, .bool false, .bool false, .int .i64 0, .int .i64 0, .int .i64 0, .int .i64 0, .int .u64 0, .string ⟨#[]⟩, .slice none 0 0, .int .i64 0, .int .i64 0, .int .i64 0, .int .i64 0, .int .u64 0, .string ⟨#[]⟩, .slice none 0 0] rfl rfl (there_new2 _ _ _ _ _ rfl) info62s HTO.out ?_)
 clear HTO
 generalize hW : (w.alloc (.cells _ 62)).alloc (.cells _ 62) = wa
 obtain ⟨hz, r0, r1, kW, sW⟩ := two_boxes hW
 have Ka := kW br
 have Xa := sW br s c m HX.out
 have za : w.heap.size + 2 = wa.heap.size := hz.symm
 obtain ⟨cR_a, LR_a⟩ : ∃ cs, Hid (Lb wa (w.heap.size) 19 62 cs) := ⟨_, ⟨r0, rfl, one_of rfl⟩⟩
 obtain ⟨cB_a, LB_a⟩ : ∃ cs, Hid (Lb wa (w.heap.size + 1) 19 62 cs) := ⟨_, ⟨r1, rfl, one_of rfl⟩⟩
 clear hW kW sW r0 r1 hz HX
 generalize hS : wa.setCells (w.heap.size + 1) 0 _ = w0
 replace hS : setFrom wa (w.heap.size + 1) 0 [.string ⟨#[]⟩, .int .i64 0, .bool false, .bool false, .bool false, .int .i64 0, .int .i64 0, .int .i64 0, .int .i64 0, .int .u64 0, .string ⟨#[]⟩, .slice none 0 0, .int .i64 0, .int .i64 0, .int .i64 0, .int .i64 0, .int .u64 0, .string ⟨#[]⟩, .slice none 0 0] = w0 := (setCells_from _ _ _ _).symm.trans hS
 obtain ⟨cB_0, bb, hh, ap, zz, oo, kk, xx⟩ := lb_set hS LB_a.out (by simp only [lnC, lnN]; omega) (one_list rfl)
 have z0 : wa.heap.size ≤ w0.heap.size := by omega
 have K0 : Hid (Kq br w w0) := kk br w Ka.out (by omega)
 have X0 : Hid (Sx br s w0 c m) := xx br s c m Xa.out (by omega)
 have LB_0 := hI bb
 have HB0_0 : Hid (Has cB_0 0 [.string ⟨#[]⟩, .int .i64 0, .bool false, .bool false, .bool false, .int .i64 0, .int .i64 0, .int .i64 0, .int .i64 0, .int .u64 0, .string ⟨#[]⟩, .slice none 0 0, .int .i64 0, .int .i64 0, .int .i64 0, .int .i64 0, .int .u64 0, .string ⟨#[]⟩, .slice none 0 0]) := hh
 clear LB_a Xa Ka
 have LR_0 := vE (oo _ (by omega)) LR_a
 clear LR_a
 clear hS bb hh ap zz oo kk xx
 have hsp := HB0_0.out
 clear HB0_0
 replace hsp : Has cB_0 0 ([.string ⟨#[]⟩] ++ [.int .i64 0, .bool false, .bool false, .bool false, .int .i64 0, .int .i64 0, .int .i64 0, .int .i64 0, .int .u64 0, .string ⟨#[]⟩, .slice none 0 0, .int .i64 0, .int .i64 0, .int .i64 0, .int .i64 0, .int .u64 0, .string ⟨#[]⟩, .slice none 0 0]) := hsp
 obtain ⟨h1, hsp⟩ := hsp.sub
 have HB0_0 := hI h1
 clear h1
 replace hsp : Has cB_0 1 ([.int .i64 0] ++ [.bool false, .bool false, .bool false, .int .i64 0, .int .i64 0, .int .i64 0, .int .i64 0, .int .u64 0, .string ⟨#[]⟩, .slice none 0 0, .int .i64 0, .int .i64 0, .int .i64 0, .int .i64 0, .int .u64 0, .string ⟨#[]⟩, .slice none 0 0]) := hsp
 obtain ⟨h1, hsp⟩ := hsp.sub
 have HB1_0 := hI h1
 clear h1
 replace hsp : Has cB_0 2 ([.bool false] ++ [.bool false, .bool false, .int .i64 0, .int .i64 0, .int .i64 0, .int .i64 0, .int .u64 0, .string ⟨#[]⟩, .slice none 0 0, .int .i64 0, .int .i64 0, .int .i64 0, .int .i64 0, .int .u64 0, .string ⟨#[]⟩, .slice none 0 0]) := hsp
 obtain ⟨h1, hsp⟩ := hsp.sub
 have HB2_0 := hI h1
 clear h1
 replace hsp : Has cB_0 3 ([.bool false] ++ [.bool false, .int .i64 0, .int .i64 0, .int .i64 0, .int .i64 0, .int .u64 0, .string ⟨#[]⟩, .slice none 0 0, .int .i64 0, .int .i64 0, .int .i64 0, .int .i64 0, .int .u64 0, .string ⟨#[]⟩, .slice none 0 0]) := hsp
 obtain ⟨h1, hsp⟩ := hsp.sub
 have HB3_0 := hI h1
 clear h1
 have HB4_0 : Hid (Has cB_0 4 [.bool false, .int .i64 0, .int .i64 0, .int .i64 0, .int .i64 0, .int .u64 0, .string ⟨#[]⟩, .slice none 0 0, .int .i64 0, .int .i64 0, .int .i64 0, .int .i64 0, .int .u64 0, .string ⟨#[]⟩, .slice none 0 0]) := hsp
 clear hsp
 go_wp2_with fail
 refine accept_alt X0.out _ ?_ ?_
 ·intro hc0 m1 w1 hm1 hk hx
  subst hc0
  have z1 : w0.heap.size ≤ w1.heap.size := hk.size
  have KK := hI hk
  have K1 : Hid (Kq br w w1) := K0.out.trans hk
  have X1 := hI hx
  clear hk hx X0 K0
  have LR_1 := vK KK LR_0 (by omega)
  have LB_1 := vK KK LB_0 (by omega)
  clear LR_0 LB_0
  clear KK
  obtain ⟨pcB2, pfB2⟩ := LB_1.out.cell HB2_0.out.head
  go_wp2_with fail
  generalize hS : w1.setCell ⟨w.heap.size + 1, 2, none⟩ _ = w2
  clear pcB2 pfB2
  replace hS : setFrom w1 (w.heap.size + 1) 2 [.bool true] = w2 := hS
  obtain ⟨cB_2, bb, hh, ap, zz, oo, kk, xx⟩ := lb_set hS LB_1.out (by simp only [lnC, lnN]; omega) (one_list rfl)
  have z2 : w1.heap.size ≤ w2.heap.size := by omega
  have K2 : Hid (Kq br w w2) := kk br w K1.out (by omega)
  have X2 : Hid (Sx br s w2 0 m1) := xx br s 0 m1 X1.out (by omega)
  have LB_2 := hI bb
  have HB0_2 := hI (ap 0 [.string ⟨#[]⟩] HB0_0.out (by simp only [lnC, lnN]; omega))
  have HB1_2 := hI (ap 1 [.int .i64 0] HB1_0.out (by simp only [lnC, lnN]; omega))
  have HB3_2 := hI (ap 3 [.bool false] HB3_0.out (by simp only [lnC, lnN]; omega))
  have HB4_2 := hI (ap 4 [.bool false, .int .i64 0, .int .i64 0, .int .i64 0, .int .i64 0, .int .u64 0, .string ⟨#[]⟩, .slice none 0 0, .int .i64 0, .int .i64 0, .int .i64 0, .int .i64 0, .int .u64 0, .string ⟨#[]⟩, .slice none 0 0] HB4_0.out (by simp only [lnC, lnN]; omega))
  have HB2_2 : Hid (Has cB_2 2 [.bool true]) := hh
  clear LB_1 X1 K1 HB0_0 HB1_0 HB2_0 HB3_0 HB4_0
  have LR_2 := vE (oo _ (by omega)) LR_1
  clear LR_1
  clear hS bb hh ap zz oo kk xx
  refine accept_alt X2.out _ ?_ ?_
  ·intro _ m3 w3 hm3 hk hx
   have z3 : w2.heap.size ≤ w3.heap.size := hk.size
   have KK := hI hk
   have K3 : Hid (Kq br w w3) := K2.out.trans hk
   have X3 := hI hx
   clear hk hx X2 K2
   have LR_3 := vK KK LR_2 (by omega)
   have LB_3 := vK KK LB_2 (by omega)
   clear LR_2 LB_2
   clear KK
   obtain ⟨pcB3, pfB3⟩ := LB_3.out.cell HB3_2.out.head
   go_wp2_with fail
   generalize hS : w3.setCell ⟨w.heap.size + 1, 3, none⟩ _ = w4
   clear pcB3 pfB3
   replace hS : setFrom w3 (w.heap.size + 1) 3 [.bool true] = w4 := hS
   obtain ⟨cB_4, bb, hh, ap, zz, oo, kk, xx⟩ := lb_set hS LB_3.out (by simp only [lnC, lnN]; omega) (one_list rfl)
   have z4 : w3.heap.size ≤ w4.heap.size := by omega
   have K4 : Hid (Kq br w w4) := kk br w K3.out (by omega)
   have X4 : Hid (Sx br s w4 0 m3) := xx br s 0 m3 X3.out (by omega)
   have LB_4 := hI bb
   have HB0_4 := hI (ap 0 [.string ⟨#[]⟩] HB0_2.out (by simp only [lnC, lnN]; omega))
   have HB1_4 := hI (ap 1 [.int .i64 0] HB1_2.out (by simp only [lnC, lnN]; omega))
   have HB4_4 := hI (ap 4 [.bool false, .int .i64 0, .int .i64 0, .int .i64 0, .int .i64 0, .int .u64 0, .string ⟨#[]⟩, .slice none 0 0, .int .i64 0, .int .i64 0, .int .i64 0, .int .i64 0, .int .u64 0, .string ⟨#[]⟩, .slice none 0 0] HB4_2.out (by simp only [lnC, lnN]; omega))
   have HB2_4 := hI (ap 2 [.bool true] HB2_2.out (by simp only [lnC, lnN]; omega))
   have HB3_4 : Hid (Has cB_4 3 [.bool true]) := hh
   clear LB_3 X3 K3 HB0_2 HB1_2 HB3_2 HB4_2 HB2_2
   have LR_4 := vE (oo _ (by omega)) LR_3
   clear LR_3
   clear hS bb hh ap zz oo kk xx
   have A0 : Hid (Adv 0 m 0 m3) := Adv.trans (⟨Nat.le_of_lt hm1, fun _ => ⟨rfl, hm1⟩⟩) (⟨Nat.le_of_lt hm3, fun _ => ⟨rfl, hm3⟩⟩)
   refine (span_any br s 0 m3 w4 X4.out).mono ?_
   rintro e w6 ⟨on6, k6x, a6x, op6x, wd6x, n6x, nm6x, sa6x, sl6x, sc6x, k6y, a6y, op6y, wd6y, n6y, nm6y, sa6y, sl6y, sc6y, rfl, hk, c6, m6, hx, hmm6, hcc6, hp⟩
   have z6 : w4.heap.size ≤ w6.heap.size := hk.size
   have KK := hI hk
   have K6 : Hid (Kq br w w6) := K4.out.trans hk
   have X6 := hI hx
   have P6_6 := hI (pr_born hp)
   clear hk hx hp
   have LR_6 := vK KK LR_4 (by omega)
   have LB_6 := vK KK LB_4 (by omega)
   clear LR_4 LB_4
   clear KK
   have HCC6 := hI hcc6
   clear hcc6
   have HTT : Hid (w6.there (w.heap.size + 1) 4 (#[.bool on6, .int .i64 k6x, .int .i64 a6x, .int .i64 op6x, .int .i64 wd6x, .int .u64 n6x, .string nm6x, .slice sa6x sl6x sc6x, .int .i64 k6y, .int .i64 a6y, .int .i64 op6y, .int .i64 wd6y, .int .u64 n6y, .string nm6y, .slice sa6y sl6y sc6y] : Array Value).size) := LB_6.out.there 4 15 (by decide)
   have HTI : Hid ((Tryz.prog.info? 60).map (·.size) = some (#[.bool on6, .int .i64 k6x, .int .i64 a6x, .int .i64 op6x, .int .i64 wd6x, .int .u64 n6x, .string nm6x, .slice sa6x sl6x sc6x, .int .i64 k6y, .int .i64 a6y, .int .i64 op6y, .int .i64 wd6y, .int .u64 n6y, .string nm6y, .slice sa6y sl6y sc6y] : Array Value).size) := info60s
   have HTO : Hid ((#[.bool on6, .int .i64 k6x, .int .i64 a6x, .int .i64 op6x, .int .i64 wd6x, .int .u64 n6x, .string nm6x, .slice sa6x sl6x sc6x, .int .i64 k6y, .int .i64 a6y, .int .i64 op6y, .int .i64 wd6y, .int .u64 n6y, .string nm6y, .slice sa6y sl6y sc6y] : Array Value).all (·.oneCell') = true) := arr_one rfl
   go_upto_region 7 with (refine wpList_store_mid rfl 60 (.tmp 17) (.tmp 16) rfl (w.heap.size + 1) 4 #[.bool on6, .int .i64 k6x, .int .i64 a6x, .int .i64 op6x, .int .i64 wd6x, .int .u64 n6x, .string nm6x, .slice sa6x sl6x sc6x, .int .i64 k6y, .int .i64 a6y, .int .i64 op6y, .int .i64 wd6y, .int .u64 n6y, .string nm6y, .slice sa6y sl6y sc6y] rfl rfl HTT.out HTI.out HTO.out ?_)
   generalize hS : w6.setCells (w.heap.size + 1) 4 _ = w7
   clear HTT HTI HTO
   replace hS : setFrom w6 (w.heap.size + 1) 4 [.bool on6, .int .i64 k6x, .int .i64 a6x, .int .i64 op6x, .int .i64 wd6x, .int .u64 n6x, .string nm6x, .slice sa6x sl6x sc6x, .int .i64 k6y, .int .i64 a6y, .int .i64 op6y, .int .i64 wd6y, .int .u64 n6y, .string nm6y, .slice sa6y sl6y sc6y] = w7 := (setCells_from _ _ _ _).symm.trans hS
   obtain ⟨cB_7, bb, hh, ap, zz, oo, kk, xx⟩ := lb_set hS LB_6.out (by simp only [lnC, lnN]; omega) (one_list rfl)
   have z7 : w6.heap.size ≤ w7.heap.size := by omega
   have K7 : Hid (Kq br w w7) := kk br w K6.out (by omega)
   have X7 : Hid (Sx br s w7 c6 m6) := xx br s c6 m6 X6.out (by omega)
   have LB_7 := hI bb
   have HB0_7 := hI (ap 0 [.string ⟨#[]⟩] HB0_4.out (by simp only [lnC, lnN]; omega))
   have HB1_7 := hI (ap 1 [.int .i64 0] HB1_4.out (by simp only [lnC, lnN]; omega))
   have HB2_7 := hI (ap 2 [.bool true] HB2_4.out (by simp only [lnC, lnN]; omega))
   have HB3_7 := hI (ap 3 [.bool true] HB3_4.out (by simp only [lnC, lnN]; omega))
   have HB4_7 : Hid (Has cB_7 4 [.bool on6, .int .i64 k6x, .int .i64 a6x, .int .i64 op6x, .int .i64 wd6x, .int .u64 n6x, .string nm6x, .slice sa6x sl6x sc6x, .int .i64 k6y, .int .i64 a6y, .int .i64 op6y, .int .i64 wd6y, .int .u64 n6y, .string nm6y, .slice sa6y sl6y sc6y]) := hh
   clear LB_6 X6 K6 HB0_4 HB1_4 HB4_4 HB2_4 HB3_4
   have LR_7 := vE (oo _ (by omega)) LR_6
   clear LR_6
   have P6_7 := hI (pr_to P6_6.out (fun k o hb h => (oo k (by omega)).trans h))
   clear P6_6
   clear hS bb hh ap zz oo kk xx
   have XS := X7.out
   obtain ⟨kt, wdt, nt, Tt, at9, qt, fat, hra, h'⟩ := XS
   obtain ⟨f0, f1, f2, f3, f4, f5, f6, f7, f8, fz⟩ := hra.all
   clear h' hra
   obtain ⟨pcB1, pfB1⟩ := LB_7.out.cell HB1_7.out.head
   go_wp2_with fail
   clear f0 f1 f2 f3 f4 f5 f6 f7 f8 fz
   generalize hS : w7.setCell ⟨w.heap.size + 1, 1, none⟩ _ = w8
   clear pcB1 pfB1
   replace hS : setFrom w7 (w.heap.size + 1) 1 [.int .i64 at9] = w8 := hS
   obtain ⟨cB_8, bb, hh, ap, zz, oo, kk, xx⟩ := lb_set hS LB_7.out (by simp only [lnC, lnN]; omega) (one_list rfl)
   have z8 : w7.heap.size ≤ w8.heap.size := by omega
   have K8 : Hid (Kq br w w8) := kk br w K7.out (by omega)
   have X8 : Hid (Sx br s w8 c6 m6) := xx br s c6 m6 X7.out (by omega)
   have LB_8 := hI bb
   have HB0_8 := hI (ap 0 [.string ⟨#[]⟩] HB0_7.out (by simp only [lnC, lnN]; omega))
   have HB2_8 := hI (ap 2 [.bool true] HB2_7.out (by simp only [lnC, lnN]; omega))
   have HB3_8 := hI (ap 3 [.bool true] HB3_7.out (by simp only [lnC, lnN]; omega))
   have HB4_8 := hI (ap 4 [.bool on6, .int .i64 k6x, .int .i64 a6x, .int .i64 op6x, .int .i64 wd6x, .int .u64 n6x, .string nm6x, .slice sa6x sl6x sc6x, .int .i64 k6y, .int .i64 a6y, .int .i64 op6y, .int .i64 wd6y, .int .u64 n6y, .string nm6y, .slice sa6y sl6y sc6y] HB4_7.out (by simp only [lnC, lnN]; omega))
   have HB1_8 : Hid (Has cB_8 1 [.int .i64 at9]) := hh
   clear LB_7 X7 K7 HB0_7 HB1_7 HB2_7 HB3_7 HB4_7
   have LR_8 := vE (oo _ (by omega)) LR_7
   clear LR_7
   have P6_8 := hI (pr_to P6_7.out (fun k o hb h => (oo k (by omega)).trans h))
   clear P6_7
   clear hS bb hh ap zz oo kk xx
   refine (name_any X8.out).mono ?_
   rintro e w9 ⟨nm9, rfl, hnm9, hk, c9, m9, hx, ha⟩
   have z9 : w8.heap.size ≤ w9.heap.size := hk.size
   have KK := hI hk
   have K9 : Hid (Kq br w w9) := K8.out.trans hk
   have X9 := hI hx
   have A9 := hI ha
   clear hk hx ha
   have LR_9 := vK KK LR_8 (by omega)
   have LB_9 := vK KK LB_8 (by omega)
   clear LR_8 LB_8
   have P6_9 := hI (pr_to P6_8.out (fun k o hb h => KK.out.get (by omega) h))
   clear P6_8
   clear KK
   obtain ⟨pcB0, pfB0⟩ := LB_9.out.cell HB0_8.out.head
   go_upto_region 9 with fail
   generalize hS : w9.setCell ⟨w.heap.size + 1, 0, none⟩ _ = w10
   clear pcB0 pfB0
   replace hS : setFrom w9 (w.heap.size + 1) 0 [.string nm9] = w10 := hS
   obtain ⟨cB_10, bb, hh, ap, zz, oo, kk, xx⟩ := lb_set hS LB_9.out (by simp only [lnC, lnN]; omega) (one_list rfl)
   have z10 : w9.heap.size ≤ w10.heap.size := by omega
   have K10 : Hid (Kq br w w10) := kk br w K9.out (by omega)
   have X10 : Hid (Sx br s w10 c9 m9) := xx br s c9 m9 X9.out (by omega)
   have LB_10 := hI bb
   have HB2_10 := hI (ap 2 [.bool true] HB2_8.out (by simp only [lnC, lnN]; omega))
   have HB3_10 := hI (ap 3 [.bool true] HB3_8.out (by simp only [lnC, lnN]; omega))
   have HB4_10 := hI (ap 4 [.bool on6, .int .i64 k6x, .int .i64 a6x, .int .i64 op6x, .int .i64 wd6x, .int .u64 n6x, .string nm6x, .slice sa6x sl6x sc6x, .int .i64 k6y, .int .i64 a6y, .int .i64 op6y, .int .i64 wd6y, .int .u64 n6y, .string nm6y, .slice sa6y sl6y sc6y] HB4_8.out (by simp only [lnC, lnN]; omega))
   have HB1_10 := hI (ap 1 [.int .i64 at9] HB1_8.out (by simp only [lnC, lnN]; omega))
   have HB0_10 : Hid (Has cB_10 0 [.string nm9]) := hh
   clear LB_9 X9 K9 HB0_8 HB2_8 HB3_8 HB4_8 HB1_8
   have LR_10 := vE (oo _ (by omega)) LR_9
   clear LR_9
   have P6_10 := hI (pr_to P6_9.out (fun k o hb h => (oo k (by omega)).trans h))
   clear P6_9
   clear hS bb hh ap zz oo kk xx
   have hcz : cB_10.size = 19 := LB_10.out.size
   go_wp2_with (first | (refine wpList_load_mid rfl 62 (.tmp 3) rfl (w.heap.size + 1) 0 rfl cB_10.toList _ LB_10.out.whole Tryz.underlying62 rfl (info62s.trans (congrArg some (by rw [Array.length_toList, hcz]))) ?_) | (refine wpList_store_mid rfl 62 (.tmp 2) (.tmp 27) rfl (w.heap.size) 0 cB_10 rfl rfl (LR_10.out.there 0 _ (by rw [hcz]; decide)) (info62s.trans (congrArg some hcz.symm)) LB_10.out.all ?_))
   generalize hS : w10.setCells (w.heap.size) 0 _ = w11
   replace hS : setFrom w10 (w.heap.size) 0 cB_10.toList = w11 := (setCells_from _ _ _ _).symm.trans hS
   obtain ⟨hr, zz, oo, kk, xx⟩ := lb_copy hS LR_10.out hcz
   have z11 : w10.heap.size ≤ w11.heap.size := by omega
   have K11 : Hid (Kq br w w11) := kk br w K10.out (by omega)
   have X11 : Hid (Sx br s w11 c9 m9) := xx br s c9 m9 X10.out (by omega)
   have LB_11 := vE (oo _ (by omega)) LB_10
   clear LB_10
   have P6_11 := hI (pr_to P6_10.out (fun k o hb h => (oo k (by omega)).trans h))
   clear P6_10
   refine bodyPost_ret (v := .agg cB_10) (results_cell_row (Tryz.results21) _ _ (w.heap.size) 62 cB_10 _ _ rfl hr Tryz.underlying62 rfl (info62s.trans (congrArg some hcz.symm))) rfl ?_
   refine ⟨_, rfl, hcz, LB_11.out.one, K11.out, c9, m9, X11.out, adv_ge A0.out (fun _ => rfl) hmm6 A9.out, fun hc => ?_⟩
   obtain ⟨hc6, hm9⟩ := A9.out.2 hc
   obtain ⟨_, hm0⟩ := A0.out.2 rfl
   have he := ((((HB0_10.out.app HB1_10.out).app HB2_10.out).app HB3_10.out).app HB4_10.out).eq (by rw [hcz]; rfl)
   obtain ⟨t, hp, hl⟩ := P6_11.out hc6
   refine ⟨nm9.data.toList, true, true, t, ⟨at9, [.bool on6, .int .i64 k6x, .int .i64 a6x, .int .i64 op6x, .int .i64 wd6x, .int .u64 n6x, .string nm6x, .slice sa6x sl6x sc6x, .int .i64 k6y, .int .i64 a6y, .int .i64 op6y, .int .i64 wd6y, .int .u64 n6y, .string nm6y, .slice sa6y sl6y sc6y], by rw [he, bs_of]; rfl, hp.mono (fun b hb => by show _ ≤ _; omega) (fun _ _ _ _ hu => hu)⟩, ?_⟩
   rw [len_of]
   omega
  obtain ⟨pcB3, pfB3⟩ := LB_2.out.cell HB3_2.out.head
  go_wp2_with fail
  generalize hS : w2.setCell ⟨w.heap.size + 1, 3, none⟩ _ = w4
  clear pcB3 pfB3
  replace hS : setFrom w2 (w.heap.size + 1) 3 [.bool false] = w4 := hS
  obtain ⟨cB_4, bb, hh, ap, zz, oo, kk, xx⟩ := lb_set hS LB_2.out (by simp only [lnC, lnN]; omega) (one_list rfl)
  have z4 : w2.heap.size ≤ w4.heap.size := by omega
  have K4 : Hid (Kq br w w4) := kk br w K2.out (by omega)
  have X4 : Hid (Sx br s w4 0 m1) := xx br s 0 m1 X2.out (by omega)
  have LB_4 := hI bb
  have HB0_4 := hI (ap 0 [.string ⟨#[]⟩] HB0_2.out (by simp only [lnC, lnN]; omega))
  have HB1_4 := hI (ap 1 [.int .i64 0] HB1_2.out (by simp only [lnC, lnN]; omega))
  have HB4_4 := hI (ap 4 [.bool false, .int .i64 0, .int .i64 0, .int .i64 0, .int .i64 0, .int .u64 0, .string ⟨#[]⟩, .slice none 0 0, .int .i64 0, .int .i64 0, .int .i64 0, .int .i64 0, .int .u64 0, .string ⟨#[]⟩, .slice none 0 0] HB4_2.out (by simp only [lnC, lnN]; omega))
  have HB2_4 := hI (ap 2 [.bool true] HB2_2.out (by simp only [lnC, lnN]; omega))
  have HB3_4 : Hid (Has cB_4 3 [.bool false]) := hh
  clear LB_2 X2 K2 HB0_2 HB1_2 HB3_2 HB4_2 HB2_2
  have LR_4 := vE (oo _ (by omega)) LR_2
  clear LR_2
  clear hS bb hh ap zz oo kk xx
  have A0 : Hid (Adv 0 m 0 m1) := ⟨Nat.le_of_lt hm1, fun _ => ⟨rfl, hm1⟩⟩
  refine (span_any br s 0 m1 w4 X4.out).mono ?_
  rintro e w6 ⟨on6, k6x, a6x, op6x, wd6x, n6x, nm6x, sa6x, sl6x, sc6x, k6y, a6y, op6y, wd6y, n6y, nm6y, sa6y, sl6y, sc6y, rfl, hk, c6, m6, hx, hmm6, hcc6, hp⟩
  have z6 : w4.heap.size ≤ w6.heap.size := hk.size
  have KK := hI hk
  have K6 : Hid (Kq br w w6) := K4.out.trans hk
  have X6 := hI hx
  have P6_6 := hI (pr_born hp)
  clear hk hx hp
  have LR_6 := vK KK LR_4 (by omega)
  have LB_6 := vK KK LB_4 (by omega)
  clear LR_4 LB_4
  clear KK
  have HCC6 := hI hcc6
  clear hcc6
  have HTT : Hid (w6.there (w.heap.size + 1) 4 (#[.bool on6, .int .i64 k6x, .int .i64 a6x, .int .i64 op6x, .int .i64 wd6x, .int .u64 n6x, .string nm6x, .slice sa6x sl6x sc6x, .int .i64 k6y, .int .i64 a6y, .int .i64 op6y, .int .i64 wd6y, .int .u64 n6y, .string nm6y, .slice sa6y sl6y sc6y] : Array Value).size) := LB_6.out.there 4 15 (by decide)
  have HTI : Hid ((Tryz.prog.info? 60).map (·.size) = some (#[.bool on6, .int .i64 k6x, .int .i64 a6x, .int .i64 op6x, .int .i64 wd6x, .int .u64 n6x, .string nm6x, .slice sa6x sl6x sc6x, .int .i64 k6y, .int .i64 a6y, .int .i64 op6y, .int .i64 wd6y, .int .u64 n6y, .string nm6y, .slice sa6y sl6y sc6y] : Array Value).size) := info60s
  have HTO : Hid ((#[.bool on6, .int .i64 k6x, .int .i64 a6x, .int .i64 op6x, .int .i64 wd6x, .int .u64 n6x, .string nm6x, .slice sa6x sl6x sc6x, .int .i64 k6y, .int .i64 a6y, .int .i64 op6y, .int .i64 wd6y, .int .u64 n6y, .string nm6y, .slice sa6y sl6y sc6y] : Array Value).all (·.oneCell') = true) := arr_one rfl
  go_upto_region 7 with (refine wpList_store_mid rfl 60 (.tmp 17) (.tmp 16) rfl (w.heap.size + 1) 4 #[.bool on6, .int .i64 k6x, .int .i64 a6x, .int .i64 op6x, .int .i64 wd6x, .int .u64 n6x, .string nm6x, .slice sa6x sl6x sc6x, .int .i64 k6y, .int .i64 a6y, .int .i64 op6y, .int .i64 wd6y, .int .u64 n6y, .string nm6y, .slice sa6y sl6y sc6y] rfl rfl HTT.out HTI.out HTO.out ?_)
  generalize hS : w6.setCells (w.heap.size + 1) 4 _ = w7
  clear HTT HTI HTO
  replace hS : setFrom w6 (w.heap.size + 1) 4 [.bool on6, .int .i64 k6x, .int .i64 a6x, .int .i64 op6x, .int .i64 wd6x, .int .u64 n6x, .string nm6x, .slice sa6x sl6x sc6x, .int .i64 k6y, .int .i64 a6y, .int .i64 op6y, .int .i64 wd6y, .int .u64 n6y, .string nm6y, .slice sa6y sl6y sc6y] = w7 := (setCells_from _ _ _ _).symm.trans hS
  obtain ⟨cB_7, bb, hh, ap, zz, oo, kk, xx⟩ := lb_set hS LB_6.out (by simp only [lnC, lnN]; omega) (one_list rfl)
  have z7 : w6.heap.size ≤ w7.heap.size := by omega
  have K7 : Hid (Kq br w w7) := kk br w K6.out (by omega)
  have X7 : Hid (Sx br s w7 c6 m6) := xx br s c6 m6 X6.out (by omega)
  have LB_7 := hI bb
  have HB0_7 := hI (ap 0 [.string ⟨#[]⟩] HB0_4.out (by simp only [lnC, lnN]; omega))
  have HB1_7 := hI (ap 1 [.int .i64 0] HB1_4.out (by simp only [lnC, lnN]; omega))
  have HB2_7 := hI (ap 2 [.bool true] HB2_4.out (by simp only [lnC, lnN]; omega))
  have HB3_7 := hI (ap 3 [.bool false] HB3_4.out (by simp only [lnC, lnN]; omega))
  have HB4_7 : Hid (Has cB_7 4 [.bool on6, .int .i64 k6x, .int .i64 a6x, .int .i64 op6x, .int .i64 wd6x, .int .u64 n6x, .string nm6x, .slice sa6x sl6x sc6x, .int .i64 k6y, .int .i64 a6y, .int .i64 op6y, .int .i64 wd6y, .int .u64 n6y, .string nm6y, .slice sa6y sl6y sc6y]) := hh
  clear LB_6 X6 K6 HB0_4 HB1_4 HB4_4 HB2_4 HB3_4
  have LR_7 := vE (oo _ (by omega)) LR_6
  clear LR_6
  have P6_7 := hI (pr_to P6_6.out (fun k o hb h => (oo k (by omega)).trans h))
  clear P6_6
  clear hS bb hh ap zz oo kk xx
  have XS := X7.out
  obtain ⟨kt, wdt, nt, Tt, at9, qt, fat, hra, h'⟩ := XS
  obtain ⟨f0, f1, f2, f3, f4, f5, f6, f7, f8, fz⟩ := hra.all
  clear h' hra
  obtain ⟨pcB1, pfB1⟩ := LB_7.out.cell HB1_7.out.head
  go_wp2_with fail
  clear f0 f1 f2 f3 f4 f5 f6 f7 f8 fz
  generalize hS : w7.setCell ⟨w.heap.size + 1, 1, none⟩ _ = w8
  clear pcB1 pfB1
  replace hS : setFrom w7 (w.heap.size + 1) 1 [.int .i64 at9] = w8 := hS
  obtain ⟨cB_8, bb, hh, ap, zz, oo, kk, xx⟩ := lb_set hS LB_7.out (by simp only [lnC, lnN]; omega) (one_list rfl)
  have z8 : w7.heap.size ≤ w8.heap.size := by omega
  have K8 : Hid (Kq br w w8) := kk br w K7.out (by omega)
  have X8 : Hid (Sx br s w8 c6 m6) := xx br s c6 m6 X7.out (by omega)
  have LB_8 := hI bb
  have HB0_8 := hI (ap 0 [.string ⟨#[]⟩] HB0_7.out (by simp only [lnC, lnN]; omega))
  have HB2_8 := hI (ap 2 [.bool true] HB2_7.out (by simp only [lnC, lnN]; omega))
  have HB3_8 := hI (ap 3 [.bool false] HB3_7.out (by simp only [lnC, lnN]; omega))
  have HB4_8 := hI (ap 4 [.bool on6, .int .i64 k6x, .int .i64 a6x, .int .i64 op6x, .int .i64 wd6x, .int .u64 n6x, .string nm6x, .slice sa6x sl6x sc6x, .int .i64 k6y, .int .i64 a6y, .int .i64 op6y, .int .i64 wd6y, .int .u64 n6y, .string nm6y, .slice sa6y sl6y sc6y] HB4_7.out (by simp only [lnC, lnN]; omega))
  have HB1_8 : Hid (Has cB_8 1 [.int .i64 at9]) := hh
  clear LB_7 X7 K7 HB0_7 HB1_7 HB2_7 HB3_7 HB4_7
  have LR_8 := vE (oo _ (by omega)) LR_7
  clear LR_7
  have P6_8 := hI (pr_to P6_7.out (fun k o hb h => (oo k (by omega)).trans h))
  clear P6_7
  clear hS bb hh ap zz oo kk xx
  refine (name_any X8.out).mono ?_
  rintro e w9 ⟨nm9, rfl, hnm9, hk, c9, m9, hx, ha⟩
  have z9 : w8.heap.size ≤ w9.heap.size := hk.size
  have KK := hI hk
  have K9 : Hid (Kq br w w9) := K8.out.trans hk
  have X9 := hI hx
  have A9 := hI ha
  clear hk hx ha
  have LR_9 := vK KK LR_8 (by omega)
  have LB_9 := vK KK LB_8 (by omega)
  clear LR_8 LB_8
  have P6_9 := hI (pr_to P6_8.out (fun k o hb h => KK.out.get (by omega) h))
  clear P6_8
  clear KK
  obtain ⟨pcB0, pfB0⟩ := LB_9.out.cell HB0_8.out.head
  go_upto_region 9 with fail
  generalize hS : w9.setCell ⟨w.heap.size + 1, 0, none⟩ _ = w10
  clear pcB0 pfB0
  replace hS : setFrom w9 (w.heap.size + 1) 0 [.string nm9] = w10 := hS
  obtain ⟨cB_10, bb, hh, ap, zz, oo, kk, xx⟩ := lb_set hS LB_9.out (by simp only [lnC, lnN]; omega) (one_list rfl)
  have z10 : w9.heap.size ≤ w10.heap.size := by omega
  have K10 : Hid (Kq br w w10) := kk br w K9.out (by omega)
  have X10 : Hid (Sx br s w10 c9 m9) := xx br s c9 m9 X9.out (by omega)
  have LB_10 := hI bb
  have HB2_10 := hI (ap 2 [.bool true] HB2_8.out (by simp only [lnC, lnN]; omega))
  have HB3_10 := hI (ap 3 [.bool false] HB3_8.out (by simp only [lnC, lnN]; omega))
  have HB4_10 := hI (ap 4 [.bool on6, .int .i64 k6x, .int .i64 a6x, .int .i64 op6x, .int .i64 wd6x, .int .u64 n6x, .string nm6x, .slice sa6x sl6x sc6x, .int .i64 k6y, .int .i64 a6y, .int .i64 op6y, .int .i64 wd6y, .int .u64 n6y, .string nm6y, .slice sa6y sl6y sc6y] HB4_8.out (by simp only [lnC, lnN]; omega))
  have HB1_10 := hI (ap 1 [.int .i64 at9] HB1_8.out (by simp only [lnC, lnN]; omega))
  have HB0_10 : Hid (Has cB_10 0 [.string nm9]) := hh
  clear LB_9 X9 K9 HB0_8 HB2_8 HB3_8 HB4_8 HB1_8
  have LR_10 := vE (oo _ (by omega)) LR_9
  clear LR_9
  have P6_10 := hI (pr_to P6_9.out (fun k o hb h => (oo k (by omega)).trans h))
  clear P6_9
  clear hS bb hh ap zz oo kk xx
  have hcz : cB_10.size = 19 := LB_10.out.size
  go_wp2_with (first | (refine wpList_load_mid rfl 62 (.tmp 3) rfl (w.heap.size + 1) 0 rfl cB_10.toList _ LB_10.out.whole Tryz.underlying62 rfl (info62s.trans (congrArg some (by rw [Array.length_toList, hcz]))) ?_) | (refine wpList_store_mid rfl 62 (.tmp 2) (.tmp 27) rfl (w.heap.size) 0 cB_10 rfl rfl (LR_10.out.there 0 _ (by rw [hcz]; decide)) (info62s.trans (congrArg some hcz.symm)) LB_10.out.all ?_))
  generalize hS : w10.setCells (w.heap.size) 0 _ = w11
  replace hS : setFrom w10 (w.heap.size) 0 cB_10.toList = w11 := (setCells_from _ _ _ _).symm.trans hS
  obtain ⟨hr, zz, oo, kk, xx⟩ := lb_copy hS LR_10.out hcz
  have z11 : w10.heap.size ≤ w11.heap.size := by omega
  have K11 : Hid (Kq br w w11) := kk br w K10.out (by omega)
  have X11 : Hid (Sx br s w11 c9 m9) := xx br s c9 m9 X10.out (by omega)
  have LB_11 := vE (oo _ (by omega)) LB_10
  clear LB_10
  have P6_11 := hI (pr_to P6_10.out (fun k o hb h => (oo k (by omega)).trans h))
  clear P6_10
  refine bodyPost_ret (v := .agg cB_10) (results_cell_row (Tryz.results21) _ _ (w.heap.size) 62 cB_10 _ _ rfl hr Tryz.underlying62 rfl (info62s.trans (congrArg some hcz.symm))) rfl ?_
  refine ⟨_, rfl, hcz, LB_11.out.one, K11.out, c9, m9, X11.out, adv_ge A0.out (fun _ => rfl) hmm6 A9.out, fun hc => ?_⟩
  obtain ⟨hc6, hm9⟩ := A9.out.2 hc
  obtain ⟨_, hm0⟩ := A0.out.2 rfl
  have he := ((((HB0_10.out.app HB1_10.out).app HB2_10.out).app HB3_10.out).app HB4_10.out).eq (by rw [hcz]; rfl)
  obtain ⟨t, hp, hl⟩ := P6_11.out hc6
  refine ⟨nm9.data.toList, true, false, t, ⟨at9, [.bool on6, .int .i64 k6x, .int .i64 a6x, .int .i64 op6x, .int .i64 wd6x, .int .u64 n6x, .string nm6x, .slice sa6x sl6x sc6x, .int .i64 k6y, .int .i64 a6y, .int .i64 op6y, .int .i64 wd6y, .int .u64 n6y, .string nm6y, .slice sa6y sl6y sc6y], by rw [he, bs_of]; rfl, hp.mono (fun b hb => by show _ ≤ _; omega) (fun _ _ _ _ hu => hu)⟩, ?_⟩
  rw [len_of]
  omega
 obtain ⟨pcB2, pfB2⟩ := LB_0.out.cell HB2_0.out.head
 go_wp2_with fail
 generalize hS : w0.setCell ⟨w.heap.size + 1, 2, none⟩ _ = w2
 clear pcB2 pfB2
 replace hS : setFrom w0 (w.heap.size + 1) 2 [.bool false] = w2 := hS
 obtain ⟨cB_2, bb, hh, ap, zz, oo, kk, xx⟩ := lb_set hS LB_0.out (by simp only [lnC, lnN]; omega) (one_list rfl)
 have z2 : w0.heap.size ≤ w2.heap.size := by omega
 have K2 : Hid (Kq br w w2) := kk br w K0.out (by omega)
 have X2 : Hid (Sx br s w2 c m) := xx br s c m X0.out (by omega)
 have LB_2 := hI bb
 have HB0_2 := hI (ap 0 [.string ⟨#[]⟩] HB0_0.out (by simp only [lnC, lnN]; omega))
 have HB1_2 := hI (ap 1 [.int .i64 0] HB1_0.out (by simp only [lnC, lnN]; omega))
 have HB3_2 := hI (ap 3 [.bool false] HB3_0.out (by simp only [lnC, lnN]; omega))
 have HB4_2 := hI (ap 4 [.bool false, .int .i64 0, .int .i64 0, .int .i64 0, .int .i64 0, .int .u64 0, .string ⟨#[]⟩, .slice none 0 0, .int .i64 0, .int .i64 0, .int .i64 0, .int .i64 0, .int .u64 0, .string ⟨#[]⟩, .slice none 0 0] HB4_0.out (by simp only [lnC, lnN]; omega))
 have HB2_2 : Hid (Has cB_2 2 [.bool false]) := hh
 clear LB_0 X0 K0 HB0_0 HB1_0 HB2_0 HB3_0 HB4_0
 have LR_2 := vE (oo _ (by omega)) LR_0
 clear LR_0
 clear hS bb hh ap zz oo kk xx
 refine (must_any X2.out _).mono ?_
 rintro e w3 ⟨rfl, hk, c3, m3, hx, ha⟩
 have z3 : w2.heap.size ≤ w3.heap.size := hk.size
 have KK := hI hk
 have K3 : Hid (Kq br w w3) := K2.out.trans hk
 have X3 := hI hx
 have A3 := hI ha
 clear hk hx ha
 have LR_3 := vK KK LR_2 (by omega)
 have LB_3 := vK KK LB_2 (by omega)
 clear LR_2 LB_2
 clear KK
 go_wp2_with fail
 have A0 : Hid (Adv c m c3 m3) := A3.out
 refine (span_any br s c3 m3 w3 X3.out).mono ?_
 rintro e w6 ⟨on6, k6x, a6x, op6x, wd6x, n6x, nm6x, sa6x, sl6x, sc6x, k6y, a6y, op6y, wd6y, n6y, nm6y, sa6y, sl6y, sc6y, rfl, hk, c6, m6, hx, hmm6, hcc6, hp⟩
 have z6 : w3.heap.size ≤ w6.heap.size := hk.size
 have KK := hI hk
 have K6 : Hid (Kq br w w6) := K3.out.trans hk
 have X6 := hI hx
 have P6_6 := hI (pr_born hp)
 clear hk hx hp
 have LR_6 := vK KK LR_3 (by omega)
 have LB_6 := vK KK LB_3 (by omega)
 clear LR_3 LB_3
 clear KK
 have HCC6 := hI hcc6
 clear hcc6
 have HTT : Hid (w6.there (w.heap.size + 1) 4 (#[.bool on6, .int .i64 k6x, .int .i64 a6x, .int .i64 op6x, .int .i64 wd6x, .int .u64 n6x, .string nm6x, .slice sa6x sl6x sc6x, .int .i64 k6y, .int .i64 a6y, .int .i64 op6y, .int .i64 wd6y, .int .u64 n6y, .string nm6y, .slice sa6y sl6y sc6y] : Array Value).size) := LB_6.out.there 4 15 (by decide)
 have HTI : Hid ((Tryz.prog.info? 60).map (·.size) = some (#[.bool on6, .int .i64 k6x, .int .i64 a6x, .int .i64 op6x, .int .i64 wd6x, .int .u64 n6x, .string nm6x, .slice sa6x sl6x sc6x, .int .i64 k6y, .int .i64 a6y, .int .i64 op6y, .int .i64 wd6y, .int .u64 n6y, .string nm6y, .slice sa6y sl6y sc6y] : Array Value).size) := info60s
 have HTO : Hid ((#[.bool on6, .int .i64 k6x, .int .i64 a6x, .int .i64 op6x, .int .i64 wd6x, .int .u64 n6x, .string nm6x, .slice sa6x sl6x sc6x, .int .i64 k6y, .int .i64 a6y, .int .i64 op6y, .int .i64 wd6y, .int .u64 n6y, .string nm6y, .slice sa6y sl6y sc6y] : Array Value).all (·.oneCell') = true) := arr_one rfl
 go_upto_region 7 with (refine wpList_store_mid rfl 60 (.tmp 17) (.tmp 16) rfl (w.heap.size + 1) 4 #[.bool on6, .int .i64 k6x, .int .i64 a6x, .int .i64 op6x, .int .i64 wd6x, .int .u64 n6x, .string nm6x, .slice sa6x sl6x sc6x, .int .i64 k6y, .int .i64 a6y, .int .i64 op6y, .int .i64 wd6y, .int .u64 n6y, .string nm6y, .slice sa6y sl6y sc6y] rfl rfl HTT.out HTI.out HTO.out ?_)
 generalize hS : w6.setCells (w.heap.size + 1) 4 _ = w7
 clear HTT HTI HTO
 replace hS : setFrom w6 (w.heap.size + 1) 4 [.bool on6, .int .i64 k6x, .int .i64 a6x, .int .i64 op6x, .int .i64 wd6x, .int .u64 n6x, .string nm6x, .slice sa6x sl6x sc6x, .int .i64 k6y, .int .i64 a6y, .int .i64 op6y, .int .i64 wd6y, .int .u64 n6y, .string nm6y, .slice sa6y sl6y sc6y] = w7 := (setCells_from _ _ _ _).symm.trans hS
 obtain ⟨cB_7, bb, hh, ap, zz, oo, kk, xx⟩ := lb_set hS LB_6.out (by simp only [lnC, lnN]; omega) (one_list rfl)
 have z7 : w6.heap.size ≤ w7.heap.size := by omega
 have K7 : Hid (Kq br w w7) := kk br w K6.out (by omega)
 have X7 : Hid (Sx br s w7 c6 m6) := xx br s c6 m6 X6.out (by omega)
 have LB_7 := hI bb
 have HB0_7 := hI (ap 0 [.string ⟨#[]⟩] HB0_2.out (by simp only [lnC, lnN]; omega))
 have HB1_7 := hI (ap 1 [.int .i64 0] HB1_2.out (by simp only [lnC, lnN]; omega))
 have HB3_7 := hI (ap 3 [.bool false] HB3_2.out (by simp only [lnC, lnN]; omega))
 have HB2_7 := hI (ap 2 [.bool false] HB2_2.out (by simp only [lnC, lnN]; omega))
 have HB4_7 : Hid (Has cB_7 4 [.bool on6, .int .i64 k6x, .int .i64 a6x, .int .i64 op6x, .int .i64 wd6x, .int .u64 n6x, .string nm6x, .slice sa6x sl6x sc6x, .int .i64 k6y, .int .i64 a6y, .int .i64 op6y, .int .i64 wd6y, .int .u64 n6y, .string nm6y, .slice sa6y sl6y sc6y]) := hh
 clear LB_6 X6 K6 HB0_2 HB1_2 HB3_2 HB4_2 HB2_2
 have LR_7 := vE (oo _ (by omega)) LR_6
 clear LR_6
 have P6_7 := hI (pr_to P6_6.out (fun k o hb h => (oo k (by omega)).trans h))
 clear P6_6
 clear hS bb hh ap zz oo kk xx
 have XS := X7.out
 obtain ⟨kt, wdt, nt, Tt, at9, qt, fat, hra, h'⟩ := XS
 obtain ⟨f0, f1, f2, f3, f4, f5, f6, f7, f8, fz⟩ := hra.all
 clear h' hra
 obtain ⟨pcB1, pfB1⟩ := LB_7.out.cell HB1_7.out.head
 go_wp2_with fail
 clear f0 f1 f2 f3 f4 f5 f6 f7 f8 fz
 generalize hS : w7.setCell ⟨w.heap.size + 1, 1, none⟩ _ = w8
 clear pcB1 pfB1
 replace hS : setFrom w7 (w.heap.size + 1) 1 [.int .i64 at9] = w8 := hS
 obtain ⟨cB_8, bb, hh, ap, zz, oo, kk, xx⟩ := lb_set hS LB_7.out (by simp only [lnC, lnN]; omega) (one_list rfl)
 have z8 : w7.heap.size ≤ w8.heap.size := by omega
 have K8 : Hid (Kq br w w8) := kk br w K7.out (by omega)
 have X8 : Hid (Sx br s w8 c6 m6) := xx br s c6 m6 X7.out (by omega)
 have LB_8 := hI bb
 have HB0_8 := hI (ap 0 [.string ⟨#[]⟩] HB0_7.out (by simp only [lnC, lnN]; omega))
 have HB3_8 := hI (ap 3 [.bool false] HB3_7.out (by simp only [lnC, lnN]; omega))
 have HB2_8 := hI (ap 2 [.bool false] HB2_7.out (by simp only [lnC, lnN]; omega))
 have HB4_8 := hI (ap 4 [.bool on6, .int .i64 k6x, .int .i64 a6x, .int .i64 op6x, .int .i64 wd6x, .int .u64 n6x, .string nm6x, .slice sa6x sl6x sc6x, .int .i64 k6y, .int .i64 a6y, .int .i64 op6y, .int .i64 wd6y, .int .u64 n6y, .string nm6y, .slice sa6y sl6y sc6y] HB4_7.out (by simp only [lnC, lnN]; omega))
 have HB1_8 : Hid (Has cB_8 1 [.int .i64 at9]) := hh
 clear LB_7 X7 K7 HB0_7 HB1_7 HB3_7 HB2_7 HB4_7
 have LR_8 := vE (oo _ (by omega)) LR_7
 clear LR_7
 have P6_8 := hI (pr_to P6_7.out (fun k o hb h => (oo k (by omega)).trans h))
 clear P6_7
 clear hS bb hh ap zz oo kk xx
 refine (name_any X8.out).mono ?_
 rintro e w9 ⟨nm9, rfl, hnm9, hk, c9, m9, hx, ha⟩
 have z9 : w8.heap.size ≤ w9.heap.size := hk.size
 have KK := hI hk
 have K9 : Hid (Kq br w w9) := K8.out.trans hk
 have X9 := hI hx
 have A9 := hI ha
 clear hk hx ha
 have LR_9 := vK KK LR_8 (by omega)
 have LB_9 := vK KK LB_8 (by omega)
 clear LR_8 LB_8
 have P6_9 := hI (pr_to P6_8.out (fun k o hb h => KK.out.get (by omega) h))
 clear P6_8
 clear KK
 obtain ⟨pcB0, pfB0⟩ := LB_9.out.cell HB0_8.out.head
 go_upto_region 9 with fail
 generalize hS : w9.setCell ⟨w.heap.size + 1, 0, none⟩ _ = w10
 clear pcB0 pfB0
 replace hS : setFrom w9 (w.heap.size + 1) 0 [.string nm9] = w10 := hS
 obtain ⟨cB_10, bb, hh, ap, zz, oo, kk, xx⟩ := lb_set hS LB_9.out (by simp only [lnC, lnN]; omega) (one_list rfl)
 have z10 : w9.heap.size ≤ w10.heap.size := by omega
 have K10 : Hid (Kq br w w10) := kk br w K9.out (by omega)
 have X10 : Hid (Sx br s w10 c9 m9) := xx br s c9 m9 X9.out (by omega)
 have LB_10 := hI bb
 have HB3_10 := hI (ap 3 [.bool false] HB3_8.out (by simp only [lnC, lnN]; omega))
 have HB2_10 := hI (ap 2 [.bool false] HB2_8.out (by simp only [lnC, lnN]; omega))
 have HB4_10 := hI (ap 4 [.bool on6, .int .i64 k6x, .int .i64 a6x, .int .i64 op6x, .int .i64 wd6x, .int .u64 n6x, .string nm6x, .slice sa6x sl6x sc6x, .int .i64 k6y, .int .i64 a6y, .int .i64 op6y, .int .i64 wd6y, .int .u64 n6y, .string nm6y, .slice sa6y sl6y sc6y] HB4_8.out (by simp only [lnC, lnN]; omega))
 have HB1_10 := hI (ap 1 [.int .i64 at9] HB1_8.out (by simp only [lnC, lnN]; omega))
 have HB0_10 : Hid (Has cB_10 0 [.string nm9]) := hh
 clear LB_9 X9 K9 HB0_8 HB3_8 HB2_8 HB4_8 HB1_8
 have LR_10 := vE (oo _ (by omega)) LR_9
 clear LR_9
 have P6_10 := hI (pr_to P6_9.out (fun k o hb h => (oo k (by omega)).trans h))
 clear P6_9
 clear hS bb hh ap zz oo kk xx
 have hcz : cB_10.size = 19 := LB_10.out.size
 go_wp2_with (first | (refine wpList_load_mid rfl 62 (.tmp 3) rfl (w.heap.size + 1) 0 rfl cB_10.toList _ LB_10.out.whole Tryz.underlying62 rfl (info62s.trans (congrArg some (by rw [Array.length_toList, hcz]))) ?_) | (refine wpList_store_mid rfl 62 (.tmp 2) (.tmp 27) rfl (w.heap.size) 0 cB_10 rfl rfl (LR_10.out.there 0 _ (by rw [hcz]; decide)) (info62s.trans (congrArg some hcz.symm)) LB_10.out.all ?_))
 generalize hS : w10.setCells (w.heap.size) 0 _ = w11
 replace hS : setFrom w10 (w.heap.size) 0 cB_10.toList = w11 := (setCells_from _ _ _ _).symm.trans hS
 obtain ⟨hr, zz, oo, kk, xx⟩ := lb_copy hS LR_10.out hcz
 have z11 : w10.heap.size ≤ w11.heap.size := by omega
 have K11 : Hid (Kq br w w11) := kk br w K10.out (by omega)
 have X11 : Hid (Sx br s w11 c9 m9) := xx br s c9 m9 X10.out (by omega)
 have LB_11 := vE (oo _ (by omega)) LB_10
 clear LB_10
 have P6_11 := hI (pr_to P6_10.out (fun k o hb h => (oo k (by omega)).trans h))
 clear P6_10
 refine bodyPost_ret (v := .agg cB_10) (results_cell_row (Tryz.results21) _ _ (w.heap.size) 62 cB_10 _ _ rfl hr Tryz.underlying62 rfl (info62s.trans (congrArg some hcz.symm))) rfl ?_
 refine ⟨_, rfl, hcz, LB_11.out.one, K11.out, c9, m9, X11.out, adv_ge A0.out HCC6.out hmm6 A9.out, fun hc => ?_⟩
 obtain ⟨hc6, hm9⟩ := A9.out.2 hc
 obtain ⟨_, hm0⟩ := A0.out.2 (HCC6.out hc6)
 have he := ((((HB0_10.out.app HB1_10.out).app HB2_10.out).app HB3_10.out).app HB4_10.out).eq (by rw [hcz]; rfl)
 obtain ⟨t, hp, hl⟩ := P6_11.out hc6
 refine ⟨nm9.data.toList, false, false, t, ⟨at9, [.bool on6, .int .i64 k6x, .int .i64 a6x, .int .i64 op6x, .int .i64 wd6x, .int .u64 n6x, .string nm6x, .slice sa6x sl6x sc6x, .int .i64 k6y, .int .i64 a6y, .int .i64 op6y, .int .i64 wd6y, .int .u64 n6y, .string nm6y, .slice sa6y sl6y sc6y], by rw [he, bs_of]; rfl, hp.mono (fun b hb => by show _ ≤ _; omega) (fun _ _ _ _ hu => hu)⟩, ?_⟩
 rw [len_of]
 omega
theorem all_stmt (M : Nat) : CStmt M ∧ CCases M := by
 induction M using Nat.strongRecOn with
 | _ M ih => exact ⟨stmt_any M (fun M' h => (ih M' h).1) (fun M' h => (ih M' h).2), cases_any M (fun M' h => (ih M' h).1)⟩
theorem stmt_read {br : Nat} {s : ByteArray} {c : Int} {m : Nat} {w : World} (h : Sx br s w c m) : Calls Tryz.prog 57 #[.pointer (some ⟨br, 0, none⟩)] w (StPost br s c m w) := (all_stmt _).1 br s c m w h (Nat.le_refl _)
def HasL (cs : List Value) (o : Nat) (vs : List Value) : Prop := ∀ j v, vs[j]? = some v → cs[o + j]? = some v
theorem Has.l {cs : Array Value} {o : Nat} {vs : List Value} (h : Has cs o vs) : HasL cs.toList o vs := fun j v hv => by
 rw [Array.getElem?_toList]; exact h j v hv
def Big (cs : List Value) : Prop := cs.length = 65 ∧ ∀ v ∈ cs, v.oneCell' = true
def hashTxt (ps : List (List UInt8)) : List UInt8 := if ps = [] then [] else [35, 40] ++ commaTxt ps ++ [41, 32]
def partTxt (lb its : List UInt8) : List UInt8 := [98, 101, 103, 105, 110, 32, 58, 32] ++ lb ++ [10] ++ its ++ [101, 110, 100]
def useTxt (md nm : List UInt8) (ps qs : List (List UInt8)) : List UInt8 := md ++ [32] ++ hashTxt ps ++ nm ++ [32, 40] ++ commaTxt qs ++ [41, 59, 10]
abbrev ItemD : Type := List Value × List UInt8
inductive PI (S : Nat → Prop) (w : World) : List Value → List UInt8 → Prop
 | wire (cs : List Value) (hb : Big cs) (nm : List UInt8) (rg : List Value) (tr : List UInt8) (h0 : HasL cs 0 [.int .i64 1]) (h2 : HasL cs 2 [.string (bs nm)]) (h4 : HasL cs 4 rg) (hr : PRg S w rg tr) (hg : HasL cs 34 [.bool false]) :
   PI S w cs ([119, 105, 114, 101, 32] ++ tr ++ nm ++ [59, 10])
 | reg (cs : List Value) (hb : Big cs) (nm : List UInt8) (rg : List Value) (tr : List UInt8) (gv : Bool) (k : Int) (vl : List Value) (te : List UInt8) (h0 : HasL cs 0 [.int .i64 2]) (h2 : HasL cs 2 [.string (bs nm)]) (h4 : HasL cs 4 rg) (hr : PRg S w rg tr)
   (hg : HasL cs 34 [.bool gv]) (hv : gv = true → HasL cs 35 vl ∧ PE S w k vl te) :
   PI S w cs ([114, 101, 103, 32] ++ tr ++ nm ++ (if gv then [32, 61, 32] ++ te else []) ++ [59, 10])
 | mem (cs : List Value) (hb : Big cs) (nm : List UInt8) (rg : List Value) (tr : List UInt8) (k1 k2 : Int) (c1 c2 : List Value) (t1 t2 : List UInt8) (h0 : HasL cs 0 [.int .i64 3]) (h2 : HasL cs 2 [.string (bs nm)]) (h4 : HasL cs 4 rg) (hr : PRg S w rg tr)
   (hw : HasL cs 19 (.bool true :: (c1 ++ c2))) (p1 : PE S w k1 c1 t1) (p2 : PE S w k2 c2 t2) :
   PI S w cs ([114, 101, 103, 32] ++ tr ++ nm ++ [32, 91] ++ t1 ++ [58] ++ t2 ++ [93, 59, 10])
 | param (cs : List Value) (hb : Big cs) (nm : List UInt8) (k : Int) (vl : List Value) (te : List UInt8) (h0 : HasL cs 0 [.int .i64 4]) (h2 : HasL cs 2 [.string (bs nm)]) (hv : HasL cs 35 vl) (p : PE S w k vl te) :
   PI S w cs ([108, 111, 99, 97, 108, 112, 97, 114, 97, 109, 32] ++ nm ++ [32, 61, 32] ++ te ++ [59, 10])
 | assign (cs : List Value) (hb : Big cs) (k1 k2 : Int) (tg vl : List Value) (tt te : List UInt8) (h0 : HasL cs 0 [.int .i64 5]) (ht : HasL cs 42 tg) (pt : PE S w k1 tg tt) (hv : HasL cs 35 vl) (p : PE S w k2 vl te) :
   PI S w cs ([97, 115, 115, 105, 103, 110, 32] ++ tt ++ [32, 61, 32] ++ te ++ [59, 10])
 | always (cs : List Value) (hb : Big cs) (ck : Bool) (bd : List Value) (tb : List UInt8) (h0 : HasL cs 0 [.int .i64 6]) (hc : HasL cs 49 [.bool ck]) (hd : HasL cs 50 bd) (p : PS S w bd tb) :
   PI S w cs ((if ck then [97, 108, 119, 97, 121, 115, 32, 64, 99, 108, 107, 32] else [97, 108, 119, 97, 121, 115, 32, 64, 42, 32]) ++ tb ++ [10])
 | use (cs : List Value) (hb : Big cs) (md nm : List UInt8) (vp vq : Value) (ps qs : List BindD) (h0 : HasL cs 0 [.int .i64 7]) (h2 : HasL cs 2 [.string (bs nm)]) (h3 : HasL cs 3 [.string (bs md)]) (hp : HasL cs 57 [vp]) (hq : HasL cs 58 [vq])
   (rp : RowOf S w 10 vp (ps.map (·.cs))) (pp : ∀ d ∈ ps, PB S w d) (rq : RowOf S w 10 vq (qs.map (·.cs))) (pq : ∀ d ∈ qs, PB S w d) :
   PI S w cs (useTxt md nm (ps.map bindTxt) (qs.map bindTxt))
 | loop (cs : List Value) (hb : Big cs) (nm lb : List UInt8) (vx vi : Value) (x y z : Ele) (its : List ItemD) (h0 : HasL cs 0 [.int .i64 8]) (h2 : HasL cs 2 [.string (bs nm)]) (hx : HasL cs 59 [vx]) (hlb : HasL cs 60 [.string (bs lb)]) (hi : HasL cs 61 [vi])
   (rx : RowOf S w 7 vx [x.2.1, y.2.1, z.2.1]) (px : PE S w x.1 x.2.1 x.2.2) (py : PE S w y.1 y.2.1 y.2.2) (pz : PE S w z.1 z.2.1 z.2.2) (ri : RowOf S w 65 vi (its.map (·.1))) (pi : ∀ (i : Nat) (d : ItemD), its[i]? = some d → PI S w d.1 d.2) :
   PI S w cs (loopTxt nm x.2.2 y.2.2 z.2.2 ++ partTxt lb (its.map (·.2)).flatten ++ [10])
 | cond (cs : List Value) (hb : Big cs) (lb : List UInt8) (vi : Value) (k : Int) (vl : List Value) (te : List UInt8) (its : List ItemD) (he : Bool) (le : List UInt8) (ve : Value) (els : List ItemD) (h0 : HasL cs 0 [.int .i64 9]) (hv : HasL cs 35 vl) (p : PE S w k vl te)
   (hlb : HasL cs 60 [.string (bs lb)]) (hi : HasL cs 61 [vi]) (ri : RowOf S w 65 vi (its.map (·.1))) (pi : ∀ (i : Nat) (d : ItemD), its[i]? = some d → PI S w d.1 d.2)
   (hh : HasL cs 62 [.bool he]) (hel : he = true → HasL cs 63 [.string (bs le)] ∧ HasL cs 64 [ve] ∧ RowOf S w 65 ve (els.map (·.1))) (pe : ∀ (i : Nat) (d : ItemD), he = true → els[i]? = some d → PI S w d.1 d.2) :
   PI S w cs ([105, 102, 32, 40] ++ te ++ [41, 32] ++ partTxt lb (its.map (·.2)).flatten ++ (if he then [32, 101, 108, 115, 101, 32] ++ partTxt le (els.map (·.2)).flatten else []) ++ [10])
theorem PI.big {S : Nat → Prop} {w : World} {cs : List Value} {t : List UInt8} (h : PI S w cs t) : Big cs := by
 cases h <;> assumption
theorem PB.mono {S S' : Nat → Prop} {w w' : World} (h1 : ∀ b, S b → S' b) (h2 : ∀ b o v, S b → w.cell? ⟨b, o, none⟩ = some v → w'.cell? ⟨b, o, none⟩ = some v) {d : BindD} (h : PB S w d) : PB S' w' d := elB.mono h1 h2 h
theorem PI.mono {S S' : Nat → Prop} {w w' : World} (h1 : ∀ b, S b → S' b) (h2 : ∀ b o v, S b → w.cell? ⟨b, o, none⟩ = some v → w'.cell? ⟨b, o, none⟩ = some v) {cs : List Value} {t : List UInt8} (h : PI S w cs t) : PI S' w' cs t := by
 induction h with
 | wire cs hb nm rg tr h0 hn h4 hr hg => exact PI.wire cs hb nm rg tr h0 hn h4 (hr.mono h1 h2) hg
 | reg cs hb nm rg tr gv k vl te h0 hn h4 hr hg hv => exact PI.reg cs hb nm rg tr gv k vl te h0 hn h4 (hr.mono h1 h2) hg (fun e => ⟨(hv e).1, (hv e).2.mono h1 h2⟩)
 | mem cs hb nm rg tr k1 k2 c1 c2 t1 t2 h0 hn h4 hr hw p1 p2 => exact PI.mem cs hb nm rg tr k1 k2 c1 c2 t1 t2 h0 hn h4 (hr.mono h1 h2) hw (p1.mono h1 h2) (p2.mono h1 h2)
 | param cs hb nm k vl te h0 hn hv p => exact PI.param cs hb nm k vl te h0 hn hv (p.mono h1 h2)
 | assign cs hb k1 k2 tg vl tt te h0 ht pt hv p => exact PI.assign cs hb k1 k2 tg vl tt te h0 ht (pt.mono h1 h2) hv (p.mono h1 h2)
 | always cs hb ck bd tb h0 hc hd p => exact PI.always cs hb ck bd tb h0 hc hd (p.mono h1 h2)
 | use cs hb md nm vp vq ps qs h0 hn hm hp hq rp pp rq pq => exact PI.use cs hb md nm vp vq ps qs h0 hn hm hp hq (rp.mono h1 h2) (fun d hd => (pp d hd).mono h1 h2) (rq.mono h1 h2) (fun d hd => (pq d hd).mono h1 h2)
 | loop cs hb nm lb vx vi x y z its h0 hn hx hlb hi rx px py pz ri pi ih => exact PI.loop cs hb nm lb vx vi x y z its h0 hn hx hlb hi (rx.mono h1 h2) (px.mono h1 h2) (py.mono h1 h2) (pz.mono h1 h2) (ri.mono h1 h2) ih
 | cond cs hb lb vi k vl te its he le ve els h0 hv p hlb hi ri pi hh hel pe ih ihe => exact PI.cond cs hb lb vi k vl te its he le ve els h0 hv (p.mono h1 h2) hlb hi (ri.mono h1 h2) ih hh (fun e => ⟨(hel e).1, (hel e).2.1, (hel e).2.2.mono h1 h2⟩) ihe
theorem PI.strong {S : Nat → Prop} {w : World} {cs : List Value} {t : List UInt8} (h : PI S w cs t) : PI (fun b => S b ∧ b < w.heap.size) w cs t := by
 induction h with
 | wire cs hb nm rg tr h0 hn h4 hr hg => exact PI.wire cs hb nm rg tr h0 hn h4 hr.strong hg
 | reg cs hb nm rg tr gv k vl te h0 hn h4 hr hg hv => exact PI.reg cs hb nm rg tr gv k vl te h0 hn h4 hr.strong hg (fun e => ⟨(hv e).1, (hv e).2.strong⟩)
 | mem cs hb nm rg tr k1 k2 c1 c2 t1 t2 h0 hn h4 hr hw p1 p2 => exact PI.mem cs hb nm rg tr k1 k2 c1 c2 t1 t2 h0 hn h4 hr.strong hw p1.strong p2.strong
 | param cs hb nm k vl te h0 hn hv p => exact PI.param cs hb nm k vl te h0 hn hv p.strong
 | assign cs hb k1 k2 tg vl tt te h0 ht pt hv p => exact PI.assign cs hb k1 k2 tg vl tt te h0 ht pt.strong hv p.strong
 | always cs hb ck bd tb h0 hc hd p => exact PI.always cs hb ck bd tb h0 hc hd p.strong
 | use cs hb md nm vp vq ps qs h0 hn hm hp hq rp pp rq pq => exact PI.use cs hb md nm vp vq ps qs h0 hn hm hp hq (rp.strong (by decide)) (fun d hd => elB.strong (pp d hd)) (rq.strong (by decide)) (fun d hd => elB.strong (pq d hd))
 | loop cs hb nm lb vx vi x y z its h0 hn hx hlb hi rx px py pz ri pi ih => exact PI.loop cs hb nm lb vx vi x y z its h0 hn hx hlb hi (rx.strong (by decide)) px.strong py.strong pz.strong (ri.strong (by decide)) ih
 | cond cs hb lb vi k vl te its he le ve els h0 hv p hlb hi ri pi hh hel pe ih ihe => exact PI.cond cs hb lb vi k vl te its he le ve els h0 hv p.strong hlb hi (ri.strong (by decide)) ih hh (fun e => ⟨(hel e).1, (hel e).2.1, (hel e).2.2.strong (by decide)⟩) ihe
def elI : Elt ItemD where
 T := 95
 sz := 65
 cells x := x.1
 P S w x := PI S w x.1 x.2
 pos := by decide
 mono h1 h2 h := PI.mono h1 h2 h
 strong h := PI.strong h
 len h := (PI.big h).1
theorem is_yes {br : Nat} {s : ByteArray} {w : World} {c : Int} {m : Nat} {Q : Ending → World → Prop} (h : Sx br s w c m) (t : ByteArray)
  (ht : c = 0 → ∀ (wd n : Int) (T : ByteArray), St br s w 0 m 3 wd n T → (T.toList == t.toList) = true → Q (.returned (.bool true)) w) (hf : Q (.returned (.bool false)) w) :
  Calls Tryz.prog 20 #[.pointer (some ⟨br, 0, none⟩), .string t] w Q := by
 obtain ⟨k, wd, n, T, a, q, fa, hr, h'⟩ := h
 refine (is_any br s k a wd T n q c fa t w hr).mono ?_
 rintro e w' ⟨rfl, rfl⟩
 cases hb : ((c == 0) && (k == 3) && (T.toList == t.toList)) with
 | false => exact hf
 | true =>
  simp only [Bool.and_eq_true] at hb
  have hc : c = 0 := eq_of_beq hb.1.1
  have hk : k = 3 := eq_of_beq hb.1.2
  subst hc; subst hk
  exact ht rfl wd n T ⟨a, q, fa, hr, h'⟩ hb.2
theorem accept_yes {br : Nat} {s : ByteArray} {w : World} {m : Nat} {wd n : Int} {T : ByteArray} (h : St br s w 0 m 3 wd n T) (t : ByteArray) (hT : (T.toList == t.toList) = true) :
  Calls Tryz.prog 18 #[.pointer (some ⟨br, 0, none⟩), .string t] w fun e w' => e = .returned (.bool true) ∧ Kq br w w' ∧ ∃ m', m' < m ∧ Sx br s w' 0 m' := by
 have H := hI h
 clear h
 have HT := hI hT
 clear hT
 go_enter Tryz.func18, Tryz.ntmps18
 go_wp2_with fail
 obtain ⟨a, q, fa, hr, h'⟩ := H.out
 have HR := hI hr
 clear hr h'
 refine (is_any br s 3 a wd T n q 0 fa t w HR.out).mono ?_
 rintro e w' ⟨rfl, rfl⟩
 rw [HT.out]
 go_wp2_with fail
 refine (step_st H.out (by decide) (by decide)).mono ?_
 rintro e w1 ⟨rfl, hk1, m', hm', hx⟩
 have HX := hI hx
 have HK := hI hk1
 clear hx hk1
 go_wp2_with fail
 go_ret
 exact ⟨rfl, HK.out, m', hm', HX.out⟩
end Go.Proofs.YtimmmlnememjiaaGreatDoor
