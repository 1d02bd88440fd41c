import Derived.Test.YtimmmlnememjiaaGreatDoorX
import Derived.Test.YtimmmlnememjiaaGreatDoorX24
set_option maxRecDepth 100000
set_option maxHeartbeats 16000000
namespace Go.Proofs.YtimmmlnememjiaaGreatDoor
open Go.RowKit
theorem nets_reg (br : Nat) (s : ByteArray) (m : Nat) (w : World) (h : Sx br s w 0 m) :
  Calls Tryz.prog 55 #[.pointer (some ⟨br, 0, none⟩), .bool true] w (ItPost br s 0 m w) := by
 have X0 := hI h
 have hlt := h.lt
 have hm60 : m ≤ 60001 := h.le
 have K0 : Hid (Kq br w w) := Kq.refl _ _
 clear h
 go_enter Tryz.func55, Tryz.ntmps55
 go_wp2_with fail
 refine (span_any br s 0 m w X0.out).mono ?_
 rintro e w1 ⟨on1, k1x, a1x, op1x, wd1x, n1x, nm1x, sa1x, sl1x, sc1x, k1y, a1y, op1y, wd1y, n1y, nm1y, sa1y, sl1y, sc1y, rfl, hk, c1, m1, hx, hmm1, hcc1, hp⟩
 have z1 : w.heap.size ≤ w1.heap.size := hk.size
 have KK := hI hk
 have K1 : Hid (Kq br w w1) := K0.out.trans hk
 have X1 := hI hx
 have P1_1 := hI (pr_born hp)
 clear hk hx hp
 clear KK
 have HCC1 := hI hcc1
 clear hcc1
 have HTO : Hid ((#[.bool on1, .int .i64 k1x, .int .i64 a1x, .int .i64 op1x, .int .i64 wd1x, .int .u64 n1x, .string nm1x, .slice sa1x sl1x sc1x, .int .i64 k1y, .int .i64 a1y, .int .i64 op1y, .int .i64 wd1y, .int .u64 n1y, .string nm1y, .slice sa1y sl1y sc1y] : Array Value).all (·.oneCell') = true) := arr_one rfl
 go_upto_region 2 with ((with_reducible refine wpList_id ?_); refine wpList_store_mid rfl 60 (.tmp 5) (.tmp 13) rfl w1.heap.size 0 #[.bool on1, .int .i64 k1x, .int .i64 a1x, .int .i64 op1x, .int .i64 wd1x, .int .u64 n1x, .string nm1x, .slice sa1x sl1x sc1x, .int .i64 k1y, .int .i64 a1y, .int .i64 op1y, .int .i64 wd1y, .int .u64 n1y, .string nm1y, .slice sa1y sl1y sc1y] rfl rfl (there_new1 _ _ _ _ rfl) info60s HTO.out ?_)
 generalize hWW : w1.alloc (.cells _ 60) = w2
 clear HTO
 obtain ⟨zz, bb, oo, kk⟩ := one_box hWW
 have z2 : w1.heap.size < w2.heap.size := by omega
 have K2 : Hid (Kq br w w2) := K1.out.trans (kk br).out
 have X2 : Hid (Sx br s w2 c1 m1) := X1.out.to (oo br X1.out.lt)
 clear X1 K1
 have P1_2 := hI (pr_to P1_1.out (fun k o hb h => (oo k (heap_lt h)).trans h))
 clear P1_1
 obtain ⟨cG_2, LG_2⟩ : ∃ cs, Hid (Lb w2 (w1.heap.size) 15 60 cs) := ⟨_, ⟨bb, rfl, one_of rfl⟩⟩
 clear hWW zz oo kk bb
 generalize hS : w2.setCells (w1.heap.size) 0 _ = w3
 replace hS : setFrom w2 (w1.heap.size) 0 [.bool on1, .int .i64 k1x, .int .i64 a1x, .int .i64 op1x, .int .i64 wd1x, .int .u64 n1x, .string nm1x, .slice sa1x sl1x sc1x, .int .i64 k1y, .int .i64 a1y, .int .i64 op1y, .int .i64 wd1y, .int .u64 n1y, .string nm1y, .slice sa1y sl1y sc1y] = w3 := (setCells_from _ _ _ _).symm.trans hS
 obtain ⟨cG_3, bb, hh, ap, zz, oo, kk, xx⟩ := lb_set hS LG_2.out (by simp only [lnC, lnN]; omega) (one_list rfl)
 have z3 : w2.heap.size ≤ w3.heap.size := by omega
 have K3 : Hid (Kq br w w3) := kk br w K2.out (by omega)
 have X3 : Hid (Sx br s w3 c1 m1) := xx br s c1 m1 X2.out (by omega)
 have LG_3 := hI bb
 have HG0_3 : Hid (Has cG_3 0 [.bool on1, .int .i64 k1x, .int .i64 a1x, .int .i64 op1x, .int .i64 wd1x, .int .u64 n1x, .string nm1x, .slice sa1x sl1x sc1x, .int .i64 k1y, .int .i64 a1y, .int .i64 op1y, .int .i64 wd1y, .int .u64 n1y, .string nm1y, .slice sa1y sl1y sc1y]) := hh
 clear LG_2 X2 K2
 have P1_3 := hI (pr_to P1_2.out (fun k o hb h => (oo k (by omega)).trans h))
 clear P1_2
 clear hS bb hh ap zz oo kk xx
 go_wp2_with fail
 have hm1 : m1 ≤ 60001 := X3.out.le
 go_loopg [6] (meas c1 m1) (fun gk o wr => ∃ (cr : Int) (mr : Nat) (sa : Option Addr) (sl sc : Nat), o = .slice sa sl sc ∧ gk = meas cr mr ∧ Hid (Sx br s wr cr mr) ∧ Hid (Kq br w wr) ∧ Hid (Lb wr (w1.heap.size) 15 60 cG_3) ∧ w3.heap.size ≤ wr.heap.size ∧ Hid (c1 = 0 → ∃ t, PRg (fun b => w.heap.size ≤ b ∧ b < w1.heap.size) wr [.bool on1, .int .i64 k1x, .int .i64 a1x, .int .i64 op1x, .int .i64 wd1x, .int .u64 n1x, .string nm1x, .slice sa1x sl1x sc1x, .int .i64 k1y, .int .i64 a1y, .int .i64 op1y, .int .i64 wd1y, .int .u64 n1y, .string nm1y, .slice sa1y sl1y sc1y] t ∧ t.length ≤ 64 * (m - m1)) ∧ Hid (Its (cr = 0) (fun b => w.heap.size ≤ b) w3.heap.size wr (.slice sa sl sc) (2 * (m1 - mr) + 2) (fun xs => xs.length + 2 * mr ≤ 2 * m1 ∧ (xs.map (fun x : ItemD => x.2)).flatten.length ≤ 4000000 * (m1 - mr))) ∧ mr ≤ m1 ∧ Hid (cr = 0 → c1 = 0))
 case atStart => exact ⟨c1, m1, none, 0, 0, rfl, rfl, X3, K3, LG_3, Nat.le_refl _, P1_3, (Its.nil (by simp) : Hid _), Nat.le_refl _, (fun h => h : Hid _)⟩
 case round =>
  obtain ⟨cr, mr, sa, sl, sc, rfl, hgk, XR, KR, LG_r, zR, PG_r, PL_r, hmr, HC1⟩ := hrel
  clear X3 K3 LG_3 P1_3
  have XS := XR.out
  obtain ⟨kt, wdt, nt, Tt, at9, qt, fat, hra, h'⟩ := XS
  obtain ⟨f0, f1, f2, f3, f4, f5, f6, f7, f8, fz⟩ := hra.all
  clear h' hra
  by_cases hcz : cr = 0
  ·subst hcz
   obtain ⟨rs0, _, _, _, hcd⟩ := PL_r.out
   obtain ⟨es, hR, _, hn, hl⟩ := hcd rfl
   clear hcd
   have HR := hI hR.strong
   have HLL := hI hl
   have hc1 := HC1.out rfl
   clear HC1
   have HC1 := hI hc1
   clear hR hl hc1 PL_r
   go_upto_region 4 with fail
   obtain ⟨pg0, _⟩ := LG_r.out.cell (HG0_3.out 0 _ rfl)
   obtain ⟨pg1, _⟩ := LG_r.out.cell (HG0_3.out 1 _ rfl)
   obtain ⟨pg2, _⟩ := LG_r.out.cell (HG0_3.out 2 _ rfl)
   obtain ⟨pg3, _⟩ := LG_r.out.cell (HG0_3.out 3 _ rfl)
   obtain ⟨pg4, _⟩ := LG_r.out.cell (HG0_3.out 4 _ rfl)
   obtain ⟨pg5, _⟩ := LG_r.out.cell (HG0_3.out 5 _ rfl)
   obtain ⟨pg6, _⟩ := LG_r.out.cell (HG0_3.out 6 _ rfl)
   obtain ⟨pg7, _⟩ := LG_r.out.cell (HG0_3.out 7 _ rfl)
   obtain ⟨pg8, _⟩ := LG_r.out.cell (HG0_3.out 8 _ rfl)
   obtain ⟨pg9, _⟩ := LG_r.out.cell (HG0_3.out 9 _ rfl)
   obtain ⟨pg10, _⟩ := LG_r.out.cell (HG0_3.out 10 _ rfl)
   obtain ⟨pg11, _⟩ := LG_r.out.cell (HG0_3.out 11 _ rfl)
   obtain ⟨pg12, _⟩ := LG_r.out.cell (HG0_3.out 12 _ rfl)
   obtain ⟨pg13, _⟩ := LG_r.out.cell (HG0_3.out 13 _ rfl)
   obtain ⟨pg14, _⟩ := LG_r.out.cell (HG0_3.out 14 _ rfl)
   obtain ⟨_, gfz, _⟩ := bxN LG_r.out.heap
   have nbr := cell_alloc (.cells Tryz.zeroCells95 95) f2
   have ng0 := cell_alloc (.cells Tryz.zeroCells95 95) pg0
   have ng1 := cell_alloc (.cells Tryz.zeroCells95 95) pg1
   have ng2 := cell_alloc (.cells Tryz.zeroCells95 95) pg2
   have ng3 := cell_alloc (.cells Tryz.zeroCells95 95) pg3
   have ng4 := cell_alloc (.cells Tryz.zeroCells95 95) pg4
   have ng5 := cell_alloc (.cells Tryz.zeroCells95 95) pg5
   have ng6 := cell_alloc (.cells Tryz.zeroCells95 95) pg6
   have ng7 := cell_alloc (.cells Tryz.zeroCells95 95) pg7
   have ng8 := cell_alloc (.cells Tryz.zeroCells95 95) pg8
   have ng9 := cell_alloc (.cells Tryz.zeroCells95 95) pg9
   have ng10 := cell_alloc (.cells Tryz.zeroCells95 95) pg10
   have ng11 := cell_alloc (.cells Tryz.zeroCells95 95) pg11
   have ng12 := cell_alloc (.cells Tryz.zeroCells95 95) pg12
   have ng13 := cell_alloc (.cells Tryz.zeroCells95 95) pg13
   have ng14 := cell_alloc (.cells Tryz.zeroCells95 95) pg14
   have HL5 : Hid ((x95 Tryz.zeroCells95 at9 [.bool on1, .int .i64 k1x, .int .i64 a1x, .int .i64 op1x, .int .i64 wd1x, .int .u64 n1x, .string nm1x, .slice sa1x sl1x sc1x, .int .i64 k1y, .int .i64 a1y, .int .i64 op1y, .int .i64 wd1y, .int .u64 n1y, .string nm1y, .slice sa1y sl1y sc1y]).toList = (((((((((((((((((Tryz.zeroCells95.toList.set 0 (.int .i64 1)).set 1 (.int .i64 at9)).set 4 (.bool on1)).set 5 (.int .i64 k1x)).set 6 (.int .i64 a1x)).set 7 (.int .i64 op1x)).set 8 (.int .i64 wd1x)).set 9 (.int .u64 n1x)).set 10 (.string nm1x)).set 11 (.slice sa1x sl1x sc1x)).set 12 (.int .i64 k1y)).set 13 (.int .i64 a1y)).set 14 (.int .i64 op1y)).set 15 (.int .i64 wd1y)).set 16 (.int .u64 n1y)).set 17 (.string nm1y)).set 18 (.slice sa1y sl1y sc1y))) := by show _ = _; simp [x95, z95, arrFrom]
   have hst := store_drawn wr (x95 Tryz.zeroCells95 at9 [.bool on1, .int .i64 k1x, .int .i64 a1x, .int .i64 op1x, .int .i64 wd1x, .int .u64 n1x, .string nm1x, .slice sa1x sl1x sc1x, .int .i64 k1y, .int .i64 a1y, .int .i64 op1y, .int .i64 wd1y, .int .u64 n1y, .string nm1y, .slice sa1y sl1y sc1y]) (x95_size _ _) (x95_one _ (one_list rfl))
   rw [HL5.out] at hst
   go_big_region
   generalize hvd : Value.agg (Array.setIfInBounds _ 18 _) = v26
   clear hvd hst
   clear nbr gfz pg0 ng0 pg1 ng1 pg2 ng2 pg3 ng3 pg4 ng4 pg5 ng5 pg6 ng6 pg7 ng7 pg8 ng8 pg9 ng9 pg10 ng10 pg11 ng11 pg12 ng12 pg13 ng13 pg14 ng14
   clear f0 f1 f2 f3 f4 f5 f6 f7 f8 fz
   generalize hWW : (wr.alloc (.cells _ 95)).drew = w4
   obtain ⟨zz, bb, oo, kk⟩ := drawn_box hWW
   have z4 : wr.heap.size < w4.heap.size := by omega
   have K4 : Hid (Kq br w w4) := KR.out.trans (kk br).out
   have X4 : Hid (Sx br s w4 0 mr) := XR.out.to (oo br XR.out.lt)
   clear XR KR
   have LG_4 := hI (LG_r.out.via (fun e => (oo _ (heap_lt (hI e).out)).trans (hI e).out))
   clear LG_r
   have P1_4 := hI (pr_to PG_r.out (fun k o hb h => (oo k (heap_lt h)).trans h))
   have PL_4 := hI (Rw.to HR.out (fun k o hb h => (oo k (heap_lt h)).trans h))
   clear PG_r HR
   obtain ⟨cI_4, LI_4⟩ : ∃ cs, Hid (Lb w4 (wr.heap.size) 65 95 cs) := ⟨_, ⟨bb, zero95_size, zero95_one'⟩⟩
   clear hWW zz oo kk bb
   have HSZ0 : Hid ((x95 Tryz.zeroCells95 at9 [.bool on1, .int .i64 k1x, .int .i64 a1x, .int .i64 op1x, .int .i64 wd1x, .int .u64 n1x, .string nm1x, .slice sa1x sl1x sc1x, .int .i64 k1y, .int .i64 a1y, .int .i64 op1y, .int .i64 wd1y, .int .u64 n1y, .string nm1y, .slice sa1y sl1y sc1y]).size = 65) := x95_size _ _
   have HON0 : Hid (∀ v ∈ (x95 Tryz.zeroCells95 at9 [.bool on1, .int .i64 k1x, .int .i64 a1x, .int .i64 op1x, .int .i64 wd1x, .int .u64 n1x, .string nm1x, .slice sa1x sl1x sc1x, .int .i64 k1y, .int .i64 a1y, .int .i64 op1y, .int .i64 wd1y, .int .u64 n1y, .string nm1y, .slice sa1y sl1y sc1y]).toList, v.oneCell' = true) := x95_one _ (one_list rfl)
   generalize hS : w4.setCells (wr.heap.size) 0 _ = w5
   rw [← HL5.out] at hS
   replace hS : setFrom w4 (wr.heap.size) 0 (x95 Tryz.zeroCells95 at9 [.bool on1, .int .i64 k1x, .int .i64 a1x, .int .i64 op1x, .int .i64 wd1x, .int .u64 n1x, .string nm1x, .slice sa1x sl1x sc1x, .int .i64 k1y, .int .i64 a1y, .int .i64 op1y, .int .i64 wd1y, .int .u64 n1y, .string nm1y, .slice sa1y sl1y sc1y]).toList = w5 := (setCells_from _ _ _ _).symm.trans hS
   obtain ⟨hr, zz, oo, kk, xx⟩ := lb_copy hS LI_4.out HSZ0.out
   have z5 : w4.heap.size ≤ w5.heap.size := by omega
   have K5 : Hid (Kq br w w5) := kk br w K4.out (by omega)
   have X5 : Hid (Sx br s w5 0 mr) := xx br s 0 mr X4.out (by omega)
   have LI_5 : Hid (Lb w5 (wr.heap.size) 65 95 (x95 Tryz.zeroCells95 at9 [.bool on1, .int .i64 k1x, .int .i64 a1x, .int .i64 op1x, .int .i64 wd1x, .int .u64 n1x, .string nm1x, .slice sa1x sl1x sc1x, .int .i64 k1y, .int .i64 a1y, .int .i64 op1y, .int .i64 wd1y, .int .u64 n1y, .string nm1y, .slice sa1y sl1y sc1y])) := ⟨hr, HSZ0.out, HON0.out⟩
   clear LI_4 X4 K4
   have LG_5 := vE (oo _ (by omega)) LG_4
   clear LG_4
   have P1_5 := hI (pr_to P1_4.out (fun k o hb h => (oo k (by omega)).trans h))
   have PL_5 := hI (Rw.to PL_4.out (fun k o hb h => (oo k (by omega)).trans h))
   clear P1_4 PL_4
   clear hS hr zz oo kk xx
   have HI0_5 : Hid (Has (x95 Tryz.zeroCells95 at9 [.bool on1, .int .i64 k1x, .int .i64 a1x, .int .i64 op1x, .int .i64 wd1x, .int .u64 n1x, .string nm1x, .slice sa1x sl1x sc1x, .int .i64 k1y, .int .i64 a1y, .int .i64 op1y, .int .i64 wd1y, .int .u64 n1y, .string nm1y, .slice sa1y sl1y sc1y]) 0 [.int .i64 1]) := x95_of _ (z95_0 _ _) (Or.inl (by simp only [lnC, lnN]; omega))
   have HI1_5 : Hid (Has (x95 Tryz.zeroCells95 at9 [.bool on1, .int .i64 k1x, .int .i64 a1x, .int .i64 op1x, .int .i64 wd1x, .int .u64 n1x, .string nm1x, .slice sa1x sl1x sc1x, .int .i64 k1y, .int .i64 a1y, .int .i64 op1y, .int .i64 wd1y, .int .u64 n1y, .string nm1y, .slice sa1y sl1y sc1y]) 1 [.int .i64 at9]) := x95_of _ (z95_1 _ _) (Or.inl (by simp only [lnC, lnN]; omega))
   have HI4_5 : Hid (Has (x95 Tryz.zeroCells95 at9 [.bool on1, .int .i64 k1x, .int .i64 a1x, .int .i64 op1x, .int .i64 wd1x, .int .u64 n1x, .string nm1x, .slice sa1x sl1x sc1x, .int .i64 k1y, .int .i64 a1y, .int .i64 op1y, .int .i64 wd1y, .int .u64 n1y, .string nm1y, .slice sa1y sl1y sc1y]) 4 [.bool on1, .int .i64 k1x, .int .i64 a1x, .int .i64 op1x, .int .i64 wd1x, .int .u64 n1x, .string nm1x, .slice sa1x sl1x sc1x, .int .i64 k1y, .int .i64 a1y, .int .i64 op1y, .int .i64 wd1y, .int .u64 n1y, .string nm1y, .slice sa1y sl1y sc1y]) := x95_4 _ rfl
   have HI34_5 : Hid (Has (x95 Tryz.zeroCells95 at9 [.bool on1, .int .i64 k1x, .int .i64 a1x, .int .i64 op1x, .int .i64 wd1x, .int .u64 n1x, .string nm1x, .slice sa1x sl1x sc1x, .int .i64 k1y, .int .i64 a1y, .int .i64 op1y, .int .i64 wd1y, .int .u64 n1y, .string nm1y, .slice sa1y sl1y sc1y]) 34 [.bool false]) := x95_of _ (z95_of _ _ zero95_h34 (by decide)) (Or.inr (by simp only [lnC, lnN]; omega))
   clear HSZ0 HON0 HL5
   obtain ⟨cI, hcI⟩ : ∃ cI, cI = (x95 Tryz.zeroCells95 at9 [.bool on1, .int .i64 k1x, .int .i64 a1x, .int .i64 op1x, .int .i64 wd1x, .int .u64 n1x, .string nm1x, .slice sa1x sl1x sc1x, .int .i64 k1y, .int .i64 a1y, .int .i64 op1y, .int .i64 wd1y, .int .u64 n1y, .string nm1y, .slice sa1y sl1y sc1y]) := ⟨_, rfl⟩
   rw [← hcI] at HI0_5 HI1_5 HI4_5 HI34_5 LI_5
   clear hcI
   have hmm : m1 ≤ m := hmm1
   obtain ⟨pcI0, pfI0⟩ := LI_5.out.cell HI0_5.out.head
   go_wp2_with fail
   generalize hS : w5.setCell ⟨wr.heap.size, 0, none⟩ _ = w6
   clear pcI0 pfI0
   replace hS : setFrom w5 (wr.heap.size) 0 [.int .i64 2] = w6 := hS
   obtain ⟨cI_6, bb, hh, ap, zz, oo, kk, xx⟩ := lb_set hS LI_5.out (by simp only [lnC, lnN]; omega) (one_list rfl)
   have z6 : w5.heap.size ≤ w6.heap.size := by omega
   have K6 : Hid (Kq br w w6) := kk br w K5.out (by omega)
   have X6 : Hid (Sx br s w6 0 mr) := xx br s 0 mr X5.out (by omega)
   have LI_6 := hI bb
   have HI1_6 := hI (ap 1 [.int .i64 at9] HI1_5.out (by simp only [lnC, lnN]; omega))
   have HI4_6 := hI (ap 4 [.bool on1, .int .i64 k1x, .int .i64 a1x, .int .i64 op1x, .int .i64 wd1x, .int .u64 n1x, .string nm1x, .slice sa1x sl1x sc1x, .int .i64 k1y, .int .i64 a1y, .int .i64 op1y, .int .i64 wd1y, .int .u64 n1y, .string nm1y, .slice sa1y sl1y sc1y] HI4_5.out (by simp only [lnC, lnN]; omega))
   have HI34_6 := hI (ap 34 [.bool false] HI34_5.out (by simp only [lnC, lnN]; omega))
   have HI0_6 : Hid (Has cI_6 0 [.int .i64 2]) := hh
   clear LI_5 X5 K5 HI0_5 HI1_5 HI4_5 HI34_5
   have LG_6 := vE (oo _ (by omega)) LG_5
   clear LG_5
   have P1_6 := hI (pr_to P1_5.out (fun k o hb h => (oo k (by omega)).trans h))
   have PL_6 := hI (Rw.to PL_5.out (fun k o hb h => (oo k (by omega)).trans h))
   clear P1_5 PL_5
   clear hS bb hh ap zz oo kk xx
   refine (name_any X6.out).mono ?_
   rintro e w7 ⟨nm7, rfl, hnm7, hk, c7, m7, hx, ha⟩
   have z7 : w6.heap.size ≤ w7.heap.size := hk.size
   have KK := hI hk
   have K7 : Hid (Kq br w w7) := K6.out.trans hk
   have X7 := hI hx
   have A7 := hI ha
   clear hk hx ha
   have LG_7 := vK KK LG_6 (by omega)
   have LI_7 := vK KK LI_6 (by omega)
   clear LG_6 LI_6
   have P1_7 := hI (pr_to P1_6.out (fun k o hb h => KK.out.get (by omega) h))
   have PL_7 := hI (Rw.to PL_6.out (fun k o hb h => KK.out.get (by omega) h))
   clear P1_6 PL_6
   clear KK
   obtain ⟨vvI2, hvI2⟩ := LI_7.out.some 2 (by decide)
   obtain ⟨pcI2, pfI2⟩ := LI_7.out.cell hvI2
   clear hvI2
   go_wp2_with fail
   generalize hS : w7.setCell ⟨wr.heap.size, 2, none⟩ _ = w8
   clear pcI2 pfI2
   replace hS : setFrom w7 (wr.heap.size) 2 [.string nm7] = w8 := hS
   obtain ⟨cI_8, bb, hh, ap, zz, oo, kk, xx⟩ := lb_set hS LI_7.out (by simp only [lnC, lnN]; omega) (one_list rfl)
   have z8 : w7.heap.size ≤ w8.heap.size := by omega
   have K8 : Hid (Kq br w w8) := kk br w K7.out (by omega)
   have X8 : Hid (Sx br s w8 c7 m7) := xx br s c7 m7 X7.out (by omega)
   have LI_8 := hI bb
   have HI1_8 := hI (ap 1 [.int .i64 at9] HI1_6.out (by simp only [lnC, lnN]; omega))
   have HI4_8 := hI (ap 4 [.bool on1, .int .i64 k1x, .int .i64 a1x, .int .i64 op1x, .int .i64 wd1x, .int .u64 n1x, .string nm1x, .slice sa1x sl1x sc1x, .int .i64 k1y, .int .i64 a1y, .int .i64 op1y, .int .i64 wd1y, .int .u64 n1y, .string nm1y, .slice sa1y sl1y sc1y] HI4_6.out (by simp only [lnC, lnN]; omega))
   have HI34_8 := hI (ap 34 [.bool false] HI34_6.out (by simp only [lnC, lnN]; omega))
   have HI0_8 := hI (ap 0 [.int .i64 2] HI0_6.out (by simp only [lnC, lnN]; omega))
   have HI2_8 : Hid (Has cI_8 2 [.string nm7]) := hh
   clear LI_7 X7 K7 HI1_6 HI4_6 HI34_6 HI0_6
   have LG_8 := vE (oo _ (by omega)) LG_7
   clear LG_7
   have P1_8 := hI (pr_to P1_7.out (fun k o hb h => (oo k (by omega)).trans h))
   have PL_8 := hI (Rw.to PL_7.out (fun k o hb h => (oo k (by omega)).trans h))
   clear P1_7 PL_7
   clear hS bb hh ap zz oo kk xx
   refine is_yes X8.out _ ?_ ?_
   ·intro hc7 wdt nt Tt hst htt
    subst hc7
    have HST := hI hst
    have HTT7 := hI htt
    clear hst htt
    obtain ⟨pcI0, pfI0⟩ := LI_8.out.cell HI0_8.out.head
    go_wp2_with fail
    generalize hS : w8.setCell ⟨wr.heap.size, 0, none⟩ _ = w9
    have HST9 : Hid (St br s w9 0 m7 3 wdt nt Tt) := HST.out.to (by rw [← hS]; exact Below.heap_setCell _ _ _ _ (show br ≠ wr.heap.size by omega))
    clear HST
    clear pcI0 pfI0
    replace hS : setFrom w8 (wr.heap.size) 0 [.int .i64 3] = w9 := hS
    obtain ⟨cI_9, bb, hh, ap, zz, oo, kk, xx⟩ := lb_set hS LI_8.out (by simp only [lnC, lnN]; omega) (one_list rfl)
    have z9 : w8.heap.size ≤ w9.heap.size := by omega
    have K9 : Hid (Kq br w w9) := kk br w K8.out (by omega)
    have X9 : Hid (Sx br s w9 0 m7) := xx br s 0 m7 X8.out (by omega)
    have LI_9 := hI bb
    have HI1_9 := hI (ap 1 [.int .i64 at9] HI1_8.out (by simp only [lnC, lnN]; omega))
    have HI4_9 := hI (ap 4 [.bool on1, .int .i64 k1x, .int .i64 a1x, .int .i64 op1x, .int .i64 wd1x, .int .u64 n1x, .string nm1x, .slice sa1x sl1x sc1x, .int .i64 k1y, .int .i64 a1y, .int .i64 op1y, .int .i64 wd1y, .int .u64 n1y, .string nm1y, .slice sa1y sl1y sc1y] HI4_8.out (by simp only [lnC, lnN]; omega))
    have HI34_9 := hI (ap 34 [.bool false] HI34_8.out (by simp only [lnC, lnN]; omega))
    have HI2_9 := hI (ap 2 [.string nm7] HI2_8.out (by simp only [lnC, lnN]; omega))
    have HI0_9 : Hid (Has cI_9 0 [.int .i64 3]) := hh
    clear LI_8 X8 K8 HI1_8 HI4_8 HI34_8 HI0_8 HI2_8
    have LG_9 := vE (oo _ (by omega)) LG_8
    clear LG_8
    have P1_9 := hI (pr_to P1_8.out (fun k o hb h => (oo k (by omega)).trans h))
    have PL_9 := hI (Rw.to PL_8.out (fun k o hb h => (oo k (by omega)).trans h))
    clear P1_8 PL_8
    clear hS bb hh ap zz oo kk xx
    refine (span_yes br s m7 w9 _ _ _ HST9.out HTT7.out).mono ?_
    rintro e w10 ⟨cs10, rfl, hsz10, hon10, hk, c10, m10, hx, ha, hp⟩
    have z10 : w9.heap.size ≤ w10.heap.size := hk.size
    have KK := hI hk
    have K10 : Hid (Kq br w w10) := K9.out.trans hk
    have X10 := hI hx
    have A10 := hI ha
    have P10_10 := hI (ry_born hp)
    clear hk hx ha hp
    have LG_10 := vK KK LG_9 (by omega)
    have LI_10 := vK KK LI_9 (by omega)
    clear LG_9 LI_9
    have P1_10 := hI (pr_to P1_9.out (fun k o hb h => KK.out.get (by omega) h))
    have PL_10 := hI (Rw.to PL_9.out (fun k o hb h => KK.out.get (by omega) h))
    clear P1_9 PL_9
    clear KK
    have HON10 := hI hon10
    clear hon10
    have HSZ10 := hI hsz10
    clear hsz10 HST9 HTT7
    have HTT : Hid (w10.there (wr.heap.size) 19 cs10.size) := LI_10.out.there 19 _ (by rw [HSZ10.out]; decide)
    have HTI : Hid ((Tryz.prog.info? 60).map (·.size) = some cs10.size) := info60s.trans (congrArg some HSZ10.out.symm)
    have HTO : Hid (cs10.all (·.oneCell') = true) := arr_all HON10.out
    go_upto_region 14 with ((with_reducible refine wpList_id ?_); (refine wpList_store_mid rfl 60 (.tmp 41) (.tmp 40) rfl (wr.heap.size) 19 cs10 rfl rfl HTT.out HTI.out HTO.out ?_))
    generalize hS : w10.setCells (wr.heap.size) 19 _ = w11
    clear HTT HTI HTO
    replace hS : setFrom w10 (wr.heap.size) 19 cs10.toList = w11 := (setCells_from _ _ _ _).symm.trans hS
    have hln : cs10.toList.length = 15 := by rw [Array.length_toList, HSZ10.out]
    obtain ⟨cI_11, bb, hh, ap, zz, oo, kk, xx⟩ := lb_set hS LI_10.out (by rw [hln]; decide) HON10.out
    have z11 : w10.heap.size ≤ w11.heap.size := by omega
    have K11 : Hid (Kq br w w11) := kk br w K10.out (by omega)
    have X11 : Hid (Sx br s w11 c10 m10) := xx br s c10 m10 X10.out (by omega)
    have LI_11 := hI bb
    have HI1_11 := hI (ap 1 [.int .i64 at9] HI1_9.out (by rw [hln]; simp only [lnC, lnN]; omega))
    have HI4_11 := hI (ap 4 [.bool on1, .int .i64 k1x, .int .i64 a1x, .int .i64 op1x, .int .i64 wd1x, .int .u64 n1x, .string nm1x, .slice sa1x sl1x sc1x, .int .i64 k1y, .int .i64 a1y, .int .i64 op1y, .int .i64 wd1y, .int .u64 n1y, .string nm1y, .slice sa1y sl1y sc1y] HI4_9.out (by rw [hln]; simp only [lnC, lnN]; omega))
    have HI34_11 := hI (ap 34 [.bool false] HI34_9.out (by rw [hln]; simp only [lnC, lnN]; omega))
    have HI2_11 := hI (ap 2 [.string nm7] HI2_9.out (by rw [hln]; simp only [lnC, lnN]; omega))
    have HI0_11 := hI (ap 0 [.int .i64 3] HI0_9.out (by rw [hln]; simp only [lnC, lnN]; omega))
    have HI19_11 : Hid (Has cI_11 19 cs10.toList) := hh
    clear LI_10 X10 K10 HI1_9 HI4_9 HI34_9 HI2_9 HI0_9
    have LG_11 := vE (oo _ (by omega)) LG_10
    clear LG_10
    have P1_11 := hI (pr_to P1_10.out (fun k o hb h => (oo k (by omega)).trans h))
    have PL_11 := hI (Rw.to PL_10.out (fun k o hb h => (oo k (by omega)).trans h))
    have P10_11 := hI (ry_to P10_10.out (fun k o hb h => (oo k (by omega)).trans h))
    clear P1_10 PL_10 P10_10
    clear hS hln bb hh ap zz oo kk xx
    go_upto_region 15 with fail
    generalize hWW : w11.alloc (.cells _ 55) = w12
    obtain ⟨zz, bb, oo, kk⟩ := one_box hWW
    have z12 : w11.heap.size < w12.heap.size := by omega
    have K12 : Hid (Kq br w w12) := K11.out.trans (kk br).out
    have X12 : Hid (Sx br s w12 c10 m10) := X11.out.to (oo br X11.out.lt)
    clear X11 K11
    have LG_12 := hI (LG_11.out.via (fun e => (oo _ (heap_lt (hI e).out)).trans (hI e).out))
    have LI_12 := hI (LI_11.out.via (fun e => (oo _ (heap_lt (hI e).out)).trans (hI e).out))
    clear LG_11 LI_11
    have P1_12 := hI (pr_to P1_11.out (fun k o hb h => (oo k (heap_lt h)).trans h))
    have PL_12 := hI (Rw.to PL_11.out (fun k o hb h => (oo k (heap_lt h)).trans h))
    have P10_12 := hI (ry_to P10_11.out (fun k o hb h => (oo k (heap_lt h)).trans h))
    clear P1_11 PL_11 P10_11
    obtain ⟨cE_12, LE_12⟩ : ∃ cs, Hid (Lb w12 (w11.heap.size) 7 55 cs) := ⟨_, ⟨bb, rfl, one_of rfl⟩⟩
    clear hWW zz oo kk bb
    go_upto_region 20 with fail
    obtain ⟨xr13, hxo13, hxS13, hxL13, hxN13⟩ := Rw.own2 ((PL_12.out.sub (S' := fun b => w.heap.size ≤ b) (fun b hb => by show w.heap.size ≤ b; omega))) (x0 := w12.heap.size) (by show w.heap.size ≤ w12.heap.size; omega) (by omega)
    have HXN13 := hI hxN13
    clear hxN13
    have hxS13 : w.heap.size ≤ xr13 := hxS13
    have HXO13 := hI hxo13
    clear hxo13
    obtain ⟨i5, hi, hzz, hsz, hby⟩ := info95'
    have HI5 := hI hi
    have HZ5 := hI hzz
    have HS5 := hI hsz
    have HB5 := hI hby
    clear hi hzz hsz hby
    have HSZ5 : Hid (cI_11.size = 65) := LI_12.out.size
    have HLE5 : Hid (cI_11.toList.length = 1 * 65) := by show _ = _; rw [Array.length_toList, HSZ5.out]
    have HIN5 : Hid ((Tryz.prog.info? 95).map (·.size) = some cI_11.toList.length) := by show _ = _; rw [HLE5.out]; exact info95s
    have HWH5 : Hid (w12.rangeAt (wr.heap.size) 0 cI_11.toList) := LI_12.out.whole
    go_upto_region 21 with ((with_reducible refine wpList_id ?_); first | (refine wpList_load_mid rfl 95 (.tmp 7) rfl (wr.heap.size) 0 rfl cI_11.toList _ HWH5.out Tryz.underlying95 rfl HIN5.out ?_) | (refine wpList_build_one rfl 38 (.tmp 55) rfl 95 cI_11 65 rfl Tryz.underlying38 i5 HI5.out _ HZ5.out HS5.out HSZ5.out (by decide) (by decide) ?_) | (at_builtin; refine wpList_append_lies _ rfl (.tmp 54) (.tmp 56) 38 rfl (w3.heap.size) 95 i5 _ 65 832 Tryz.underlying38 HI5.out HZ5.out HS5.out HB5.out rfl (by decide) (.slice sa sl sc) (es.length) _ rfl (Rw.alloc ((PL_12.out.sub (S' := fun b => w.heap.size ≤ b) (fun b hb => by show w.heap.size ≤ b; omega))) _).1 ⟨w12.heap.size, 0, none⟩ 1 1 cI_11.toList rfl HLE5.out (new_cellsA w12 95 cI_11) LI_12.out.one (by decide) (by simp only [maxLen]; omega) (by omega) (by simp; omega) _ rfl ?_; intro g13 cap13 w13 hownX hgrowX hatX hltX; have OB := hI hownX; have GB := hI hgrowX; have TB := hI hatX; clear hownX hgrowX hatX))
    obtain ⟨kk, ⟨sg13, sz13⟩, rr⟩ := row_app0 (S := fun b => w.heap.size ≤ b) (xr := xr13) ((PL_12.out.sub (S' := fun b => w.heap.size ≤ b) (fun b hb => by show w.heap.size ≤ b; omega))) OB.out GB.out TB.out rfl hltX HXO13.out (by show w.heap.size ≤ _; simp only [World.size_alloc]; omega)
    have sg13 : w.heap.size ≤ g13 := sg13
    have z13 : w12.heap.size ≤ w13.heap.size := kk.size
    have K13 : Hid (Kq br w w13) := K12.out.comp kk (by omega)
    have X13 : Hid (Sx br s w13 c10 m10) := kk.sx (by omega) X12.out
    have KK := hI kk
    have RR := hI rr
    have RRR := hI (row_app0 (E := elR) (S := fun b => w.heap.size ≤ b) (xr := xr13) (Rw.raw ((PL_12.out.sub (S' := fun b => w.heap.size ≤ b) (fun b hb => by show w.heap.size ≤ b; omega)))) (by rw [flat_id]; exact OB.out) GB.out TB.out rfl hltX HXO13.out (by show w.heap.size ≤ _; simp only [World.size_alloc]; omega)).2.2
    have hgx13 : g13 = xr13 ∨ g13 = w12.heap.size + 1 := (own_g TB.out HXO13.out).imp id (fun h => h.trans (World.size_alloc _ _))
    clear kk rr hltX OB GB TB X12 K12 HI5 HZ5 HS5 HB5 HSZ5 HLE5 HIN5 HWH5
    have PM_13 : Hid (Its (c10 = 0) (fun b => w.heap.size ≤ b) w3.heap.size w13 (.slice (some ⟨g13, 0, none⟩) (es.length + 1) cap13) (2 * (m1 - m10) + 2) (fun xs => xs.length + 2 * m10 ≤ 2 * m1 ∧ (xs.map (fun x : ItemD => x.2)).flatten.length ≤ 4000000 * (m1 - m10))) := by
     have hmX : m10 ≤ mr := by have hA : Adv 0 mr c10 m10 := Adv.trans (A7.out) (A10.out); exact hA.1
     refine ⟨es.map (fun x : ItemD => x.1) ++ [cI_11.toList], RRR.out [cI_11.toList] (by simp) (by simp [elR]) (by simp) (fun y hy => by rw [List.mem_singleton] at hy; subst hy; exact LI_12.out.big.1), ones_snoc PL_12.out LI_12.out.one, by simp only [lnA, List.length_map, lnC, lnN]; omega, ?_⟩
     intro hc
     obtain ⟨k1, k2, c1, c2, t1, t2, hcs, p1, p2, hle⟩ := P10_12.out hc
     have hA10 := (A10.out.2 hc).2
     have hA7 := (A7.out.2 (by trivial)).2
     obtain ⟨tr, hr, hlr⟩ := P1_12.out HC1.out
     have AX : Adv 0 mr c10 m10 := Adv.trans (A7.out) (A10.out)
     have hl0 := HLL.out
     have hAX := (AX.2 hc).2
     have hP : PI (fun b => (w.heap.size ≤ b) ∧ some b ≠ (Value.slice sa sl sc).ownBlock) w12 cI_11.toList ([114, 101, 103, 32] ++ tr ++ nm7.data.toList ++ [32, 91] ++ t1 ++ [58] ++ t2 ++ [93, 59, 10]) := PI.mem _ LI_12.out.big nm7.data.toList [.bool on1, .int .i64 k1x, .int .i64 a1x, .int .i64 op1x, .int .i64 wd1x, .int .u64 n1x, .string nm1x, .slice sa1x sl1x sc1x, .int .i64 k1y, .int .i64 a1y, .int .i64 op1y, .int .i64 wd1y, .int .u64 n1y, .string nm1y, .slice sa1y sl1y sc1y] tr k1 k2 c1 c2 t1 t2 HI0_11.out.l (by rw [bs_of]; exact HI2_11.out.l) HI4_11.out.l (hr.mono (fun b hb => by exact ⟨by show w.heap.size ≤ b; omega, Rw.low PL_12.out (by omega)⟩) (fun _ _ _ _ hu => hu)) (by rw [← hcs]; exact HI19_11.out.l) (p1.mono (fun b hb => by exact ⟨by show w.heap.size ≤ b; omega, Rw.not_own PL_12.out (by show ¬ (w.heap.size ≤ b ∧ b < wr.heap.size); omega)⟩) (fun _ _ _ _ hu => hu)) (p2.mono (fun b hb => by exact ⟨by show w.heap.size ≤ b; omega, Rw.not_own PL_12.out (by show ¬ (w.heap.size ≤ b ∧ b < wr.heap.size); omega)⟩) (fun _ _ _ _ hu => hu))
     refine ⟨es ++ [(cI_11.toList, [114, 101, 103, 32] ++ tr ++ nm7.data.toList ++ [32, 91] ++ t1 ++ [58] ++ t2 ++ [93, 59, 10])], RR.out [(cI_11.toList, [114, 101, 103, 32] ++ tr ++ nm7.data.toList ++ [32, 91] ++ t1 ++ [58] ++ t2 ++ [93, 59, 10])] (by simp) (by simp [elI]) rfl ?_, by simp, ?_, ?_⟩
     ·intro y hy
      rw [List.mem_singleton] at hy
      subst hy
      exact hP
     ·simp only [lnA, lnC, lnN]; omega
     ·rw [List.map_append, List.flatten_append]
      simp only [List.map_cons, List.map_nil, List.flatten_cons, List.flatten_nil, lnA, lnC, lnN, len_of]
      omega
    clear LI_12
    clear LE_12
    clear PL_12
    clear P10_12
    have LG_13 := vK KK LG_12 (by omega)
    clear LG_12
    have P1_13 := hI (pr_to P1_12.out (fun k o hb h => KK.out.get (by omega) h))
    clear P1_12
    clear KK RR HXO13 RRR
    go_wp2_with fail
    refine accept_alt X13.out _ ?_ ?_
    ·intro hc0 m19 w19 hm19 hk hx
     subst hc0
     have z19 : w13.heap.size ≤ w19.heap.size := hk.size
     have KK := hI hk
     have K19 : Hid (Kq br w w19) := K13.out.trans hk
     have X19 := hI hx
     clear hk hx X13 K13
     have LG_19 := vK KK LG_13 (by omega)
     clear LG_13
     have P1_19 := hI (pr_to P1_13.out (fun k o hb h => KK.out.get (by omega) h))
     have PM_19 := hI (its_to PM_13.out (fun k o hb h => KK.out.get (by omega) h))
     clear P1_13 PM_13
     clear KK
     go_wp2_with fail
     have AX : Adv 0 mr 0 m19 := Adv.trans (A7.out) (Adv.trans (A10.out) (⟨Nat.le_of_lt hm19, fun _ => ⟨rfl, hm19⟩⟩))
     go_roundg (meas 0 m19)
     case measure => have := meas_next AX; omega
     case rel => exact ⟨0, m19, _, _, _, rfl, rfl, X19, K19, LG_19, by omega, P1_19, (PM_19.out.mono (fun _ => by trivial) (fun b hb => hb) (Nat.le_refl _) (by omega) (fun es hc hF => ⟨by omega, by omega⟩) : Hid _), by have := AX.1; omega, (fun _ => HC1.out : Hid _)⟩
    go_wp2_with fail
    refine (must_any X13.out _).mono ?_
    rintro e w20 ⟨rfl, hk, c20, m20, hx, ha⟩
    have z20 : w13.heap.size ≤ w20.heap.size := hk.size
    have KK := hI hk
    have K20 : Hid (Kq br w w20) := K13.out.trans hk
    have X20 := hI hx
    have A20 := hI ha
    clear hk hx ha
    have LG_20 := vK KK LG_13 (by omega)
    clear LG_13
    have P1_20 := hI (pr_to P1_13.out (fun k o hb h => KK.out.get (by omega) h))
    have PM_20 := hI (its_to PM_13.out (fun k o hb h => KK.out.get (by omega) h))
    clear P1_13 PM_13
    clear KK
    go_wp2_with fail
    go_ret
    have AX : Adv 0 mr c10 m10 := Adv.trans (A7.out) (A10.out)
    refine ⟨_, _, _, rfl, K20.out, c20, m20, X20.out, ⟨by have := AX.1; have := A20.out.1; omega, fun e => ⟨rfl, by have := (A20.out.2 e).2; have := AX.1; omega⟩⟩, ?_⟩
    have hAX := AX.1
    have hA20 := A20.out.1
    refine PM_20.out.mono (fun e => (A20.out.2 e).1) (fun b hb => hb) (by omega) (by omega) (fun es hc hF => ?_)
    have hm20 := (A20.out.2 hc).2
    exact ⟨by omega, by omega⟩
   ·go_wp2_with fail
    refine accept_alt X8.out _ ?_ ?_
    ·intro hc0 m9 w9 hm9 hk hx
     subst hc0
     have z9 : w8.heap.size ≤ w9.heap.size := hk.size
     have KK := hI hk
     have K9 : Hid (Kq br w w9) := K8.out.trans hk
     have X9 := hI hx
     clear hk hx X8 K8
     have LG_9 := vK KK LG_8 (by omega)
     have LI_9 := vK KK LI_8 (by omega)
     clear LG_8 LI_8
     have P1_9 := hI (pr_to P1_8.out (fun k o hb h => KK.out.get (by omega) h))
     have PL_9 := hI (Rw.to PL_8.out (fun k o hb h => KK.out.get (by omega) h))
     clear P1_8 PL_8
     clear KK
     go_upto_region 15 with fail
     generalize hWW : w9.alloc (.cells _ 55) = w10
     obtain ⟨zz, bb, oo, kk⟩ := one_box hWW
     have z10 : w9.heap.size < w10.heap.size := by omega
     have K10 : Hid (Kq br w w10) := K9.out.trans (kk br).out
     have X10 : Hid (Sx br s w10 0 m9) := X9.out.to (oo br X9.out.lt)
     clear X9 K9
     have LG_10 := hI (LG_9.out.via (fun e => (oo _ (heap_lt (hI e).out)).trans (hI e).out))
     have LI_10 := hI (LI_9.out.via (fun e => (oo _ (heap_lt (hI e).out)).trans (hI e).out))
     clear LG_9 LI_9
     have P1_10 := hI (pr_to P1_9.out (fun k o hb h => (oo k (heap_lt h)).trans h))
     have PL_10 := hI (Rw.to PL_9.out (fun k o hb h => (oo k (heap_lt h)).trans h))
     clear P1_9 PL_9
     obtain ⟨cE_10, LE_10⟩ : ∃ cs, Hid (Lb w10 (w9.heap.size) 7 55 cs) := ⟨_, ⟨bb, rfl, one_of rfl⟩⟩
     clear hWW zz oo kk bb
     go_wp2_with fail
     refine (expr_read X10.out).mono ?_
     rintro e w11 ⟨k11, a11, op11, wd11, n11, nm11, sa11, sl11, sc11, rfl, hk, c11, m11, hx, ha, hp⟩
     have z11 : w10.heap.size ≤ w11.heap.size := hk.size
     have KK := hI hk
     have K11 : Hid (Kq br w w11) := K10.out.trans hk
     have X11 := hI hx
     have A11 := hI ha
     have P11_11 := hI (pe_born hp)
     clear hk hx ha hp
     have LG_11 := vK KK LG_10 (by omega)
     have LI_11 := vK KK LI_10 (by omega)
     have LE_11 := vK KK LE_10 (by omega)
     clear LG_10 LI_10 LE_10
     have P1_11 := hI (pr_to P1_10.out (fun k o hb h => KK.out.get (by omega) h))
     have PL_11 := hI (Rw.to PL_10.out (fun k o hb h => KK.out.get (by omega) h))
     clear P1_10 PL_10
     clear KK
     have HTT : Hid (w11.there (w9.heap.size) 0 (#[.int .i64 k11, .int .i64 a11, .int .i64 op11, .int .i64 wd11, .int .u64 n11, .string nm11, .slice sa11 sl11 sc11] : Array Value).size) := LE_11.out.there 0 7 (by decide)
     have HTI : Hid ((Tryz.prog.info? 55).map (·.size) = some (#[.int .i64 k11, .int .i64 a11, .int .i64 op11, .int .i64 wd11, .int .u64 n11, .string nm11, .slice sa11 sl11 sc11] : Array Value).size) := info55s
     have HTO : Hid ((#[.int .i64 k11, .int .i64 a11, .int .i64 op11, .int .i64 wd11, .int .u64 n11, .string nm11, .slice sa11 sl11 sc11] : Array Value).all (·.oneCell') = true) := arr_one rfl
     go_upto_region 17 with ((with_reducible refine wpList_id ?_); (refine wpList_store_mid rfl 55 (.tmp 10) (.tmp 46) rfl (w9.heap.size) 0 #[.int .i64 k11, .int .i64 a11, .int .i64 op11, .int .i64 wd11, .int .u64 n11, .string nm11, .slice sa11 sl11 sc11] rfl rfl HTT.out HTI.out HTO.out ?_))
     generalize hS : w11.setCells (w9.heap.size) 0 _ = w12
     clear HTT HTI HTO
     replace hS : setFrom w11 (w9.heap.size) 0 [.int .i64 k11, .int .i64 a11, .int .i64 op11, .int .i64 wd11, .int .u64 n11, .string nm11, .slice sa11 sl11 sc11] = w12 := (setCells_from _ _ _ _).symm.trans hS
     obtain ⟨cE_12, bb, hh, ap, zz, oo, kk, xx⟩ := lb_set hS LE_11.out (by simp only [lnC, lnN]; omega) (one_list rfl)
     have z12 : w11.heap.size ≤ w12.heap.size := by omega
     have K12 : Hid (Kq br w w12) := kk br w K11.out (by omega)
     have X12 : Hid (Sx br s w12 c11 m11) := xx br s c11 m11 X11.out (by omega)
     have LE_12 := hI bb
     have HE0_12 : Hid (Has cE_12 0 [.int .i64 k11, .int .i64 a11, .int .i64 op11, .int .i64 wd11, .int .u64 n11, .string nm11, .slice sa11 sl11 sc11]) := hh
     clear LE_11 X11 K11
     have LG_12 := vE (oo _ (by omega)) LG_11
     have LI_12 := vE (oo _ (by omega)) LI_11
     clear LG_11 LI_11
     have P1_12 := hI (pr_to P1_11.out (fun k o hb h => (oo k (by omega)).trans h))
     have PL_12 := hI (Rw.to PL_11.out (fun k o hb h => (oo k (by omega)).trans h))
     have P11_12 := hI (pe_to P11_11.out (fun k o hb h => (oo k (by omega)).trans h))
     clear P1_11 PL_11 P11_11
     clear hS bb hh ap zz oo kk xx
     obtain ⟨pcI34, pfI34⟩ := LI_12.out.cell HI34_8.out.head
     go_upto_region 19 with fail
     generalize hS : w12.setCell ⟨wr.heap.size, 34, none⟩ _ = w13
     clear pcI34 pfI34
     replace hS : setFrom w12 (wr.heap.size) 34 [.bool true] = w13 := hS
     obtain ⟨cI_13, bb, hh, ap, zz, oo, kk, xx⟩ := lb_set hS LI_12.out (by simp only [lnC, lnN]; omega) (one_list rfl)
     have z13 : w12.heap.size ≤ w13.heap.size := by omega
     have K13 : Hid (Kq br w w13) := kk br w K12.out (by omega)
     have X13 : Hid (Sx br s w13 c11 m11) := xx br s c11 m11 X12.out (by omega)
     have LI_13 := hI bb
     have HI1_13 := hI (ap 1 [.int .i64 at9] HI1_8.out (by simp only [lnC, lnN]; omega))
     have HI4_13 := hI (ap 4 [.bool on1, .int .i64 k1x, .int .i64 a1x, .int .i64 op1x, .int .i64 wd1x, .int .u64 n1x, .string nm1x, .slice sa1x sl1x sc1x, .int .i64 k1y, .int .i64 a1y, .int .i64 op1y, .int .i64 wd1y, .int .u64 n1y, .string nm1y, .slice sa1y sl1y sc1y] HI4_8.out (by simp only [lnC, lnN]; omega))
     have HI0_13 := hI (ap 0 [.int .i64 2] HI0_8.out (by simp only [lnC, lnN]; omega))
     have HI2_13 := hI (ap 2 [.string nm7] HI2_8.out (by simp only [lnC, lnN]; omega))
     have HI34_13 : Hid (Has cI_13 34 [.bool true]) := hh
     clear LI_12 X12 K12 HI1_8 HI4_8 HI34_8 HI0_8 HI2_8
     have LG_13 := vE (oo _ (by omega)) LG_12
     have LE_13 := vE (oo _ (by omega)) LE_12
     clear LG_12 LE_12
     have P1_13 := hI (pr_to P1_12.out (fun k o hb h => (oo k (by omega)).trans h))
     have PL_13 := hI (Rw.to PL_12.out (fun k o hb h => (oo k (by omega)).trans h))
     have P11_13 := hI (pe_to P11_12.out (fun k o hb h => (oo k (by omega)).trans h))
     clear P1_12 PL_12 P11_12
     clear hS bb hh ap zz oo kk xx
     have HTT : Hid (w13.there (wr.heap.size) 35 (#[.int .i64 k11, .int .i64 a11, .int .i64 op11, .int .i64 wd11, .int .u64 n11, .string nm11, .slice sa11 sl11 sc11] : Array Value).size) := LI_13.out.there 35 7 (by decide)
     have HTI : Hid ((Tryz.prog.info? 55).map (·.size) = some (#[.int .i64 k11, .int .i64 a11, .int .i64 op11, .int .i64 wd11, .int .u64 n11, .string nm11, .slice sa11 sl11 sc11] : Array Value).size) := info55s
     have HTO : Hid ((#[.int .i64 k11, .int .i64 a11, .int .i64 op11, .int .i64 wd11, .int .u64 n11, .string nm11, .slice sa11 sl11 sc11] : Array Value).all (·.oneCell') = true) := arr_one rfl
     have HRE : Hid (w13.rangeAt (w9.heap.size) 0 [.int .i64 k11, .int .i64 a11, .int .i64 op11, .int .i64 wd11, .int .u64 n11, .string nm11, .slice sa11 sl11 sc11]) := LE_13.out.range HE0_12.out
     go_upto_region 20 with ((with_reducible refine wpList_id ?_); first | (refine wpList_load_mid rfl 55 (.tmp 10) rfl (w9.heap.size) 0 rfl [.int .i64 k11, .int .i64 a11, .int .i64 op11, .int .i64 wd11, .int .u64 n11, .string nm11, .slice sa11 sl11 sc11] _ HRE.out Tryz.underlying55 rfl info55s ?_) | (refine wpList_store_mid rfl 55 (.tmp 53) (.tmp 52) rfl (wr.heap.size) 35 #[.int .i64 k11, .int .i64 a11, .int .i64 op11, .int .i64 wd11, .int .u64 n11, .string nm11, .slice sa11 sl11 sc11] rfl rfl HTT.out HTI.out HTO.out ?_))
     generalize hS : w13.setCells (wr.heap.size) 35 _ = w14
     clear HTT HTI HTO HRE
     replace hS : setFrom w13 (wr.heap.size) 35 [.int .i64 k11, .int .i64 a11, .int .i64 op11, .int .i64 wd11, .int .u64 n11, .string nm11, .slice sa11 sl11 sc11] = w14 := (setCells_from _ _ _ _).symm.trans hS
     obtain ⟨cI_14, bb, hh, ap, zz, oo, kk, xx⟩ := lb_set hS LI_13.out (by simp only [lnC, lnN]; omega) (one_list rfl)
     have z14 : w13.heap.size ≤ w14.heap.size := by omega
     have K14 : Hid (Kq br w w14) := kk br w K13.out (by omega)
     have X14 : Hid (Sx br s w14 c11 m11) := xx br s c11 m11 X13.out (by omega)
     have LI_14 := hI bb
     have HI1_14 := hI (ap 1 [.int .i64 at9] HI1_13.out (by simp only [lnC, lnN]; omega))
     have HI4_14 := hI (ap 4 [.bool on1, .int .i64 k1x, .int .i64 a1x, .int .i64 op1x, .int .i64 wd1x, .int .u64 n1x, .string nm1x, .slice sa1x sl1x sc1x, .int .i64 k1y, .int .i64 a1y, .int .i64 op1y, .int .i64 wd1y, .int .u64 n1y, .string nm1y, .slice sa1y sl1y sc1y] HI4_13.out (by simp only [lnC, lnN]; omega))
     have HI0_14 := hI (ap 0 [.int .i64 2] HI0_13.out (by simp only [lnC, lnN]; omega))
     have HI2_14 := hI (ap 2 [.string nm7] HI2_13.out (by simp only [lnC, lnN]; omega))
     have HI34_14 := hI (ap 34 [.bool true] HI34_13.out (by simp only [lnC, lnN]; omega))
     have HI35_14 : Hid (Has cI_14 35 [.int .i64 k11, .int .i64 a11, .int .i64 op11, .int .i64 wd11, .int .u64 n11, .string nm11, .slice sa11 sl11 sc11]) := hh
     clear LI_13 X13 K13 HI1_13 HI4_13 HI0_13 HI2_13 HI34_13
     have LG_14 := vE (oo _ (by omega)) LG_13
     have LE_14 := vE (oo _ (by omega)) LE_13
     clear LG_13 LE_13
     have P1_14 := hI (pr_to P1_13.out (fun k o hb h => (oo k (by omega)).trans h))
     have PL_14 := hI (Rw.to PL_13.out (fun k o hb h => (oo k (by omega)).trans h))
     have P11_14 := hI (pe_to P11_13.out (fun k o hb h => (oo k (by omega)).trans h))
     clear P1_13 PL_13 P11_13
     clear hS bb hh ap zz oo kk xx
     obtain ⟨xr15, hxo15, hxS15, hxL15, hxN15⟩ := Rw.own2 ((PL_14.out.sub (S' := fun b => w.heap.size ≤ b) (fun b hb => by show w.heap.size ≤ b; omega))) (x0 := w14.heap.size) (by show w.heap.size ≤ w14.heap.size; omega) (by omega)
     have HXN15 := hI hxN15
     clear hxN15
     have hxS15 : w.heap.size ≤ xr15 := hxS15
     have HXO15 := hI hxo15
     clear hxo15
     obtain ⟨i5, hi, hzz, hsz, hby⟩ := info95'
     have HI5 := hI hi
     have HZ5 := hI hzz
     have HS5 := hI hsz
     have HB5 := hI hby
     clear hi hzz hsz hby
     have HSZ5 : Hid (cI_14.size = 65) := LI_14.out.size
     have HLE5 : Hid (cI_14.toList.length = 1 * 65) := by show _ = _; rw [Array.length_toList, HSZ5.out]
     have HIN5 : Hid ((Tryz.prog.info? 95).map (·.size) = some cI_14.toList.length) := by show _ = _; rw [HLE5.out]; exact info95s
     have HWH5 : Hid (w14.rangeAt (wr.heap.size) 0 cI_14.toList) := LI_14.out.whole
     go_upto_region 21 with ((with_reducible refine wpList_id ?_); first | (refine wpList_load_mid rfl 95 (.tmp 7) rfl (wr.heap.size) 0 rfl cI_14.toList _ HWH5.out Tryz.underlying95 rfl HIN5.out ?_) | (refine wpList_build_one rfl 38 (.tmp 55) rfl 95 cI_14 65 rfl Tryz.underlying38 i5 HI5.out _ HZ5.out HS5.out HSZ5.out (by decide) (by decide) ?_) | (at_builtin; refine wpList_append_lies _ rfl (.tmp 54) (.tmp 56) 38 rfl (w3.heap.size) 95 i5 _ 65 832 Tryz.underlying38 HI5.out HZ5.out HS5.out HB5.out rfl (by decide) (.slice sa sl sc) (es.length) _ rfl (Rw.alloc ((PL_14.out.sub (S' := fun b => w.heap.size ≤ b) (fun b hb => by show w.heap.size ≤ b; omega))) _).1 ⟨w14.heap.size, 0, none⟩ 1 1 cI_14.toList rfl HLE5.out (new_cellsA w14 95 cI_14) LI_14.out.one (by decide) (by simp only [maxLen]; omega) (by omega) (by simp; omega) _ rfl ?_; intro g15 cap15 w15 hownX hgrowX hatX hltX; have OB := hI hownX; have GB := hI hgrowX; have TB := hI hatX; clear hownX hgrowX hatX))
     obtain ⟨kk, ⟨sg15, sz15⟩, rr⟩ := row_app0 (S := fun b => w.heap.size ≤ b) (xr := xr15) ((PL_14.out.sub (S' := fun b => w.heap.size ≤ b) (fun b hb => by show w.heap.size ≤ b; omega))) OB.out GB.out TB.out rfl hltX HXO15.out (by show w.heap.size ≤ _; simp only [World.size_alloc]; omega)
     have sg15 : w.heap.size ≤ g15 := sg15
     have z15 : w14.heap.size ≤ w15.heap.size := kk.size
     have K15 : Hid (Kq br w w15) := K14.out.comp kk (by omega)
     have X15 : Hid (Sx br s w15 c11 m11) := kk.sx (by omega) X14.out
     have KK := hI kk
     have RR := hI rr
     have RRR := hI (row_app0 (E := elR) (S := fun b => w.heap.size ≤ b) (xr := xr15) (Rw.raw ((PL_14.out.sub (S' := fun b => w.heap.size ≤ b) (fun b hb => by show w.heap.size ≤ b; omega)))) (by rw [flat_id]; exact OB.out) GB.out TB.out rfl hltX HXO15.out (by show w.heap.size ≤ _; simp only [World.size_alloc]; omega)).2.2
     have hgx15 : g15 = xr15 ∨ g15 = w14.heap.size + 1 := (own_g TB.out HXO15.out).imp id (fun h => h.trans (World.size_alloc _ _))
     clear kk rr hltX OB GB TB X14 K14 HI5 HZ5 HS5 HB5 HSZ5 HLE5 HIN5 HWH5
     have PM_15 : Hid (Its (c11 = 0) (fun b => w.heap.size ≤ b) w3.heap.size w15 (.slice (some ⟨g15, 0, none⟩) (es.length + 1) cap15) (2 * (m1 - m11) + 2) (fun xs => xs.length + 2 * m11 ≤ 2 * m1 ∧ (xs.map (fun x : ItemD => x.2)).flatten.length ≤ 4000000 * (m1 - m11))) := by
      have hmX : m11 ≤ mr := by have hA : Adv 0 mr c11 m11 := Adv.trans (A7.out) (Adv.trans (⟨Nat.le_of_lt hm9, fun _ => ⟨rfl, hm9⟩⟩) (A11.out)); exact hA.1
      refine ⟨es.map (fun x : ItemD => x.1) ++ [cI_14.toList], RRR.out [cI_14.toList] (by simp) (by simp [elR]) (by simp) (fun y hy => by rw [List.mem_singleton] at hy; subst hy; exact LI_14.out.big.1), ones_snoc PL_14.out LI_14.out.one, by simp only [lnA, List.length_map, lnC, lnN]; omega, ?_⟩
      intro hc
      obtain ⟨te, hpe, hle⟩ := P11_14.out hc
      have hA11 := (A11.out.2 hc).2
      have hA7 := (A7.out.2 (by trivial)).2
      obtain ⟨tr, hr, hlr⟩ := P1_14.out HC1.out
      have AX : Adv 0 mr c11 m11 := Adv.trans (A7.out) (Adv.trans (⟨Nat.le_of_lt hm9, fun _ => ⟨rfl, hm9⟩⟩) (A11.out))
      have hl0 := HLL.out
      have hAX := (AX.2 hc).2
      have hP : PI (fun b => (w.heap.size ≤ b) ∧ some b ≠ (Value.slice sa sl sc).ownBlock) w14 cI_14.toList ([114, 101, 103, 32] ++ tr ++ nm7.data.toList ++ ([32, 61, 32] ++ te) ++ [59, 10]) := PI.reg _ LI_14.out.big nm7.data.toList [.bool on1, .int .i64 k1x, .int .i64 a1x, .int .i64 op1x, .int .i64 wd1x, .int .u64 n1x, .string nm1x, .slice sa1x sl1x sc1x, .int .i64 k1y, .int .i64 a1y, .int .i64 op1y, .int .i64 wd1y, .int .u64 n1y, .string nm1y, .slice sa1y sl1y sc1y] tr true k11 [.int .i64 k11, .int .i64 a11, .int .i64 op11, .int .i64 wd11, .int .u64 n11, .string nm11, .slice sa11 sl11 sc11] te HI0_14.out.l (by rw [bs_of]; exact HI2_14.out.l) HI4_14.out.l (hr.mono (fun b hb => by exact ⟨by show w.heap.size ≤ b; omega, Rw.low PL_14.out (by omega)⟩) (fun _ _ _ _ hu => hu)) HI34_14.out.l (fun _ => ⟨HI35_14.out.l, hpe.mono (fun b hb => by exact ⟨by show w.heap.size ≤ b; omega, Rw.not_own PL_14.out (by show ¬ (w.heap.size ≤ b ∧ b < wr.heap.size); omega)⟩) (fun _ _ _ _ hu => hu)⟩)
      refine ⟨es ++ [(cI_14.toList, [114, 101, 103, 32] ++ tr ++ nm7.data.toList ++ ([32, 61, 32] ++ te) ++ [59, 10])], RR.out [(cI_14.toList, [114, 101, 103, 32] ++ tr ++ nm7.data.toList ++ ([32, 61, 32] ++ te) ++ [59, 10])] (by simp) (by simp [elI]) rfl ?_, by simp, ?_, ?_⟩
      ·intro y hy
       rw [List.mem_singleton] at hy
       subst hy
       exact hP
      ·simp only [lnA, lnC, lnN]; omega
      ·rw [List.map_append, List.flatten_append]
       simp only [List.map_cons, List.map_nil, List.flatten_cons, List.flatten_nil, lnA, lnC, lnN, len_of]
       omega
     clear LI_14
     clear LE_14
     clear PL_14
     clear P11_14
     have LG_15 := vK KK LG_14 (by omega)
     clear LG_14
     have P1_15 := hI (pr_to P1_14.out (fun k o hb h => KK.out.get (by omega) h))
     clear P1_14
     clear KK RR HXO15 RRR
     go_wp2_with fail
     refine accept_alt X15.out _ ?_ ?_
     ·intro hc0 m19 w19 hm19 hk hx
      subst hc0
      have z19 : w15.heap.size ≤ w19.heap.size := hk.size
      have KK := hI hk
      have K19 : Hid (Kq br w w19) := K15.out.trans hk
      have X19 := hI hx
      clear hk hx X15 K15
      have LG_19 := vK KK LG_15 (by omega)
      clear LG_15
      have P1_19 := hI (pr_to P1_15.out (fun k o hb h => KK.out.get (by omega) h))
      have PM_19 := hI (its_to PM_15.out (fun k o hb h => KK.out.get (by omega) h))
      clear P1_15 PM_15
      clear KK
      go_wp2_with fail
      have AX : Adv 0 mr 0 m19 := Adv.trans (A7.out) (Adv.trans (⟨Nat.le_of_lt hm9, fun _ => ⟨rfl, hm9⟩⟩) (Adv.trans (A11.out) (⟨Nat.le_of_lt hm19, fun _ => ⟨rfl, hm19⟩⟩)))
      go_roundg (meas 0 m19)
      case measure => have := meas_next AX; omega
      case rel => exact ⟨0, m19, _, _, _, rfl, rfl, X19, K19, LG_19, by omega, P1_19, (PM_19.out.mono (fun _ => by trivial) (fun b hb => hb) (Nat.le_refl _) (by omega) (fun es hc hF => ⟨by omega, by omega⟩) : Hid _), by have := AX.1; omega, (fun _ => HC1.out : Hid _)⟩
     go_wp2_with fail
     refine (must_any X15.out _).mono ?_
     rintro e w20 ⟨rfl, hk, c20, m20, hx, ha⟩
     have z20 : w15.heap.size ≤ w20.heap.size := hk.size
     have KK := hI hk
     have K20 : Hid (Kq br w w20) := K15.out.trans hk
     have X20 := hI hx
     have A20 := hI ha
     clear hk hx ha
     have LG_20 := vK KK LG_15 (by omega)
     clear LG_15
     have P1_20 := hI (pr_to P1_15.out (fun k o hb h => KK.out.get (by omega) h))
     have PM_20 := hI (its_to PM_15.out (fun k o hb h => KK.out.get (by omega) h))
     clear P1_15 PM_15
     clear KK
     go_wp2_with fail
     go_ret
     have AX : Adv 0 mr c11 m11 := Adv.trans (A7.out) (Adv.trans (⟨Nat.le_of_lt hm9, fun _ => ⟨rfl, hm9⟩⟩) (A11.out))
     refine ⟨_, _, _, rfl, K20.out, c20, m20, X20.out, ⟨by have := AX.1; have := A20.out.1; omega, fun e => ⟨rfl, by have := (A20.out.2 e).2; have := AX.1; omega⟩⟩, ?_⟩
     have hAX := AX.1
     have hA20 := A20.out.1
     refine PM_20.out.mono (fun e => (A20.out.2 e).1) (fun b hb => hb) (by omega) (by omega) (fun es hc hF => ?_)
     have hm20 := (A20.out.2 hc).2
     exact ⟨by omega, by omega⟩
    go_upto_region 15 with fail
    generalize hWW : w8.alloc (.cells _ 55) = w10
    obtain ⟨zz, bb, oo, kk⟩ := one_box hWW
    have z10 : w8.heap.size < w10.heap.size := by omega
    have K10 : Hid (Kq br w w10) := K8.out.trans (kk br).out
    have X10 : Hid (Sx br s w10 c7 m7) := X8.out.to (oo br X8.out.lt)
    clear X8 K8
    have LG_10 := hI (LG_8.out.via (fun e => (oo _ (heap_lt (hI e).out)).trans (hI e).out))
    have LI_10 := hI (LI_8.out.via (fun e => (oo _ (heap_lt (hI e).out)).trans (hI e).out))
    clear LG_8 LI_8
    have P1_10 := hI (pr_to P1_8.out (fun k o hb h => (oo k (heap_lt h)).trans h))
    have PL_10 := hI (Rw.to PL_8.out (fun k o hb h => (oo k (heap_lt h)).trans h))
    clear P1_8 PL_8
    obtain ⟨cE_10, LE_10⟩ : ∃ cs, Hid (Lb w10 (w8.heap.size) 7 55 cs) := ⟨_, ⟨bb, rfl, one_of rfl⟩⟩
    clear hWW zz oo kk bb
    go_upto_region 20 with fail
    obtain ⟨xr11, hxo11, hxS11, hxL11, hxN11⟩ := Rw.own2 ((PL_10.out.sub (S' := fun b => w.heap.size ≤ b) (fun b hb => by show w.heap.size ≤ b; omega))) (x0 := w10.heap.size) (by show w.heap.size ≤ w10.heap.size; omega) (by omega)
    have HXN11 := hI hxN11
    clear hxN11
    have hxS11 : w.heap.size ≤ xr11 := hxS11
    have HXO11 := hI hxo11
    clear hxo11
    obtain ⟨i5, hi, hzz, hsz, hby⟩ := info95'
    have HI5 := hI hi
    have HZ5 := hI hzz
    have HS5 := hI hsz
    have HB5 := hI hby
    clear hi hzz hsz hby
    have HSZ5 : Hid (cI_8.size = 65) := LI_10.out.size
    have HLE5 : Hid (cI_8.toList.length = 1 * 65) := by show _ = _; rw [Array.length_toList, HSZ5.out]
    have HIN5 : Hid ((Tryz.prog.info? 95).map (·.size) = some cI_8.toList.length) := by show _ = _; rw [HLE5.out]; exact info95s
    have HWH5 : Hid (w10.rangeAt (wr.heap.size) 0 cI_8.toList) := LI_10.out.whole
    go_upto_region 21 with ((with_reducible refine wpList_id ?_); first | (refine wpList_load_mid rfl 95 (.tmp 7) rfl (wr.heap.size) 0 rfl cI_8.toList _ HWH5.out Tryz.underlying95 rfl HIN5.out ?_) | (refine wpList_build_one rfl 38 (.tmp 55) rfl 95 cI_8 65 rfl Tryz.underlying38 i5 HI5.out _ HZ5.out HS5.out HSZ5.out (by decide) (by decide) ?_) | (at_builtin; refine wpList_append_lies _ rfl (.tmp 54) (.tmp 56) 38 rfl (w3.heap.size) 95 i5 _ 65 832 Tryz.underlying38 HI5.out HZ5.out HS5.out HB5.out rfl (by decide) (.slice sa sl sc) (es.length) _ rfl (Rw.alloc ((PL_10.out.sub (S' := fun b => w.heap.size ≤ b) (fun b hb => by show w.heap.size ≤ b; omega))) _).1 ⟨w10.heap.size, 0, none⟩ 1 1 cI_8.toList rfl HLE5.out (new_cellsA w10 95 cI_8) LI_10.out.one (by decide) (by simp only [maxLen]; omega) (by omega) (by simp; omega) _ rfl ?_; intro g11 cap11 w11 hownX hgrowX hatX hltX; have OB := hI hownX; have GB := hI hgrowX; have TB := hI hatX; clear hownX hgrowX hatX))
    obtain ⟨kk, ⟨sg11, sz11⟩, rr⟩ := row_app0 (S := fun b => w.heap.size ≤ b) (xr := xr11) ((PL_10.out.sub (S' := fun b => w.heap.size ≤ b) (fun b hb => by show w.heap.size ≤ b; omega))) OB.out GB.out TB.out rfl hltX HXO11.out (by show w.heap.size ≤ _; simp only [World.size_alloc]; omega)
    have sg11 : w.heap.size ≤ g11 := sg11
    have z11 : w10.heap.size ≤ w11.heap.size := kk.size
    have K11 : Hid (Kq br w w11) := K10.out.comp kk (by omega)
    have X11 : Hid (Sx br s w11 c7 m7) := kk.sx (by omega) X10.out
    have KK := hI kk
    have RR := hI rr
    have RRR := hI (row_app0 (E := elR) (S := fun b => w.heap.size ≤ b) (xr := xr11) (Rw.raw ((PL_10.out.sub (S' := fun b => w.heap.size ≤ b) (fun b hb => by show w.heap.size ≤ b; omega)))) (by rw [flat_id]; exact OB.out) GB.out TB.out rfl hltX HXO11.out (by show w.heap.size ≤ _; simp only [World.size_alloc]; omega)).2.2
    have hgx11 : g11 = xr11 ∨ g11 = w10.heap.size + 1 := (own_g TB.out HXO11.out).imp id (fun h => h.trans (World.size_alloc _ _))
    clear kk rr hltX OB GB TB X10 K10 HI5 HZ5 HS5 HB5 HSZ5 HLE5 HIN5 HWH5
    have PM_11 : Hid (Its (c7 = 0) (fun b => w.heap.size ≤ b) w3.heap.size w11 (.slice (some ⟨g11, 0, none⟩) (es.length + 1) cap11) (2 * (m1 - m7) + 2) (fun xs => xs.length + 2 * m7 ≤ 2 * m1 ∧ (xs.map (fun x : ItemD => x.2)).flatten.length ≤ 4000000 * (m1 - m7))) := by
     have hmX : m7 ≤ mr := by have hA : Adv 0 mr c7 m7 := A7.out; exact hA.1
     refine ⟨es.map (fun x : ItemD => x.1) ++ [cI_8.toList], RRR.out [cI_8.toList] (by simp) (by simp [elR]) (by simp) (fun y hy => by rw [List.mem_singleton] at hy; subst hy; exact LI_10.out.big.1), ones_snoc PL_10.out LI_10.out.one, by simp only [lnA, List.length_map, lnC, lnN]; omega, ?_⟩
     intro hc
     obtain ⟨tr, hr, hlr⟩ := P1_10.out HC1.out
     have AX : Adv 0 mr c7 m7 := A7.out
     have hl0 := HLL.out
     have hAX := (AX.2 hc).2
     have hP : PI (fun b => (w.heap.size ≤ b) ∧ some b ≠ (Value.slice sa sl sc).ownBlock) w10 cI_8.toList ([114, 101, 103, 32] ++ tr ++ nm7.data.toList ++ [] ++ [59, 10]) := PI.reg _ LI_10.out.big nm7.data.toList [.bool on1, .int .i64 k1x, .int .i64 a1x, .int .i64 op1x, .int .i64 wd1x, .int .u64 n1x, .string nm1x, .slice sa1x sl1x sc1x, .int .i64 k1y, .int .i64 a1y, .int .i64 op1y, .int .i64 wd1y, .int .u64 n1y, .string nm1y, .slice sa1y sl1y sc1y] tr false 0 [] [] HI0_8.out.l (by rw [bs_of]; exact HI2_8.out.l) HI4_8.out.l (hr.mono (fun b hb => by exact ⟨by show w.heap.size ≤ b; omega, Rw.low PL_10.out (by omega)⟩) (fun _ _ _ _ hu => hu)) HI34_8.out.l (fun h => by cases h)
     refine ⟨es ++ [(cI_8.toList, [114, 101, 103, 32] ++ tr ++ nm7.data.toList ++ [] ++ [59, 10])], RR.out [(cI_8.toList, [114, 101, 103, 32] ++ tr ++ nm7.data.toList ++ [] ++ [59, 10])] (by simp) (by simp [elI]) rfl ?_, by simp, ?_, ?_⟩
     ·intro y hy
      rw [List.mem_singleton] at hy
      subst hy
      exact hP
     ·simp only [lnA, lnC, lnN]; omega
     ·rw [List.map_append, List.flatten_append]
      simp only [List.map_cons, List.map_nil, List.flatten_cons, List.flatten_nil, lnA, lnC, lnN, len_of]
      omega
    clear LI_10
    clear LE_10
    clear PL_10
    have LG_11 := vK KK LG_10 (by omega)
    clear LG_10
    have P1_11 := hI (pr_to P1_10.out (fun k o hb h => KK.out.get (by omega) h))
    clear P1_10
    clear KK RR HXO11 RRR
    go_wp2_with fail
    refine accept_alt X11.out _ ?_ ?_
    ·intro hc0 m19 w19 hm19 hk hx
     subst hc0
     have z19 : w11.heap.size ≤ w19.heap.size := hk.size
     have KK := hI hk
     have K19 : Hid (Kq br w w19) := K11.out.trans hk
     have X19 := hI hx
     clear hk hx X11 K11
     have LG_19 := vK KK LG_11 (by omega)
     clear LG_11
     have P1_19 := hI (pr_to P1_11.out (fun k o hb h => KK.out.get (by omega) h))
     have PM_19 := hI (its_to PM_11.out (fun k o hb h => KK.out.get (by omega) h))
     clear P1_11 PM_11
     clear KK
     go_wp2_with fail
     have AX : Adv 0 mr 0 m19 := Adv.trans (A7.out) (⟨Nat.le_of_lt hm19, fun _ => ⟨rfl, hm19⟩⟩)
     go_roundg (meas 0 m19)
     case measure => have := meas_next AX; omega
     case rel => exact ⟨0, m19, _, _, _, rfl, rfl, X19, K19, LG_19, by omega, P1_19, (PM_19.out.mono (fun _ => by trivial) (fun b hb => hb) (Nat.le_refl _) (by omega) (fun es hc hF => ⟨by omega, by omega⟩) : Hid _), by have := AX.1; omega, (fun _ => HC1.out : Hid _)⟩
    go_wp2_with fail
    refine (must_any X11.out _).mono ?_
    rintro e w20 ⟨rfl, hk, c20, m20, hx, ha⟩
    have z20 : w11.heap.size ≤ w20.heap.size := hk.size
    have KK := hI hk
    have K20 : Hid (Kq br w w20) := K11.out.trans hk
    have X20 := hI hx
    have A20 := hI ha
    clear hk hx ha
    have LG_20 := vK KK LG_11 (by omega)
    clear LG_11
    have P1_20 := hI (pr_to P1_11.out (fun k o hb h => KK.out.get (by omega) h))
    have PM_20 := hI (its_to PM_11.out (fun k o hb h => KK.out.get (by omega) h))
    clear P1_11 PM_11
    clear KK
    go_wp2_with fail
    go_ret
    have AX : Adv 0 mr c7 m7 := A7.out
    refine ⟨_, _, _, rfl, K20.out, c20, m20, X20.out, ⟨by have := AX.1; have := A20.out.1; omega, fun e => ⟨rfl, by have := (A20.out.2 e).2; have := AX.1; omega⟩⟩, ?_⟩
    have hAX := AX.1
    have hA20 := A20.out.1
    refine PM_20.out.mono (fun e => (A20.out.2 e).1) (fun b hb => hb) (by omega) (by omega) (fun es hc hF => ?_)
    have hm20 := (A20.out.2 hc).2
    exact ⟨by omega, by omega⟩
  ·have g1 : (cr == 0) = false := beq_eq_false_iff_ne.2 hcz
   go_wp2_with fail
   clear g1
   clear f0 f1 f2 f3 f4 f5 f6 f7 f8 fz
   have hcn := hcz
   refine (must_any XR.out _).mono ?_
   rintro e w20 ⟨rfl, hk, c20, m20, hx, ha⟩
   have z20 : wr.heap.size ≤ w20.heap.size := hk.size
   have KK := hI hk
   have K20 : Hid (Kq br w w20) := KR.out.trans hk
   have X20 := hI hx
   have A20 := hI ha
   clear hk hx ha
   have LG_20 := vK KK LG_r (by omega)
   clear LG_r
   have P1_20 := hI (pr_to PG_r.out (fun k o hb h => KK.out.get (by omega) h))
   have PL_20 := hI (its_to PL_r.out (fun k o hb h => KK.out.get (by omega) h))
   clear PG_r PL_r
   clear KK
   go_wp2_with fail
   go_ret
   refine ⟨_, _, _, rfl, K20.out, c20, m20, X20.out, ⟨by have := A20.out.1; omega, fun e => absurd (A20.out.2 e).1 hcn⟩, PL_20.out.mono (fun e => (A20.out.2 e).1) (fun b hb => hb) (by omega) (by have := A20.out.1; omega) (fun es hc hF => absurd (A20.out.2 hc).1 hcn)⟩
end Go.Proofs.YtimmmlnememjiaaGreatDoor
