import Derived.Test.YtimmmlnememjiaaGreatDoorX
import Derived.Test.YtimmmlnememjiaaGreatDoorX24
set_option maxRecDepth 100000
set_option maxHeartbeats 16000000
namespace Go.Proofs.YtimmmlnememjiaaGreatDoor
open Go.RowKit
theorem nets_wire (br : Nat) (s : ByteArray) (m : Nat) (w : World) (h : Sx br s w 0 m) :
  Calls Tryz.prog 55 #[.pointer (some ⟨br, 0, none⟩), .bool false] w (ItPost br s 0 m w) := by
 have X0 := hI h
 have hlt := h.lt
 have hm60 : m ≤ 60001 := h.le
 have K0 : Hid (Kq br w w) := Kq.refl _ _
 clear h
 go_enter Tryz.func55, Tryz.ntmps55
 go_wp2_with fail
 refine (span_any br s 0 m w X0.out).mono ?_
 rintro e w1 ⟨on1, k1x, a1x, op1x, wd1x, n1x, nm1x, sa1x, sl1x, sc1x, k1y, a1y, op1y, wd1y, n1y, nm1y, sa1y, sl1y, sc1y, rfl, hk, c1, m1, hx, hmm1, hcc1, hp⟩
 have z1 : w.heap.size ≤ w1.heap.size := hk.size
 have KK := hI hk
 have K1 : Hid (Kq br w w1) := K0.out.trans hk
 have X1 := hI hx
 have P1_1 := hI (pr_born hp)
 clear hk hx hp
 clear KK
 have HCC1 := hI hcc1
 clear hcc1
 have HTO : Hid ((#[.bool on1, .int .i64 k1x, .int .i64 a1x, .int .i64 op1x, .int .i64 wd1x, .int .u64 n1x, .string nm1x, .slice sa1x sl1x sc1x, .int .i64 k1y, .int .i64 a1y, .int .i64 op1y, .int .i64 wd1y, .int .u64 n1y, .string nm1y, .slice sa1y sl1y sc1y] : Array Value).all (·.oneCell') = true) := arr_one rfl
 go_upto_region 2 with ((with_reducible refine wpList_id ?_); refine wpList_store_mid rfl 60 (.tmp 5) (.tmp 13) rfl w1.heap.size 0 #[.bool on1, .int .i64 k1x, .int .i64 a1x, .int .i64 op1x, .int .i64 wd1x, .int .u64 n1x, .string nm1x, .slice sa1x sl1x sc1x, .int .i64 k1y, .int .i64 a1y, .int .i64 op1y, .int .i64 wd1y, .int .u64 n1y, .string nm1y, .slice sa1y sl1y sc1y] rfl rfl (there_new1 _ _ _ _ rfl) info60s HTO.out ?_)
 generalize hWW : w1.alloc (.cells _ 60) = w2
 clear HTO
 obtain ⟨zz, bb, oo, kk⟩ := one_box hWW
 have z2 : w1.heap.size < w2.heap.size := by omega
 have K2 : Hid (Kq br w w2) := K1.out.trans (kk br).out
 have X2 : Hid (Sx br s w2 c1 m1) := X1.out.to (oo br X1.out.lt)
 clear X1 K1
 have P1_2 := hI (pr_to P1_1.out (fun k o hb h => (oo k (heap_lt h)).trans h))
 clear P1_1
 obtain ⟨cG_2, LG_2⟩ : ∃ cs, Hid (Lb w2 (w1.heap.size) 15 60 cs) := ⟨_, ⟨bb, rfl, one_of rfl⟩⟩
 clear hWW zz oo kk bb
 generalize hS : w2.setCells (w1.heap.size) 0 _ = w3
 replace hS : setFrom w2 (w1.heap.size) 0 [.bool on1, .int .i64 k1x, .int .i64 a1x, .int .i64 op1x, .int .i64 wd1x, .int .u64 n1x, .string nm1x, .slice sa1x sl1x sc1x, .int .i64 k1y, .int .i64 a1y, .int .i64 op1y, .int .i64 wd1y, .int .u64 n1y, .string nm1y, .slice sa1y sl1y sc1y] = w3 := (setCells_from _ _ _ _).symm.trans hS
 obtain ⟨cG_3, bb, hh, ap, zz, oo, kk, xx⟩ := lb_set hS LG_2.out (by simp only [lnC, lnN]; omega) (one_list rfl)
 have z3 : w2.heap.size ≤ w3.heap.size := by omega
 have K3 : Hid (Kq br w w3) := kk br w K2.out (by omega)
 have X3 : Hid (Sx br s w3 c1 m1) := xx br s c1 m1 X2.out (by omega)
 have LG_3 := hI bb
 have HG0_3 : Hid (Has cG_3 0 [.bool on1, .int .i64 k1x, .int .i64 a1x, .int .i64 op1x, .int .i64 wd1x, .int .u64 n1x, .string nm1x, .slice sa1x sl1x sc1x, .int .i64 k1y, .int .i64 a1y, .int .i64 op1y, .int .i64 wd1y, .int .u64 n1y, .string nm1y, .slice sa1y sl1y sc1y]) := hh
 clear LG_2 X2 K2
 have P1_3 := hI (pr_to P1_2.out (fun k o hb h => (oo k (by omega)).trans h))
 clear P1_2
 clear hS bb hh ap zz oo kk xx
 go_wp2_with fail
 have hm1 : m1 ≤ 60001 := X3.out.le
 go_loopg [6] (meas c1 m1) (fun gk o wr => ∃ (cr : Int) (mr : Nat) (sa : Option Addr) (sl sc : Nat), o = .slice sa sl sc ∧ gk = meas cr mr ∧ Hid (Sx br s wr cr mr) ∧ Hid (Kq br w wr) ∧ Hid (Lb wr (w1.heap.size) 15 60 cG_3) ∧ w3.heap.size ≤ wr.heap.size ∧ Hid (c1 = 0 → ∃ t, PRg (fun b => w.heap.size ≤ b ∧ b < w1.heap.size) wr [.bool on1, .int .i64 k1x, .int .i64 a1x, .int .i64 op1x, .int .i64 wd1x, .int .u64 n1x, .string nm1x, .slice sa1x sl1x sc1x, .int .i64 k1y, .int .i64 a1y, .int .i64 op1y, .int .i64 wd1y, .int .u64 n1y, .string nm1y, .slice sa1y sl1y sc1y] t ∧ t.length ≤ 64 * (m - m1)) ∧ Hid (Its (cr = 0) (fun b => w.heap.size ≤ b) w3.heap.size wr (.slice sa sl sc) (2 * (m1 - mr) + 2) (fun xs => xs.length + 2 * mr ≤ 2 * m1 ∧ (xs.map (fun x : ItemD => x.2)).flatten.length ≤ 4000000 * (m1 - mr))) ∧ mr ≤ m1 ∧ Hid (cr = 0 → c1 = 0))
 case atStart => exact ⟨c1, m1, none, 0, 0, rfl, rfl, X3, K3, LG_3, Nat.le_refl _, P1_3, (Its.nil (by simp) : Hid _), Nat.le_refl _, (fun h => h : Hid _)⟩
 case round =>
  obtain ⟨cr, mr, sa, sl, sc, rfl, hgk, XR, KR, LG_r, zR, PG_r, PL_r, hmr, HC1⟩ := hrel
  clear X3 K3 LG_3 P1_3
  have XS := XR.out
  obtain ⟨kt, wdt, nt, Tt, at9, qt, fat, hra, h'⟩ := XS
  obtain ⟨f0, f1, f2, f3, f4, f5, f6, f7, f8, fz⟩ := hra.all
  clear h' hra
  by_cases hcz : cr = 0
  ·subst hcz
   obtain ⟨rs0, _, _, _, hcd⟩ := PL_r.out
   obtain ⟨es, hR, _, hn, hl⟩ := hcd rfl
   clear hcd
   have HR := hI hR.strong
   have HLL := hI hl
   have hc1 := HC1.out rfl
   clear HC1
   have HC1 := hI hc1
   clear hR hl hc1 PL_r
   go_upto_region 4 with fail
   obtain ⟨pg0, _⟩ := LG_r.out.cell (HG0_3.out 0 _ rfl)
   obtain ⟨pg1, _⟩ := LG_r.out.cell (HG0_3.out 1 _ rfl)
   obtain ⟨pg2, _⟩ := LG_r.out.cell (HG0_3.out 2 _ rfl)
   obtain ⟨pg3, _⟩ := LG_r.out.cell (HG0_3.out 3 _ rfl)
   obtain ⟨pg4, _⟩ := LG_r.out.cell (HG0_3.out 4 _ rfl)
   obtain ⟨pg5, _⟩ := LG_r.out.cell (HG0_3.out 5 _ rfl)
   obtain ⟨pg6, _⟩ := LG_r.out.cell (HG0_3.out 6 _ rfl)
   obtain ⟨pg7, _⟩ := LG_r.out.cell (HG0_3.out 7 _ rfl)
   obtain ⟨pg8, _⟩ := LG_r.out.cell (HG0_3.out 8 _ rfl)
   obtain ⟨pg9, _⟩ := LG_r.out.cell (HG0_3.out 9 _ rfl)
   obtain ⟨pg10, _⟩ := LG_r.out.cell (HG0_3.out 10 _ rfl)
   obtain ⟨pg11, _⟩ := LG_r.out.cell (HG0_3.out 11 _ rfl)
   obtain ⟨pg12, _⟩ := LG_r.out.cell (HG0_3.out 12 _ rfl)
   obtain ⟨pg13, _⟩ := LG_r.out.cell (HG0_3.out 13 _ rfl)
   obtain ⟨pg14, _⟩ := LG_r.out.cell (HG0_3.out 14 _ rfl)
   obtain ⟨_, gfz, _⟩ := bxN LG_r.out.heap
   have nbr := cell_alloc (.cells Tryz.zeroCells95 95) f2
   have ng0 := cell_alloc (.cells Tryz.zeroCells95 95) pg0
   have ng1 := cell_alloc (.cells Tryz.zeroCells95 95) pg1
   have ng2 := cell_alloc (.cells Tryz.zeroCells95 95) pg2
   have ng3 := cell_alloc (.cells Tryz.zeroCells95 95) pg3
   have ng4 := cell_alloc (.cells Tryz.zeroCells95 95) pg4
   have ng5 := cell_alloc (.cells Tryz.zeroCells95 95) pg5
   have ng6 := cell_alloc (.cells Tryz.zeroCells95 95) pg6
   have ng7 := cell_alloc (.cells Tryz.zeroCells95 95) pg7
   have ng8 := cell_alloc (.cells Tryz.zeroCells95 95) pg8
   have ng9 := cell_alloc (.cells Tryz.zeroCells95 95) pg9
   have ng10 := cell_alloc (.cells Tryz.zeroCells95 95) pg10
   have ng11 := cell_alloc (.cells Tryz.zeroCells95 95) pg11
   have ng12 := cell_alloc (.cells Tryz.zeroCells95 95) pg12
   have ng13 := cell_alloc (.cells Tryz.zeroCells95 95) pg13
   have ng14 := cell_alloc (.cells Tryz.zeroCells95 95) pg14
   have HL5 : Hid ((x95 Tryz.zeroCells95 at9 [.bool on1, .int .i64 k1x, .int .i64 a1x, .int .i64 op1x, .int .i64 wd1x, .int .u64 n1x, .string nm1x, .slice sa1x sl1x sc1x, .int .i64 k1y, .int .i64 a1y, .int .i64 op1y, .int .i64 wd1y, .int .u64 n1y, .string nm1y, .slice sa1y sl1y sc1y]).toList = (((((((((((((((((Tryz.zeroCells95.toList.set 0 (.int .i64 1)).set 1 (.int .i64 at9)).set 4 (.bool on1)).set 5 (.int .i64 k1x)).set 6 (.int .i64 a1x)).set 7 (.int .i64 op1x)).set 8 (.int .i64 wd1x)).set 9 (.int .u64 n1x)).set 10 (.string nm1x)).set 11 (.slice sa1x sl1x sc1x)).set 12 (.int .i64 k1y)).set 13 (.int .i64 a1y)).set 14 (.int .i64 op1y)).set 15 (.int .i64 wd1y)).set 16 (.int .u64 n1y)).set 17 (.string nm1y)).set 18 (.slice sa1y sl1y sc1y))) := by show _ = _; simp [x95, z95, arrFrom]
   have hst := store_drawn wr (x95 Tryz.zeroCells95 at9 [.bool on1, .int .i64 k1x, .int .i64 a1x, .int .i64 op1x, .int .i64 wd1x, .int .u64 n1x, .string nm1x, .slice sa1x sl1x sc1x, .int .i64 k1y, .int .i64 a1y, .int .i64 op1y, .int .i64 wd1y, .int .u64 n1y, .string nm1y, .slice sa1y sl1y sc1y]) (x95_size _ _) (x95_one _ (one_list rfl))
   rw [HL5.out] at hst
   go_big_region
   generalize hvd : Value.agg (Array.setIfInBounds _ 18 _) = v26
   clear hvd hst
   clear nbr gfz pg0 ng0 pg1 ng1 pg2 ng2 pg3 ng3 pg4 ng4 pg5 ng5 pg6 ng6 pg7 ng7 pg8 ng8 pg9 ng9 pg10 ng10 pg11 ng11 pg12 ng12 pg13 ng13 pg14 ng14
   clear f0 f1 f2 f3 f4 f5 f6 f7 f8 fz
   generalize hWW : (wr.alloc (.cells _ 95)).drew = w4
   obtain ⟨zz, bb, oo, kk⟩ := drawn_box hWW
   have z4 : wr.heap.size < w4.heap.size := by omega
   have K4 : Hid (Kq br w w4) := KR.out.trans (kk br).out
   have X4 : Hid (Sx br s w4 0 mr) := XR.out.to (oo br XR.out.lt)
   clear XR KR
   have LG_4 := hI (LG_r.out.via (fun e => (oo _ (heap_lt (hI e).out)).trans (hI e).out))
   clear LG_r
   have P1_4 := hI (pr_to PG_r.out (fun k o hb h => (oo k (heap_lt h)).trans h))
   have PL_4 := hI (Rw.to HR.out (fun k o hb h => (oo k (heap_lt h)).trans h))
   clear PG_r HR
   obtain ⟨cI_4, LI_4⟩ : ∃ cs, Hid (Lb w4 (wr.heap.size) 65 95 cs) := ⟨_, ⟨bb, zero95_size, zero95_one'⟩⟩
   clear hWW zz oo kk bb
   have HSZ0 : Hid ((x95 Tryz.zeroCells95 at9 [.bool on1, .int .i64 k1x, .int .i64 a1x, .int .i64 op1x, .int .i64 wd1x, .int .u64 n1x, .string nm1x, .slice sa1x sl1x sc1x, .int .i64 k1y, .int .i64 a1y, .int .i64 op1y, .int .i64 wd1y, .int .u64 n1y, .string nm1y, .slice sa1y sl1y sc1y]).size = 65) := x95_size _ _
   have HON0 : Hid (∀ v ∈ (x95 Tryz.zeroCells95 at9 [.bool on1, .int .i64 k1x, .int .i64 a1x, .int .i64 op1x, .int .i64 wd1x, .int .u64 n1x, .string nm1x, .slice sa1x sl1x sc1x, .int .i64 k1y, .int .i64 a1y, .int .i64 op1y, .int .i64 wd1y, .int .u64 n1y, .string nm1y, .slice sa1y sl1y sc1y]).toList, v.oneCell' = true) := x95_one _ (one_list rfl)
   generalize hS : w4.setCells (wr.heap.size) 0 _ = w5
   rw [← HL5.out] at hS
   replace hS : setFrom w4 (wr.heap.size) 0 (x95 Tryz.zeroCells95 at9 [.bool on1, .int .i64 k1x, .int .i64 a1x, .int .i64 op1x, .int .i64 wd1x, .int .u64 n1x, .string nm1x, .slice sa1x sl1x sc1x, .int .i64 k1y, .int .i64 a1y, .int .i64 op1y, .int .i64 wd1y, .int .u64 n1y, .string nm1y, .slice sa1y sl1y sc1y]).toList = w5 := (setCells_from _ _ _ _).symm.trans hS
   obtain ⟨hr, zz, oo, kk, xx⟩ := lb_copy hS LI_4.out HSZ0.out
   have z5 : w4.heap.size ≤ w5.heap.size := by omega
   have K5 : Hid (Kq br w w5) := kk br w K4.out (by omega)
   have X5 : Hid (Sx br s w5 0 mr) := xx br s 0 mr X4.out (by omega)
   have LI_5 : Hid (Lb w5 (wr.heap.size) 65 95 (x95 Tryz.zeroCells95 at9 [.bool on1, .int .i64 k1x, .int .i64 a1x, .int .i64 op1x, .int .i64 wd1x, .int .u64 n1x, .string nm1x, .slice sa1x sl1x sc1x, .int .i64 k1y, .int .i64 a1y, .int .i64 op1y, .int .i64 wd1y, .int .u64 n1y, .string nm1y, .slice sa1y sl1y sc1y])) := ⟨hr, HSZ0.out, HON0.out⟩
   clear LI_4 X4 K4
   have LG_5 := vE (oo _ (by omega)) LG_4
   clear LG_4
   have P1_5 := hI (pr_to P1_4.out (fun k o hb h => (oo k (by omega)).trans h))
   have PL_5 := hI (Rw.to PL_4.out (fun k o hb h => (oo k (by omega)).trans h))
   clear P1_4 PL_4
   clear hS hr zz oo kk xx
   have HI0_5 : Hid (Has (x95 Tryz.zeroCells95 at9 [.bool on1, .int .i64 k1x, .int .i64 a1x, .int .i64 op1x, .int .i64 wd1x, .int .u64 n1x, .string nm1x, .slice sa1x sl1x sc1x, .int .i64 k1y, .int .i64 a1y, .int .i64 op1y, .int .i64 wd1y, .int .u64 n1y, .string nm1y, .slice sa1y sl1y sc1y]) 0 [.int .i64 1]) := x95_of _ (z95_0 _ _) (Or.inl (by simp only [lnC, lnN]; omega))
   have HI1_5 : Hid (Has (x95 Tryz.zeroCells95 at9 [.bool on1, .int .i64 k1x, .int .i64 a1x, .int .i64 op1x, .int .i64 wd1x, .int .u64 n1x, .string nm1x, .slice sa1x sl1x sc1x, .int .i64 k1y, .int .i64 a1y, .int .i64 op1y, .int .i64 wd1y, .int .u64 n1y, .string nm1y, .slice sa1y sl1y sc1y]) 1 [.int .i64 at9]) := x95_of _ (z95_1 _ _) (Or.inl (by simp only [lnC, lnN]; omega))
   have HI4_5 : Hid (Has (x95 Tryz.zeroCells95 at9 [.bool on1, .int .i64 k1x, .int .i64 a1x, .int .i64 op1x, .int .i64 wd1x, .int .u64 n1x, .string nm1x, .slice sa1x sl1x sc1x, .int .i64 k1y, .int .i64 a1y, .int .i64 op1y, .int .i64 wd1y, .int .u64 n1y, .string nm1y, .slice sa1y sl1y sc1y]) 4 [.bool on1, .int .i64 k1x, .int .i64 a1x, .int .i64 op1x, .int .i64 wd1x, .int .u64 n1x, .string nm1x, .slice sa1x sl1x sc1x, .int .i64 k1y, .int .i64 a1y, .int .i64 op1y, .int .i64 wd1y, .int .u64 n1y, .string nm1y, .slice sa1y sl1y sc1y]) := x95_4 _ rfl
   have HI34_5 : Hid (Has (x95 Tryz.zeroCells95 at9 [.bool on1, .int .i64 k1x, .int .i64 a1x, .int .i64 op1x, .int .i64 wd1x, .int .u64 n1x, .string nm1x, .slice sa1x sl1x sc1x, .int .i64 k1y, .int .i64 a1y, .int .i64 op1y, .int .i64 wd1y, .int .u64 n1y, .string nm1y, .slice sa1y sl1y sc1y]) 34 [.bool false]) := x95_of _ (z95_of _ _ zero95_h34 (by decide)) (Or.inr (by simp only [lnC, lnN]; omega))
   clear HSZ0 HON0 HL5
   obtain ⟨cI, hcI⟩ : ∃ cI, cI = (x95 Tryz.zeroCells95 at9 [.bool on1, .int .i64 k1x, .int .i64 a1x, .int .i64 op1x, .int .i64 wd1x, .int .u64 n1x, .string nm1x, .slice sa1x sl1x sc1x, .int .i64 k1y, .int .i64 a1y, .int .i64 op1y, .int .i64 wd1y, .int .u64 n1y, .string nm1y, .slice sa1y sl1y sc1y]) := ⟨_, rfl⟩
   rw [← hcI] at HI0_5 HI1_5 HI4_5 HI34_5 LI_5
   clear hcI
   have hmm : m1 ≤ m := hmm1
   go_wp2_with fail
   refine (name_any X5.out).mono ?_
   rintro e w6 ⟨nm6, rfl, hnm6, hk, c6, m6, hx, ha⟩
   have z6 : w5.heap.size ≤ w6.heap.size := hk.size
   have KK := hI hk
   have K6 : Hid (Kq br w w6) := K5.out.trans hk
   have X6 := hI hx
   have A6 := hI ha
   clear hk hx ha
   have LG_6 := vK KK LG_5 (by omega)
   have LI_6 := vK KK LI_5 (by omega)
   clear LG_5 LI_5
   have P1_6 := hI (pr_to P1_5.out (fun k o hb h => KK.out.get (by omega) h))
   have PL_6 := hI (Rw.to PL_5.out (fun k o hb h => KK.out.get (by omega) h))
   clear P1_5 PL_5
   clear KK
   obtain ⟨vvI2, hvI2⟩ := LI_6.out.some 2 (by decide)
   obtain ⟨pcI2, pfI2⟩ := LI_6.out.cell hvI2
   clear hvI2
   go_wp2_with fail
   generalize hS : w6.setCell ⟨wr.heap.size, 2, none⟩ _ = w7
   clear pcI2 pfI2
   replace hS : setFrom w6 (wr.heap.size) 2 [.string nm6] = w7 := hS
   obtain ⟨cI_7, bb, hh, ap, zz, oo, kk, xx⟩ := lb_set hS LI_6.out (by simp only [lnC, lnN]; omega) (one_list rfl)
   have z7 : w6.heap.size ≤ w7.heap.size := by omega
   have K7 : Hid (Kq br w w7) := kk br w K6.out (by omega)
   have X7 : Hid (Sx br s w7 c6 m6) := xx br s c6 m6 X6.out (by omega)
   have LI_7 := hI bb
   have HI0_7 := hI (ap 0 [.int .i64 1] HI0_5.out (by simp only [lnC, lnN]; omega))
   have HI1_7 := hI (ap 1 [.int .i64 at9] HI1_5.out (by simp only [lnC, lnN]; omega))
   have HI4_7 := hI (ap 4 [.bool on1, .int .i64 k1x, .int .i64 a1x, .int .i64 op1x, .int .i64 wd1x, .int .u64 n1x, .string nm1x, .slice sa1x sl1x sc1x, .int .i64 k1y, .int .i64 a1y, .int .i64 op1y, .int .i64 wd1y, .int .u64 n1y, .string nm1y, .slice sa1y sl1y sc1y] HI4_5.out (by simp only [lnC, lnN]; omega))
   have HI34_7 := hI (ap 34 [.bool false] HI34_5.out (by simp only [lnC, lnN]; omega))
   have HI2_7 : Hid (Has cI_7 2 [.string nm6]) := hh
   clear LI_6 X6 K6 HI0_5 HI1_5 HI4_5 HI34_5
   have LG_7 := vE (oo _ (by omega)) LG_6
   clear LG_6
   have P1_7 := hI (pr_to P1_6.out (fun k o hb h => (oo k (by omega)).trans h))
   have PL_7 := hI (Rw.to PL_6.out (fun k o hb h => (oo k (by omega)).trans h))
   clear P1_6 PL_6
   clear hS bb hh ap zz oo kk xx
   refine is_some X7.out _ fun bq => ?_
   cases bq
   all_goals
    go_wp2_with fail
    refine accept_alt X7.out _ ?_ ?_
    ·intro hc0 m8 w8 hm8 hk hx
     subst hc0
     have z8 : w7.heap.size ≤ w8.heap.size := hk.size
     have KK := hI hk
     have K8 : Hid (Kq br w w8) := K7.out.trans hk
     have X8 := hI hx
     clear hk hx X7 K7
     have LG_8 := vK KK LG_7 (by omega)
     have LI_8 := vK KK LI_7 (by omega)
     clear LG_7 LI_7
     have P1_8 := hI (pr_to P1_7.out (fun k o hb h => KK.out.get (by omega) h))
     have PL_8 := hI (Rw.to PL_7.out (fun k o hb h => KK.out.get (by omega) h))
     clear P1_7 PL_7
     clear KK
     go_upto_region 15 with fail
     generalize hWW : w8.alloc (.cells _ 55) = w9
     obtain ⟨zz, bb, oo, kk⟩ := one_box hWW
     have z9 : w8.heap.size < w9.heap.size := by omega
     have K9 : Hid (Kq br w w9) := K8.out.trans (kk br).out
     have X9 : Hid (Sx br s w9 0 m8) := X8.out.to (oo br X8.out.lt)
     clear X8 K8
     have LG_9 := hI (LG_8.out.via (fun e => (oo _ (heap_lt (hI e).out)).trans (hI e).out))
     have LI_9 := hI (LI_8.out.via (fun e => (oo _ (heap_lt (hI e).out)).trans (hI e).out))
     clear LG_8 LI_8
     have P1_9 := hI (pr_to P1_8.out (fun k o hb h => (oo k (heap_lt h)).trans h))
     have PL_9 := hI (Rw.to PL_8.out (fun k o hb h => (oo k (heap_lt h)).trans h))
     clear P1_8 PL_8
     obtain ⟨cE_9, LE_9⟩ : ∃ cs, Hid (Lb w9 (w8.heap.size) 7 55 cs) := ⟨_, ⟨bb, rfl, one_of rfl⟩⟩
     clear hWW zz oo kk bb
     go_wp2_with fail
     refine (expr_read X9.out).mono ?_
     rintro e w10 ⟨k10, a10, op10, wd10, n10, nm10, sa10, sl10, sc10, rfl, hk, c10, m10, hx, ha, hp⟩
     have z10 : w9.heap.size ≤ w10.heap.size := hk.size
     have KK := hI hk
     have K10 : Hid (Kq br w w10) := K9.out.trans hk
     have X10 := hI hx
     have A10 := hI ha
     have P10_10 := hI (pe_born hp)
     clear hk hx ha hp
     have LG_10 := vK KK LG_9 (by omega)
     have LI_10 := vK KK LI_9 (by omega)
     have LE_10 := vK KK LE_9 (by omega)
     clear LG_9 LI_9 LE_9
     have P1_10 := hI (pr_to P1_9.out (fun k o hb h => KK.out.get (by omega) h))
     have PL_10 := hI (Rw.to PL_9.out (fun k o hb h => KK.out.get (by omega) h))
     clear P1_9 PL_9
     clear KK
     have HTT : Hid (w10.there (w8.heap.size) 0 (#[.int .i64 k10, .int .i64 a10, .int .i64 op10, .int .i64 wd10, .int .u64 n10, .string nm10, .slice sa10 sl10 sc10] : Array Value).size) := LE_10.out.there 0 7 (by decide)
     have HTI : Hid ((Tryz.prog.info? 55).map (·.size) = some (#[.int .i64 k10, .int .i64 a10, .int .i64 op10, .int .i64 wd10, .int .u64 n10, .string nm10, .slice sa10 sl10 sc10] : Array Value).size) := info55s
     have HTO : Hid ((#[.int .i64 k10, .int .i64 a10, .int .i64 op10, .int .i64 wd10, .int .u64 n10, .string nm10, .slice sa10 sl10 sc10] : Array Value).all (·.oneCell') = true) := arr_one rfl
     go_upto_region 17 with ((with_reducible refine wpList_id ?_); (refine wpList_store_mid rfl 55 (.tmp 10) (.tmp 46) rfl (w8.heap.size) 0 #[.int .i64 k10, .int .i64 a10, .int .i64 op10, .int .i64 wd10, .int .u64 n10, .string nm10, .slice sa10 sl10 sc10] rfl rfl HTT.out HTI.out HTO.out ?_))
     generalize hS : w10.setCells (w8.heap.size) 0 _ = w11
     clear HTT HTI HTO
     replace hS : setFrom w10 (w8.heap.size) 0 [.int .i64 k10, .int .i64 a10, .int .i64 op10, .int .i64 wd10, .int .u64 n10, .string nm10, .slice sa10 sl10 sc10] = w11 := (setCells_from _ _ _ _).symm.trans hS
     obtain ⟨cE_11, bb, hh, ap, zz, oo, kk, xx⟩ := lb_set hS LE_10.out (by simp only [lnC, lnN]; omega) (one_list rfl)
     have z11 : w10.heap.size ≤ w11.heap.size := by omega
     have K11 : Hid (Kq br w w11) := kk br w K10.out (by omega)
     have X11 : Hid (Sx br s w11 c10 m10) := xx br s c10 m10 X10.out (by omega)
     have LE_11 := hI bb
     have HE0_11 : Hid (Has cE_11 0 [.int .i64 k10, .int .i64 a10, .int .i64 op10, .int .i64 wd10, .int .u64 n10, .string nm10, .slice sa10 sl10 sc10]) := hh
     clear LE_10 X10 K10
     have LG_11 := vE (oo _ (by omega)) LG_10
     have LI_11 := vE (oo _ (by omega)) LI_10
     clear LG_10 LI_10
     have P1_11 := hI (pr_to P1_10.out (fun k o hb h => (oo k (by omega)).trans h))
     have PL_11 := hI (Rw.to PL_10.out (fun k o hb h => (oo k (by omega)).trans h))
     have P10_11 := hI (pe_to P10_10.out (fun k o hb h => (oo k (by omega)).trans h))
     clear P1_10 PL_10 P10_10
     clear hS bb hh ap zz oo kk xx
     go_upto_region 20 with fail
     obtain ⟨rs, hrs⟩ : ∃ rs, rs = es.map (fun x : ItemD => x.1) := ⟨_, rfl⟩
     have hrl : rs.length ≤ es.length := by rw [hrs, List.length_map]; exact Nat.le_refl _
     have HRS : Hid (Rw elR (fun b => w.heap.size ≤ b ∧ b < wr.heap.size) w3.heap.size w11 (.slice sa sl sc) rs) := by show Rw _ _ _ _ _ _; rw [hrs]; exact PL_11.out.raw
     have HRSE := hI hrs
     clear hrs
     obtain ⟨xr12, hxo12, hxS12, hxL12, hxN12⟩ := Rw.own2 ((HRS.out.sub (S' := fun b => w.heap.size ≤ b) (fun b hb => by show w.heap.size ≤ b; omega))) (x0 := w11.heap.size) (by show w.heap.size ≤ w11.heap.size; omega) (by omega)
     have HXN12 := hI hxN12
     clear hxN12
     have hxS12 : w.heap.size ≤ xr12 := hxS12
     have hxb12 : xr12 < wr.heap.size ∨ xr12 = w11.heap.size := hxo12.elim (fun h => .inr (HXN12.out h)) (fun h => .inl (HRS.out.2.1 _ h).2)
     have PO_11 : Hid (∀ x ∈ es, elI.P (fun b => (w.heap.size ≤ b ∧ b < wr.heap.size) ∧ b ≠ xr12) w11 x) := fun x hx => elI.mono (fun b hb => ⟨hb.1, own_apart hxo12 hb.2 HXN12.out (by have h1 : w.heap.size ≤ b ∧ b < wr.heap.size := hb.1; omega)⟩) (fun _ _ _ _ hu => hu) (PL_11.out.2.2.1 x hx)
     have HXO12 := hI hxo12
     clear hxo12
     obtain ⟨i5, hi, hzz, hsz, hby⟩ := info95'
     have HI5 := hI hi
     have HZ5 := hI hzz
     have HS5 := hI hsz
     have HB5 := hI hby
     clear hi hzz hsz hby
     have HSZ5 : Hid (cI_7.size = 65) := LI_11.out.size
     have HLE5 : Hid (cI_7.toList.length = 1 * 65) := by show _ = _; rw [Array.length_toList, HSZ5.out]
     have HIN5 : Hid ((Tryz.prog.info? 95).map (·.size) = some cI_7.toList.length) := by show _ = _; rw [HLE5.out]; exact info95s
     have HWH5 : Hid (w11.rangeAt (wr.heap.size) 0 cI_7.toList) := LI_11.out.whole
     go_upto_region 21 with ((with_reducible refine wpList_id ?_); first | (refine wpList_load_mid rfl 95 (.tmp 7) rfl (wr.heap.size) 0 rfl cI_7.toList _ HWH5.out Tryz.underlying95 rfl HIN5.out ?_) | (refine wpList_build_one rfl 38 (.tmp 55) rfl 95 cI_7 65 rfl Tryz.underlying38 i5 HI5.out _ HZ5.out HS5.out HSZ5.out (by decide) (by decide) ?_) | (at_builtin; refine wpList_append_lies _ rfl (.tmp 54) (.tmp 56) 38 rfl (w3.heap.size) 95 i5 _ 65 832 Tryz.underlying38 HI5.out HZ5.out HS5.out HB5.out rfl (by decide) (.slice sa sl sc) (rs.length) _ rfl (Rw.alloc ((HRS.out.sub (S' := fun b => w.heap.size ≤ b) (fun b hb => by show w.heap.size ≤ b; omega))) _).1 ⟨w11.heap.size, 0, none⟩ 1 1 cI_7.toList rfl HLE5.out (new_cellsA w11 95 cI_7) LI_11.out.one (by decide) (by simp only [maxLen]; omega) (by omega) (by simp; omega) _ rfl ?_; intro g12 cap12 w12 hownX hgrowX hatX hltX; have OB := hI hownX; have GB := hI hgrowX; have TB := hI hatX; clear hownX hgrowX hatX))
     obtain ⟨kk, ⟨sg12, sz12⟩, rr⟩ := row_app0 (S := fun b => w.heap.size ≤ b) (xr := xr12) ((HRS.out.sub (S' := fun b => w.heap.size ≤ b) (fun b hb => by show w.heap.size ≤ b; omega))) OB.out GB.out TB.out rfl hltX HXO12.out (by show w.heap.size ≤ _; simp only [World.size_alloc]; omega)
     have sg12 : w.heap.size ≤ g12 := sg12
     have z12 : w11.heap.size ≤ w12.heap.size := kk.size
     have K12 : Hid (Kq br w w12) := K11.out.comp kk (by omega)
     have X12 : Hid (Sx br s w12 c10 m10) := kk.sx (by omega) X11.out
     have KK := hI kk
     have RR := hI rr
     have hgx12 : g12 = xr12 ∨ g12 = w11.heap.size + 1 := (own_g TB.out HXO12.out).imp id (fun h => h.trans (World.size_alloc _ _))
     clear kk rr hltX OB GB TB X11 K11 HI5 HZ5 HS5 HB5 HSZ5 HLE5 HIN5 HWH5
     have PW_12 : Hid (Rw elR (fun b => w.heap.size ≤ b) w3.heap.size w12 (.slice (some ⟨g12, 0, none⟩) (rs.length + 1) cap12) (rs ++ [cI_7.toList])) := RR.out [cI_7.toList] (by simp) (by simp [elR]) rfl (fun y hy => by rw [List.mem_singleton] at hy; subst hy; exact LI_11.out.big.1)
     clear PL_11
     have LG_12 := vK KK LG_11 (by omega)
     have LI_12 := vK KK LI_11 (by omega)
     have LE_12 := vK KK LE_11 (by omega)
     clear LG_11 LI_11 LE_11
     have P1_12 := hI (pr_to P1_11.out (fun k o hb h => KK.out.get (by omega) h))
     have P10_12 := hI (pe_to P10_11.out (fun k o hb h => KK.out.get (by omega) h))
     have PO_12 := hI (els_to PO_11.out (fun k o hb h => KK.out.get (by omega) h))
     clear P1_11 P10_11 PO_11
     clear KK RR HXO12
     clear HRS
     obtain ⟨rs2, hrs2⟩ : ∃ rs2, rs2 = rs ++ [cI_7.toList] := ⟨_, rfl⟩
     rw [← hrs2] at PW_12
     have hrl2 : rs2.length ≤ rs.length + 1 := by rw [hrs2]; simp
     have HRS2 := hI hrs2
     clear hrs2
     go_upto_region 22 with fail
     obtain ⟨xr15, hxo15, hxS15, hxL15, hxN15⟩ := Rw.own2 PW_12.out (x0 := w12.heap.size) (by show w.heap.size ≤ w12.heap.size; omega) (by omega)
     have hxS15 : w.heap.size ≤ xr15 := hxS15
     have hx15 : xr15 = g12 := hxo15.elim (fun h => by simp [Value.ownBlock] at h) (fun h => by simp [Value.ownBlock] at h; omega)
     have HXO15 := hI hxo15
     clear hxo15 hxN15
     obtain ⟨i5, hi, hzz, hsz, hby⟩ := info95'
     have HI5 := hI hi
     have HZ5 := hI hzz
     have HS5 := hI hsz
     have HB5 := hI hby
     clear hi hzz hsz hby
     have HUE : Hid ((u95 Tryz.zeroCells95 at9 [.int .i64 2, .int .i64 at9, .int .i64 0, .int .i64 0, .int .u64 0, .string nm6, .slice none 0 0] [.int .i64 k10, .int .i64 a10, .int .i64 op10, .int .i64 wd10, .int .u64 n10, .string nm10, .slice sa10 sl10 sc10]) = ((((((((((((((((Tryz.zeroCells95.setIfInBounds 0 (.int .i64 5)).setIfInBounds 1 (.int .i64 at9)).setIfInBounds 42 (.int .i64 2)).setIfInBounds 43 (.int .i64 at9)).setIfInBounds 44 (.int .i64 0)).setIfInBounds 45 (.int .i64 0)).setIfInBounds 46 (.int .u64 0)).setIfInBounds 47 (.string nm6)).setIfInBounds 48 (.slice none 0 0)).setIfInBounds 35 (.int .i64 k10)).setIfInBounds 36 (.int .i64 a10)).setIfInBounds 37 (.int .i64 op10)).setIfInBounds 38 (.int .i64 wd10)).setIfInBounds 39 (.int .u64 n10)).setIfInBounds 40 (.string nm10)).setIfInBounds 41 (.slice sa10 sl10 sc10))) := by show _ = _; simp only [u95, z95, arrFrom, Nat.reduceAdd]
     have HSZ5 : Hid (((((((((((((((((Tryz.zeroCells95.setIfInBounds 0 (.int .i64 5)).setIfInBounds 1 (.int .i64 at9)).setIfInBounds 42 (.int .i64 2)).setIfInBounds 43 (.int .i64 at9)).setIfInBounds 44 (.int .i64 0)).setIfInBounds 45 (.int .i64 0)).setIfInBounds 46 (.int .u64 0)).setIfInBounds 47 (.string nm6)).setIfInBounds 48 (.slice none 0 0)).setIfInBounds 35 (.int .i64 k10)).setIfInBounds 36 (.int .i64 a10)).setIfInBounds 37 (.int .i64 op10)).setIfInBounds 38 (.int .i64 wd10)).setIfInBounds 39 (.int .u64 n10)).setIfInBounds 40 (.string nm10)).setIfInBounds 41 (.slice sa10 sl10 sc10)).size = 65) := by show _ = _; rw [← HUE.out]; exact u95_size _ _ _
     have HLE5 : Hid (((((((((((((((((Tryz.zeroCells95.setIfInBounds 0 (.int .i64 5)).setIfInBounds 1 (.int .i64 at9)).setIfInBounds 42 (.int .i64 2)).setIfInBounds 43 (.int .i64 at9)).setIfInBounds 44 (.int .i64 0)).setIfInBounds 45 (.int .i64 0)).setIfInBounds 46 (.int .u64 0)).setIfInBounds 47 (.string nm6)).setIfInBounds 48 (.slice none 0 0)).setIfInBounds 35 (.int .i64 k10)).setIfInBounds 36 (.int .i64 a10)).setIfInBounds 37 (.int .i64 op10)).setIfInBounds 38 (.int .i64 wd10)).setIfInBounds 39 (.int .u64 n10)).setIfInBounds 40 (.string nm10)).setIfInBounds 41 (.slice sa10 sl10 sc10)).toList.length = 1 * 65) := by show _ = _; rw [Array.length_toList, HSZ5.out]
     have HON5 : Hid (∀ v ∈ ((((((((((((((((Tryz.zeroCells95.setIfInBounds 0 (.int .i64 5)).setIfInBounds 1 (.int .i64 at9)).setIfInBounds 42 (.int .i64 2)).setIfInBounds 43 (.int .i64 at9)).setIfInBounds 44 (.int .i64 0)).setIfInBounds 45 (.int .i64 0)).setIfInBounds 46 (.int .u64 0)).setIfInBounds 47 (.string nm6)).setIfInBounds 48 (.slice none 0 0)).setIfInBounds 35 (.int .i64 k10)).setIfInBounds 36 (.int .i64 a10)).setIfInBounds 37 (.int .i64 op10)).setIfInBounds 38 (.int .i64 wd10)).setIfInBounds 39 (.int .u64 n10)).setIfInBounds 40 (.string nm10)).setIfInBounds 41 (.slice sa10 sl10 sc10)).toList, v.oneCell' = true) := by show ∀ v ∈ _, _; rw [← HUE.out]; exact u95_one _ (one_list rfl) (one_list rfl)
     have HRE : Hid (w12.rangeAt (w8.heap.size) 0 [.int .i64 k10, .int .i64 a10, .int .i64 op10, .int .i64 wd10, .int .u64 n10, .string nm10, .slice sa10 sl10 sc10]) := LE_12.out.range HE0_11.out
     obtain ⟨pcI1, pfI1⟩ := LI_12.out.cell HI1_7.out.head
     obtain ⟨pcI2, pfI2⟩ := LI_12.out.cell HI2_7.out.head
     go_upto_region 23 with ((with_reducible refine wpList_id ?_); first | (refine wpList_load_mid rfl 55 (.tmp 10) rfl (w8.heap.size) 0 rfl [.int .i64 k10, .int .i64 a10, .int .i64 op10, .int .i64 wd10, .int .u64 n10, .string nm10, .slice sa10 sl10 sc10] _ HRE.out Tryz.underlying55 rfl info55s ?_) | (refine wpList_build_one rfl 38 (.tmp 72) rfl 95 ((((((((((((((((Tryz.zeroCells95.setIfInBounds 0 (.int .i64 5)).setIfInBounds 1 (.int .i64 at9)).setIfInBounds 42 (.int .i64 2)).setIfInBounds 43 (.int .i64 at9)).setIfInBounds 44 (.int .i64 0)).setIfInBounds 45 (.int .i64 0)).setIfInBounds 46 (.int .u64 0)).setIfInBounds 47 (.string nm6)).setIfInBounds 48 (.slice none 0 0)).setIfInBounds 35 (.int .i64 k10)).setIfInBounds 36 (.int .i64 a10)).setIfInBounds 37 (.int .i64 op10)).setIfInBounds 38 (.int .i64 wd10)).setIfInBounds 39 (.int .u64 n10)).setIfInBounds 40 (.string nm10)).setIfInBounds 41 (.slice sa10 sl10 sc10)) 65 rfl Tryz.underlying38 i5 HI5.out _ HZ5.out HS5.out HSZ5.out (by decide) (by decide) ?_) | (at_builtin; refine wpList_append_lies _ rfl (.tmp 63) (.tmp 73) 38 rfl (w3.heap.size) 95 i5 _ 65 832 Tryz.underlying38 HI5.out HZ5.out HS5.out HB5.out rfl (by decide) (.slice (some ⟨g12, 0, none⟩) (rs.length + 1) cap12) rs2.length _ rfl (Rw.alloc PW_12.out _).1 ⟨w12.heap.size, 0, none⟩ 1 1 ((((((((((((((((Tryz.zeroCells95.setIfInBounds 0 (.int .i64 5)).setIfInBounds 1 (.int .i64 at9)).setIfInBounds 42 (.int .i64 2)).setIfInBounds 43 (.int .i64 at9)).setIfInBounds 44 (.int .i64 0)).setIfInBounds 45 (.int .i64 0)).setIfInBounds 46 (.int .u64 0)).setIfInBounds 47 (.string nm6)).setIfInBounds 48 (.slice none 0 0)).setIfInBounds 35 (.int .i64 k10)).setIfInBounds 36 (.int .i64 a10)).setIfInBounds 37 (.int .i64 op10)).setIfInBounds 38 (.int .i64 wd10)).setIfInBounds 39 (.int .u64 n10)).setIfInBounds 40 (.string nm10)).setIfInBounds 41 (.slice sa10 sl10 sc10)).toList rfl HLE5.out (new_cellsA w12 95 ((((((((((((((((Tryz.zeroCells95.setIfInBounds 0 (.int .i64 5)).setIfInBounds 1 (.int .i64 at9)).setIfInBounds 42 (.int .i64 2)).setIfInBounds 43 (.int .i64 at9)).setIfInBounds 44 (.int .i64 0)).setIfInBounds 45 (.int .i64 0)).setIfInBounds 46 (.int .u64 0)).setIfInBounds 47 (.string nm6)).setIfInBounds 48 (.slice none 0 0)).setIfInBounds 35 (.int .i64 k10)).setIfInBounds 36 (.int .i64 a10)).setIfInBounds 37 (.int .i64 op10)).setIfInBounds 38 (.int .i64 wd10)).setIfInBounds 39 (.int .u64 n10)).setIfInBounds 40 (.string nm10)).setIfInBounds 41 (.slice sa10 sl10 sc10))) HON5.out (by decide) (by simp only [maxLen]; omega) (by omega) (by simp; omega) _ rfl ?_; intro g15 cap15 w15 hownX hgrowX hatX hltX; have OB := hI hownX; have GB := hI hgrowX; have TB := hI hatX; clear hownX hgrowX hatX))
     clear pcI1 pfI1 pcI2 pfI2
     generalize hcU : ((((((((((((((((Tryz.zeroCells95.setIfInBounds 0 (.int .i64 5)).setIfInBounds 1 (.int .i64 at9)).setIfInBounds 42 (.int .i64 2)).setIfInBounds 43 (.int .i64 at9)).setIfInBounds 44 (.int .i64 0)).setIfInBounds 45 (.int .i64 0)).setIfInBounds 46 (.int .u64 0)).setIfInBounds 47 (.string nm6)).setIfInBounds 48 (.slice none 0 0)).setIfInBounds 35 (.int .i64 k10)).setIfInBounds 36 (.int .i64 a10)).setIfInBounds 37 (.int .i64 op10)).setIfInBounds 38 (.int .i64 wd10)).setIfInBounds 39 (.int .u64 n10)).setIfInBounds 40 (.string nm10)).setIfInBounds 41 (.slice sa10 sl10 sc10)) = cU at OB GB TB HSZ5 HON5 HUE ⊢
     clear hcU HLE5
     obtain ⟨kk, ⟨sg15, sz15⟩, rr⟩ := row_app0 (S := fun b => w.heap.size ≤ b) (xr := xr15) PW_12.out OB.out GB.out TB.out rfl hltX HXO15.out (by show w.heap.size ≤ _; simp only [World.size_alloc]; omega)
     have hgx15 : g15 = xr15 ∨ g15 = w12.heap.size + 1 := (own_g TB.out HXO15.out).imp id (fun h => h.trans (World.size_alloc _ _))
     have z15 : w12.heap.size ≤ w15.heap.size := kk.size
     have K15 : Hid (Kq br w w15) := K12.out.comp kk (by omega)
     have X15 : Hid (Sx br s w15 c10 m10) := kk.sx (by omega) X12.out
     have KK := hI kk
     have HBU : Hid (Big cU.toList) := by show Big _; rw [← HUE.out]; exact u95_big _ (one_list rfl) (one_list rfl)
     have HU0 : Hid (Has cU 0 [.int .i64 5]) := by show Has _ _ _; rw [← HUE.out]; exact u95_0 _
     have HU42 : Hid (Has cU 42 [.int .i64 2, .int .i64 at9, .int .i64 0, .int .i64 0, .int .u64 0, .string nm6, .slice none 0 0]) := by show Has _ _ _; rw [← HUE.out]; exact u95_42 _ rfl rfl
     have HU35 : Hid (Has cU 35 [.int .i64 k10, .int .i64 a10, .int .i64 op10, .int .i64 wd10, .int .u64 n10, .string nm10, .slice sa10 sl10 sc10]) := by show Has _ _ _; rw [← HUE.out]; exact u95_35 _ rfl
     clear HUE
     have PV_15 : Hid (Rw elR (fun b => w.heap.size ≤ b) w3.heap.size w15 (.slice (some ⟨g15, 0, none⟩) (rs2.length + 1) cap15) (rs2 ++ [cU.toList])) := rr [cU.toList] (by simp) (by simp [elR]) rfl (fun y hy => by rw [List.mem_singleton] at hy; subst hy; exact HBU.out.1)
     have HBI := hI LI_12.out.big
     clear LI_12
     clear LE_12
     clear kk rr hltX OB GB TB X12 K12 HI5 HZ5 HS5 HB5 HRE PW_12
     have LG_15 := vK KK LG_12 (by omega)
     clear LG_12
     have P1_15 := hI (pr_to P1_12.out (fun k o hb h => KK.out.get (by omega) h))
     have P10_15 := hI (pe_to P10_12.out (fun k o hb h => KK.out.get (by omega) h))
     have PO_15 := hI (els_to PO_12.out (fun k o hb h => KK.out.get (by omega) h))
     clear P1_12 P10_12 PO_12
     have PM_15 : Hid (Its (c10 = 0) (fun b => w.heap.size ≤ b) w3.heap.size w15 (.slice (some ⟨g15, 0, none⟩) (rs2.length + 1) cap15) (2 * (m1 - m10) + 2) (fun xs => xs.length + 2 * m10 ≤ 2 * m1 ∧ (xs.map (fun x : ItemD => x.2)).flatten.length ≤ 4000000 * (m1 - m10))) := by
      have hA10a := A10.out.1
      have hA6a := A6.out.1
      refine ⟨rs2 ++ [cU.toList], PV_15.out, ?_, by simp only [lnA, lnC, lnN]; omega, ?_⟩
      ·intro x hx
       rw [HRS2.out, HRSE.out] at hx
       rcases List.mem_append.1 hx with hx | hx
       ·rcases List.mem_append.1 hx with hx | hx
        ·obtain ⟨y, hy, rfl⟩ := List.mem_map.1 hx
         exact (PI.big (PO_15.out y hy)).2
        ·rw [List.mem_singleton] at hx; subst hx; exact HBI.out.2
       ·rw [List.mem_singleton] at hx; subst hx; exact HBU.out.2
      intro hc
      obtain ⟨te, hpe, hle⟩ := P10_15.out hc
      obtain ⟨tr, hr, hlr⟩ := P1_15.out HC1.out
      have hA10 := (A10.out.2 hc).2
      have hA6 := (A6.out.2 (by trivial)).2
      have hl0 := HLL.out
      have hPi : PI (fun b => (w.heap.size ≤ b) ∧ some b ≠ (Value.ownBlock (.slice (some ⟨g15, 0, none⟩) (rs2.length + 1) cap15))) w15 cI_7.toList ([119, 105, 114, 101, 32] ++ tr ++ nm6.data.toList ++ [59, 10]) := PI.wire _ HBI.out nm6.data.toList [.bool on1, .int .i64 k1x, .int .i64 a1x, .int .i64 op1x, .int .i64 wd1x, .int .u64 n1x, .string nm1x, .slice sa1x sl1x sc1x, .int .i64 k1y, .int .i64 a1y, .int .i64 op1y, .int .i64 wd1y, .int .u64 n1y, .string nm1y, .slice sa1y sl1y sc1y] tr HI0_7.out.l (by rw [bs_of]; exact HI2_7.out.l) HI4_7.out.l (hr.mono (fun b hb => by exact ⟨by show w.heap.size ≤ b; omega, by simp only [Value.ownBlock]; intro e; have e2 := Option.some.inj e; omega⟩) (fun _ _ _ _ hu => hu)) HI34_7.out.l
      have hPa : PI (fun b => (w.heap.size ≤ b) ∧ some b ≠ (Value.ownBlock (.slice (some ⟨g15, 0, none⟩) (rs2.length + 1) cap15))) w15 cU.toList ([97, 115, 115, 105, 103, 110, 32] ++ nm6.data.toList ++ [32, 61, 32] ++ te ++ [59, 10]) := PI.assign _ HBU.out 2 k10 [.int .i64 2, .int .i64 at9, .int .i64 0, .int .i64 0, .int .u64 0, .string nm6, .slice none 0 0] [.int .i64 k10, .int .i64 a10, .int .i64 op10, .int .i64 wd10, .int .u64 n10, .string nm10, .slice sa10 sl10 sc10] nm6.data.toList te HU0.out.l HU42.out.l (pe_name_of _ _ _ _ _ _ _ _) HU35.out.l (hpe.mono (fun b hb => by exact ⟨by show w.heap.size ≤ b; omega, by simp only [Value.ownBlock]; intro e; have e2 := Option.some.inj e; omega⟩) (fun _ _ _ _ hu => hu))
      refine ⟨es ++ [(cI_7.toList, [119, 105, 114, 101, 32] ++ tr ++ nm6.data.toList ++ [59, 10]), (cU.toList, [97, 115, 115, 105, 103, 110, 32] ++ nm6.data.toList ++ [32, 61, 32] ++ te ++ [59, 10])], PV_15.out.join ?_ ?_, ?_, ?_, ?_⟩
      ·rw [HRS2.out, HRSE.out]; simp
      ·intro x hx
       rcases List.mem_append.1 hx with hx | hx
       ·exact elI.mono (fun b hb => by exact ⟨by show w.heap.size ≤ b; omega, by simp only [Value.ownBlock]; intro e; have e2 := Option.some.inj e; omega⟩) (fun _ _ _ _ hu => hu) (PO_15.out x hx)
       ·simp only [List.mem_cons, List.not_mem_nil, or_false] at hx
        rcases hx with rfl | rfl
        ·exact hPi
        ·exact hPa
      ·rw [HRS2.out, HRSE.out]; simp
      ·simp only [lnA, lnC, lnN]; omega
      ·rw [List.map_append, List.flatten_append]
       simp only [List.map_cons, List.map_nil, List.flatten_cons, List.flatten_nil, lnA, lnC, lnN, len_of]
       omega
     clear PV_15 HBI HBU HU0 HU42 HU35 HSZ5 HON5 KK PO_15 P10_15
     go_wp2_with fail
     refine accept_alt X15.out _ ?_ ?_
     ·intro hc0 m19 w19 hm19 hk hx
      subst hc0
      have z19 : w15.heap.size ≤ w19.heap.size := hk.size
      have KK := hI hk
      have K19 : Hid (Kq br w w19) := K15.out.trans hk
      have X19 := hI hx
      clear hk hx X15 K15
      have LG_19 := vK KK LG_15 (by omega)
      clear LG_15
      have P1_19 := hI (pr_to P1_15.out (fun k o hb h => KK.out.get (by omega) h))
      have PM_19 := hI (its_to PM_15.out (fun k o hb h => KK.out.get (by omega) h))
      clear P1_15 PM_15
      clear KK
      go_wp2_with fail
      have AX : Adv 0 mr 0 m19 := Adv.trans (A6.out) (Adv.trans (⟨Nat.le_of_lt hm8, fun _ => ⟨rfl, hm8⟩⟩) (Adv.trans (A10.out) (⟨Nat.le_of_lt hm19, fun _ => ⟨rfl, hm19⟩⟩)))
      go_roundg (meas 0 m19)
      case measure => have := meas_next AX; omega
      case rel => exact ⟨0, m19, _, _, _, rfl, rfl, X19, K19, LG_19, by omega, P1_19, (PM_19.out.mono (fun _ => by trivial) (fun b hb => hb) (Nat.le_refl _) (by omega) (fun es hc hF => ⟨by omega, by omega⟩) : Hid _), by have := AX.1; omega, (fun _ => HC1.out : Hid _)⟩
     go_wp2_with fail
     refine (must_any X15.out _).mono ?_
     rintro e w20 ⟨rfl, hk, c20, m20, hx, ha⟩
     have z20 : w15.heap.size ≤ w20.heap.size := hk.size
     have KK := hI hk
     have K20 : Hid (Kq br w w20) := K15.out.trans hk
     have X20 := hI hx
     have A20 := hI ha
     clear hk hx ha
     have LG_20 := vK KK LG_15 (by omega)
     clear LG_15
     have P1_20 := hI (pr_to P1_15.out (fun k o hb h => KK.out.get (by omega) h))
     have PM_20 := hI (its_to PM_15.out (fun k o hb h => KK.out.get (by omega) h))
     clear P1_15 PM_15
     clear KK
     go_wp2_with fail
     go_ret
     have AX : Adv 0 mr c10 m10 := Adv.trans (A6.out) (Adv.trans (⟨Nat.le_of_lt hm8, fun _ => ⟨rfl, hm8⟩⟩) (A10.out))
     refine ⟨_, _, _, rfl, K20.out, c20, m20, X20.out, ⟨by have := AX.1; have := A20.out.1; omega, fun e => ⟨rfl, by have := (A20.out.2 e).2; have := AX.1; omega⟩⟩, ?_⟩
     have hAX := AX.1
     have hA20 := A20.out.1
     refine PM_20.out.mono (fun e => (A20.out.2 e).1) (fun b hb => hb) (by omega) (by omega) (fun es hc hF => ?_)
     have hm20 := (A20.out.2 hc).2
     exact ⟨by omega, by omega⟩
    go_upto_region 15 with fail
    generalize hWW : w7.alloc (.cells _ 55) = w9
    obtain ⟨zz, bb, oo, kk⟩ := one_box hWW
    have z9 : w7.heap.size < w9.heap.size := by omega
    have K9 : Hid (Kq br w w9) := K7.out.trans (kk br).out
    have X9 : Hid (Sx br s w9 c6 m6) := X7.out.to (oo br X7.out.lt)
    clear X7 K7
    have LG_9 := hI (LG_7.out.via (fun e => (oo _ (heap_lt (hI e).out)).trans (hI e).out))
    have LI_9 := hI (LI_7.out.via (fun e => (oo _ (heap_lt (hI e).out)).trans (hI e).out))
    clear LG_7 LI_7
    have P1_9 := hI (pr_to P1_7.out (fun k o hb h => (oo k (heap_lt h)).trans h))
    have PL_9 := hI (Rw.to PL_7.out (fun k o hb h => (oo k (heap_lt h)).trans h))
    clear P1_7 PL_7
    obtain ⟨cE_9, LE_9⟩ : ∃ cs, Hid (Lb w9 (w7.heap.size) 7 55 cs) := ⟨_, ⟨bb, rfl, one_of rfl⟩⟩
    clear hWW zz oo kk bb
    go_upto_region 20 with fail
    obtain ⟨xr10, hxo10, hxS10, hxL10, hxN10⟩ := Rw.own2 ((PL_9.out.sub (S' := fun b => w.heap.size ≤ b) (fun b hb => by show w.heap.size ≤ b; omega))) (x0 := w9.heap.size) (by show w.heap.size ≤ w9.heap.size; omega) (by omega)
    have HXN10 := hI hxN10
    clear hxN10
    have hxS10 : w.heap.size ≤ xr10 := hxS10
    have HXO10 := hI hxo10
    clear hxo10
    obtain ⟨i5, hi, hzz, hsz, hby⟩ := info95'
    have HI5 := hI hi
    have HZ5 := hI hzz
    have HS5 := hI hsz
    have HB5 := hI hby
    clear hi hzz hsz hby
    have HSZ5 : Hid (cI_7.size = 65) := LI_9.out.size
    have HLE5 : Hid (cI_7.toList.length = 1 * 65) := by show _ = _; rw [Array.length_toList, HSZ5.out]
    have HIN5 : Hid ((Tryz.prog.info? 95).map (·.size) = some cI_7.toList.length) := by show _ = _; rw [HLE5.out]; exact info95s
    have HWH5 : Hid (w9.rangeAt (wr.heap.size) 0 cI_7.toList) := LI_9.out.whole
    go_upto_region 21 with ((with_reducible refine wpList_id ?_); first | (refine wpList_load_mid rfl 95 (.tmp 7) rfl (wr.heap.size) 0 rfl cI_7.toList _ HWH5.out Tryz.underlying95 rfl HIN5.out ?_) | (refine wpList_build_one rfl 38 (.tmp 55) rfl 95 cI_7 65 rfl Tryz.underlying38 i5 HI5.out _ HZ5.out HS5.out HSZ5.out (by decide) (by decide) ?_) | (at_builtin; refine wpList_append_lies _ rfl (.tmp 54) (.tmp 56) 38 rfl (w3.heap.size) 95 i5 _ 65 832 Tryz.underlying38 HI5.out HZ5.out HS5.out HB5.out rfl (by decide) (.slice sa sl sc) (es.length) _ rfl (Rw.alloc ((PL_9.out.sub (S' := fun b => w.heap.size ≤ b) (fun b hb => by show w.heap.size ≤ b; omega))) _).1 ⟨w9.heap.size, 0, none⟩ 1 1 cI_7.toList rfl HLE5.out (new_cellsA w9 95 cI_7) LI_9.out.one (by decide) (by simp only [maxLen]; omega) (by omega) (by simp; omega) _ rfl ?_; intro g10 cap10 w10 hownX hgrowX hatX hltX; have OB := hI hownX; have GB := hI hgrowX; have TB := hI hatX; clear hownX hgrowX hatX))
    obtain ⟨kk, ⟨sg10, sz10⟩, rr⟩ := row_app0 (S := fun b => w.heap.size ≤ b) (xr := xr10) ((PL_9.out.sub (S' := fun b => w.heap.size ≤ b) (fun b hb => by show w.heap.size ≤ b; omega))) OB.out GB.out TB.out rfl hltX HXO10.out (by show w.heap.size ≤ _; simp only [World.size_alloc]; omega)
    have sg10 : w.heap.size ≤ g10 := sg10
    have z10 : w9.heap.size ≤ w10.heap.size := kk.size
    have K10 : Hid (Kq br w w10) := K9.out.comp kk (by omega)
    have X10 : Hid (Sx br s w10 c6 m6) := kk.sx (by omega) X9.out
    have KK := hI kk
    have RR := hI rr
    have RRR := hI (row_app0 (E := elR) (S := fun b => w.heap.size ≤ b) (xr := xr10) (Rw.raw ((PL_9.out.sub (S' := fun b => w.heap.size ≤ b) (fun b hb => by show w.heap.size ≤ b; omega)))) (by rw [flat_id]; exact OB.out) GB.out TB.out rfl hltX HXO10.out (by show w.heap.size ≤ _; simp only [World.size_alloc]; omega)).2.2
    have hgx10 : g10 = xr10 ∨ g10 = w9.heap.size + 1 := (own_g TB.out HXO10.out).imp id (fun h => h.trans (World.size_alloc _ _))
    clear kk rr hltX OB GB TB X9 K9 HI5 HZ5 HS5 HB5 HSZ5 HLE5 HIN5 HWH5
    have PM_10 : Hid (Its (c6 = 0) (fun b => w.heap.size ≤ b) w3.heap.size w10 (.slice (some ⟨g10, 0, none⟩) (es.length + 1) cap10) (2 * (m1 - m6) + 2) (fun xs => xs.length + 2 * m6 ≤ 2 * m1 ∧ (xs.map (fun x : ItemD => x.2)).flatten.length ≤ 4000000 * (m1 - m6))) := by
     have hmX : m6 ≤ mr := by have hA : Adv 0 mr c6 m6 := A6.out; exact hA.1
     refine ⟨es.map (fun x : ItemD => x.1) ++ [cI_7.toList], RRR.out [cI_7.toList] (by simp) (by simp [elR]) (by simp) (fun y hy => by rw [List.mem_singleton] at hy; subst hy; exact LI_9.out.big.1), ones_snoc PL_9.out LI_9.out.one, by simp only [lnA, List.length_map, lnC, lnN]; omega, ?_⟩
     intro hc
     obtain ⟨tr, hr, hlr⟩ := P1_9.out HC1.out
     have AX : Adv 0 mr c6 m6 := A6.out
     have hl0 := HLL.out
     have hAX := (AX.2 hc).2
     have hP : PI (fun b => (w.heap.size ≤ b) ∧ some b ≠ (Value.slice sa sl sc).ownBlock) w9 cI_7.toList ([119, 105, 114, 101, 32] ++ tr ++ nm6.data.toList ++ [59, 10]) := PI.wire _ LI_9.out.big nm6.data.toList [.bool on1, .int .i64 k1x, .int .i64 a1x, .int .i64 op1x, .int .i64 wd1x, .int .u64 n1x, .string nm1x, .slice sa1x sl1x sc1x, .int .i64 k1y, .int .i64 a1y, .int .i64 op1y, .int .i64 wd1y, .int .u64 n1y, .string nm1y, .slice sa1y sl1y sc1y] tr HI0_7.out.l (by rw [bs_of]; exact HI2_7.out.l) HI4_7.out.l (hr.mono (fun b hb => by exact ⟨by show w.heap.size ≤ b; omega, Rw.low PL_9.out (by omega)⟩) (fun _ _ _ _ hu => hu)) HI34_7.out.l
     refine ⟨es ++ [(cI_7.toList, [119, 105, 114, 101, 32] ++ tr ++ nm6.data.toList ++ [59, 10])], RR.out [(cI_7.toList, [119, 105, 114, 101, 32] ++ tr ++ nm6.data.toList ++ [59, 10])] (by simp) (by simp [elI]) rfl ?_, by simp, ?_, ?_⟩
     ·intro y hy
      rw [List.mem_singleton] at hy
      subst hy
      exact hP
     ·simp only [lnA, lnC, lnN]; omega
     ·rw [List.map_append, List.flatten_append]
      simp only [List.map_cons, List.map_nil, List.flatten_cons, List.flatten_nil, lnA, lnC, lnN, len_of]
      omega
    clear LI_9
    clear LE_9
    clear PL_9
    have LG_10 := vK KK LG_9 (by omega)
    clear LG_9
    have P1_10 := hI (pr_to P1_9.out (fun k o hb h => KK.out.get (by omega) h))
    clear P1_9
    clear KK RR HXO10 RRR
    go_wp2_with fail
    refine accept_alt X10.out _ ?_ ?_
    ·intro hc0 m19 w19 hm19 hk hx
     subst hc0
     have z19 : w10.heap.size ≤ w19.heap.size := hk.size
     have KK := hI hk
     have K19 : Hid (Kq br w w19) := K10.out.trans hk
     have X19 := hI hx
     clear hk hx X10 K10
     have LG_19 := vK KK LG_10 (by omega)
     clear LG_10
     have P1_19 := hI (pr_to P1_10.out (fun k o hb h => KK.out.get (by omega) h))
     have PM_19 := hI (its_to PM_10.out (fun k o hb h => KK.out.get (by omega) h))
     clear P1_10 PM_10
     clear KK
     go_wp2_with fail
     have AX : Adv 0 mr 0 m19 := Adv.trans (A6.out) (⟨Nat.le_of_lt hm19, fun _ => ⟨rfl, hm19⟩⟩)
     go_roundg (meas 0 m19)
     case measure => have := meas_next AX; omega
     case rel => exact ⟨0, m19, _, _, _, rfl, rfl, X19, K19, LG_19, by omega, P1_19, (PM_19.out.mono (fun _ => by trivial) (fun b hb => hb) (Nat.le_refl _) (by omega) (fun es hc hF => ⟨by omega, by omega⟩) : Hid _), by have := AX.1; omega, (fun _ => HC1.out : Hid _)⟩
    go_wp2_with fail
    refine (must_any X10.out _).mono ?_
    rintro e w20 ⟨rfl, hk, c20, m20, hx, ha⟩
    have z20 : w10.heap.size ≤ w20.heap.size := hk.size
    have KK := hI hk
    have K20 : Hid (Kq br w w20) := K10.out.trans hk
    have X20 := hI hx
    have A20 := hI ha
    clear hk hx ha
    have LG_20 := vK KK LG_10 (by omega)
    clear LG_10
    have P1_20 := hI (pr_to P1_10.out (fun k o hb h => KK.out.get (by omega) h))
    have PM_20 := hI (its_to PM_10.out (fun k o hb h => KK.out.get (by omega) h))
    clear P1_10 PM_10
    clear KK
    go_wp2_with fail
    go_ret
    have AX : Adv 0 mr c6 m6 := A6.out
    refine ⟨_, _, _, rfl, K20.out, c20, m20, X20.out, ⟨by have := AX.1; have := A20.out.1; omega, fun e => ⟨rfl, by have := (A20.out.2 e).2; have := AX.1; omega⟩⟩, ?_⟩
    have hAX := AX.1
    have hA20 := A20.out.1
    refine PM_20.out.mono (fun e => (A20.out.2 e).1) (fun b hb => hb) (by omega) (by omega) (fun es hc hF => ?_)
    have hm20 := (A20.out.2 hc).2
    exact ⟨by omega, by omega⟩
  ·have g1 : (cr == 0) = false := beq_eq_false_iff_ne.2 hcz
   go_wp2_with fail
   clear g1
   clear f0 f1 f2 f3 f4 f5 f6 f7 f8 fz
   have hcn := hcz
   refine (must_any XR.out _).mono ?_
   rintro e w20 ⟨rfl, hk, c20, m20, hx, ha⟩
   have z20 : wr.heap.size ≤ w20.heap.size := hk.size
   have KK := hI hk
   have K20 : Hid (Kq br w w20) := KR.out.trans hk
   have X20 := hI hx
   have A20 := hI ha
   clear hk hx ha
   have LG_20 := vK KK LG_r (by omega)
   clear LG_r
   have P1_20 := hI (pr_to PG_r.out (fun k o hb h => KK.out.get (by omega) h))
   have PL_20 := hI (its_to PL_r.out (fun k o hb h => KK.out.get (by omega) h))
   clear PG_r PL_r
   clear KK
   go_wp2_with fail
   go_ret
   refine ⟨_, _, _, rfl, K20.out, c20, m20, X20.out, ⟨by have := A20.out.1; omega, fun e => absurd (A20.out.2 e).1 hcn⟩, PL_20.out.mono (fun e => (A20.out.2 e).1) (fun b hb => hb) (by omega) (by have := A20.out.1; omega) (fun es hc hF => absurd (A20.out.2 hc).1 hcn)⟩
end Go.Proofs.YtimmmlnememjiaaGreatDoor
