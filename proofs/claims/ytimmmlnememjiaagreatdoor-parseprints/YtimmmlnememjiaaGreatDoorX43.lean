import Derived.Test.YtimmmlnememjiaaGreatDoorX
import Derived.Test.YtimmmlnememjiaaGreatDoorX28
set_option maxRecDepth 100000
set_option maxHeartbeats 16000000
namespace Go.Proofs.YtimmmlnememjiaaGreatDoor
open Go.RowKit
theorem module_any (br : Nat) (s : ByteArray) (c : Int) (m : Nat) (w : World) (h : Sx br s w c m) : Calls Tryz.prog 10 #[.pointer (some ⟨br, 0, none⟩)] w (MoPost br s c m w) := by
 have HX := hI h
 have hlt := h.lt
 have hm60 : m ≤ 60001 := h.le
 obtain ⟨kq, wdq, nq, Tq, aa, qq, fa, hr, h'⟩ := h
 obtain ⟨f0, f1, f2, f3, f4, f5, f6, f7, f8, fz⟩ := hr.all
 clear hr h'
 go_enter Tryz.func10, Tryz.ntmps10
 go_wp2_with fail
 generalize hW : (w.alloc (.cells _ 40)).alloc (.cells _ 40) = w0
 obtain ⟨hz, r0, r1, kW, sW⟩ := two_boxes hW
 have K0 := kW br
 have X0 := sW br s c m HX.out
 have z0 : w.heap.size + 2 = w0.heap.size := hz.symm
 obtain ⟨cR_0, LR_0⟩ : ∃ cs, Hid (Lb w0 (w.heap.size) 5 40 cs) := ⟨_, ⟨r0, rfl, one_of rfl⟩⟩
 obtain ⟨cB_0, LB_0, HB0_0, HB1_0, HB2_0, HB3_0, HB4_0⟩ : ∃ cs, Hid (Lb w0 (w.heap.size + 1) 5 40 cs) ∧ Hid (Has cs 0 [.string ⟨#[]⟩]) ∧ Hid (Has cs 1 [.int .i64 aa]) ∧ Hid (Has cs 2 [.slice none 0 0]) ∧ Hid (Has cs 3 [.slice none 0 0]) ∧ Hid (Has cs 4 [.slice none 0 0]) := ⟨_, ⟨r1, rfl, one_of rfl⟩, has_of rfl, has_of rfl, has_of rfl, has_of rfl, has_of rfl⟩
 clear hW kW sW r0 r1 hz f0 f1 f2 f3 f4 f5 f6 f7 f8 fz HX
 refine (must_any X0.out _).mono ?_
 rintro e w1 ⟨rfl, hk, c1, m1, hx, ha⟩
 have z1 : w0.heap.size ≤ w1.heap.size := hk.size
 have KK := hI hk
 have K1 : Hid (Kq br w w1) := K0.out.trans hk
 have X1 := hI hx
 have A1 := hI ha
 clear hk hx ha
 have LR_1 := vK KK LR_0 (by omega)
 have LB_1 := vK KK LB_0 (by omega)
 clear LR_0 LB_0
 clear KK
 go_wp2_with fail
 refine (name_any X1.out).mono ?_
 rintro e w2 ⟨nm2, rfl, hnm2, hk, c2, m2, hx, ha⟩
 have z2 : w1.heap.size ≤ w2.heap.size := hk.size
 have KK := hI hk
 have K2 : Hid (Kq br w w2) := K1.out.trans hk
 have X2 := hI hx
 have A2 := hI ha
 clear hk hx ha
 have LR_2 := vK KK LR_1 (by omega)
 have LB_2 := vK KK LB_1 (by omega)
 clear LR_1 LB_1
 clear KK
 obtain ⟨pcB0, pfB0⟩ := LB_2.out.cell HB0_0.out.head
 go_wp2_with fail
 generalize hS : w2.setCell ⟨w.heap.size + 1, 0, none⟩ _ = w3
 clear pcB0 pfB0
 replace hS : setFrom w2 (w.heap.size + 1) 0 [.string nm2] = w3 := hS
 obtain ⟨cB_3, bb, hh, ap, zz, oo, kk, xx⟩ := lb_set hS LB_2.out (by simp only [lnC, lnN]; omega) (one_list rfl)
 have z3 : w2.heap.size ≤ w3.heap.size := by omega
 have K3 : Hid (Kq br w w3) := kk br w K2.out (by omega)
 have X3 : Hid (Sx br s w3 c2 m2) := xx br s c2 m2 X2.out (by omega)
 have LB_3 := hI bb
 have HB1_3 := hI (ap 1 [.int .i64 aa] HB1_0.out (by simp only [lnC, lnN]; omega))
 have HB2_3 := hI (ap 2 [.slice none 0 0] HB2_0.out (by simp only [lnC, lnN]; omega))
 have HB3_3 := hI (ap 3 [.slice none 0 0] HB3_0.out (by simp only [lnC, lnN]; omega))
 have HB4_3 := hI (ap 4 [.slice none 0 0] HB4_0.out (by simp only [lnC, lnN]; omega))
 have HB0_3 : Hid (Has cB_3 0 [.string nm2]) := hh
 clear LB_2 X2 K2 HB0_0 HB1_0 HB2_0 HB3_0 HB4_0
 have LR_3 := vE (oo _ (by omega)) LR_2
 clear LR_2
 clear hS bb hh ap zz oo kk xx
 refine accept_alt X3.out _ ?_ ?_
 ·intro hc0 m4 w4 hm4 hk hx
  subst hc0
  have z4 : w3.heap.size ≤ w4.heap.size := hk.size
  have KK := hI hk
  have K4 : Hid (Kq br w w4) := K3.out.trans hk
  have X4 := hI hx
  clear hk hx X3 K3
  have LR_4 := vK KK LR_3 (by omega)
  have LB_4 := vK KK LB_3 (by omega)
  clear LR_3 LB_3
  clear KK
  go_wp2_with fail
  refine (must_any X4.out _).mono ?_
  rintro e w5 ⟨rfl, hk, c5, m5, hx, ha⟩
  have z5 : w4.heap.size ≤ w5.heap.size := hk.size
  have KK := hI hk
  have K5 : Hid (Kq br w w5) := K4.out.trans hk
  have X5 := hI hx
  have A5 := hI ha
  clear hk hx ha
  have LR_5 := vK KK LR_4 (by omega)
  have LB_5 := vK KK LB_4 (by omega)
  clear LR_4 LB_4
  clear KK
  go_wp2_with fail
  have hmS : m5 ≤ 60001 := X5.out.le
  go_loopg [6] (meas c5 m5) (fun gk _ wr => ∃ (cr : Int) (mr : Nat) (sa : Option Addr) (sl sc : Nat) (cB : Array Value), gk = meas cr mr ∧ Hid (Sx br s wr cr mr) ∧ Hid (Kq br w wr) ∧ Hid (Lb wr (w.heap.size) 5 40 cR_0) ∧ Hid (Lb wr (w.heap.size + 1) 5 40 cB) ∧ Hid (Has cB 0 [.string nm2]) ∧ Hid (Has cB 1 [.int .i64 aa]) ∧ Hid (Has cB 2 [.slice sa sl sc]) ∧ Hid (Has cB 3 [.slice none 0 0]) ∧ Hid (Has cB 4 [.slice none 0 0]) ∧ w5.heap.size ≤ wr.heap.size ∧ Hid (cr = 0 → ∃ xs : List BindD, Rw elB (fun b => w0.heap.size ≤ b) w0.heap.size wr (.slice sa sl sc) xs ∧ (xs.length + mr ≤ m5 ∧ (commaTxt (xs.map paramTxt)).length ≤ 64 * (m5 - mr) ∧ ∀ d ∈ xs, d.gv = true)) ∧ mr ≤ m5 ∧ Hid (cr = 0 → c5 = 0))
  case atStart => exact ⟨c5, m5, none, 0, 0, _, rfl, X5, K5, LR_5, LB_5, HB0_3, HB1_3, HB2_3, HB3_3, HB4_3, Nat.le_refl _, (fun _ => ⟨[], Rw.nil _ _ _ _, by simp [commaTxt]⟩ : Hid _), Nat.le_refl _, (fun h => h : Hid _)⟩
  case round =>
   obtain ⟨cr, mr, sa, sl, sc, cB, hgk, XR, KR, LR_r, LB_r, HB0_r, HB1_r, HB2_r, HB3_r, HB4_r, zR, PL_r, hmr, HCS⟩ := hrel
   clear X5 K5 LR_5 LB_5 HB0_3 HB1_3 HB2_3 HB3_3 HB4_3
   obtain ⟨wo, hwo⟩ : ∃ x, x = wr := ⟨_, rfl⟩
   subst hwo
   have XS := XR.out
   obtain ⟨kt, wdt, nt, Tt, at9, qt, fat, hra, h'⟩ := XS
   obtain ⟨f0, f1, f2, f3, f4, f5, f6, f7, f8, fz⟩ := hra.all
   clear h' hra
   by_cases hcz : cr = 0
   ·subst hcz
    obtain ⟨es, hR, hn, hl, hgv⟩ := PL_r.out rfl
    have HR := hI hR.strong
    have HLL := hI (And.intro hl hgv)
    have hcS := HCS.out rfl
    clear HCS
    have HCS := hI hcS
    clear hR hl hgv hcS PL_r
    go_wp2_with fail
    clear f0 f1 f2 f3 f4 f5 f6 f7 f8 fz
    generalize hWW : wo.alloc (.cells _ 57) = w21
    obtain ⟨zz, bb, oo, kk⟩ := one_box hWW
    have z21 : wo.heap.size < w21.heap.size := by omega
    have K21 : Hid (Kq br w w21) := KR.out.trans (kk br).out
    have X21 : Hid (Sx br s w21 0 mr) := XR.out.to (oo br XR.out.lt)
    clear XR KR
    have LR_21 := hI (LR_r.out.via (fun e => (oo _ (heap_lt (hI e).out)).trans (hI e).out))
    have LB_21 := hI (LB_r.out.via (fun e => (oo _ (heap_lt (hI e).out)).trans (hI e).out))
    clear LR_r LB_r
    have PL_21 := hI (Rw.to HR.out (fun k o hb h => (oo k (heap_lt h)).trans h))
    clear HR
    obtain ⟨cP_21, LP_21, HP0_21, HP1_21, HP2_21, HP3_21⟩ : ∃ cs, Hid (Lb w21 (wo.heap.size) 10 57 cs) ∧ Hid (Has cs 0 [.string ⟨#[]⟩]) ∧ Hid (Has cs 1 [.int .i64 at9]) ∧ Hid (Has cs 2 [.bool true]) ∧ Hid (Has cs 3 [.int .i64 0, .int .i64 0, .int .i64 0, .int .i64 0, .int .u64 0, .string ⟨#[]⟩, .slice none 0 0]) := ⟨_, ⟨bb, rfl, one_of rfl⟩, has_of rfl, has_of rfl, has_of rfl, has_of rfl⟩
    clear hWW zz oo kk bb
    refine (name_any X21.out).mono ?_
    rintro e w22 ⟨nm22, rfl, hnm22, hk, c22, m22, hx, ha⟩
    have z22 : w21.heap.size ≤ w22.heap.size := hk.size
    have KK := hI hk
    have K22 : Hid (Kq br w w22) := K21.out.trans hk
    have X22 := hI hx
    have A22 := hI ha
    clear hk hx ha
    have LR_22 := vK KK LR_21 (by omega)
    have LB_22 := vK KK LB_21 (by omega)
    have LP_22 := vK KK LP_21 (by omega)
    clear LR_21 LB_21 LP_21
    have PL_22 := hI (Rw.to PL_21.out (fun k o hb h => KK.out.get (by omega) h))
    clear PL_21
    clear KK
    obtain ⟨pcP0, pfP0⟩ := LP_22.out.cell HP0_21.out.head
    go_wp2_with fail
    generalize hS : w22.setCell ⟨wo.heap.size, 0, none⟩ _ = w23
    clear pcP0 pfP0
    replace hS : setFrom w22 (wo.heap.size) 0 [.string nm22] = w23 := hS
    obtain ⟨cP_23, bb, hh, ap, zz, oo, kk, xx⟩ := lb_set hS LP_22.out (by simp only [lnC, lnN]; omega) (one_list rfl)
    have z23 : w22.heap.size ≤ w23.heap.size := by omega
    have K23 : Hid (Kq br w w23) := kk br w K22.out (by omega)
    have X23 : Hid (Sx br s w23 c22 m22) := xx br s c22 m22 X22.out (by omega)
    have LP_23 := hI bb
    have HP1_23 := hI (ap 1 [.int .i64 at9] HP1_21.out (by simp only [lnC, lnN]; omega))
    have HP2_23 := hI (ap 2 [.bool true] HP2_21.out (by simp only [lnC, lnN]; omega))
    have HP3_23 := hI (ap 3 [.int .i64 0, .int .i64 0, .int .i64 0, .int .i64 0, .int .u64 0, .string ⟨#[]⟩, .slice none 0 0] HP3_21.out (by simp only [lnC, lnN]; omega))
    have HP0_23 : Hid (Has cP_23 0 [.string nm22]) := hh
    clear LP_22 X22 K22 HP0_21 HP1_21 HP2_21 HP3_21
    have LR_23 := vE (oo _ (by omega)) LR_22
    have LB_23 := vE (oo _ (by omega)) LB_22
    clear LR_22 LB_22
    have PL_23 := hI (Rw.to PL_22.out (fun k o hb h => (oo k (by omega)).trans h))
    clear PL_22
    clear hS bb hh ap zz oo kk xx
    refine (must_any X23.out _).mono ?_
    rintro e w24 ⟨rfl, hk, c24, m24, hx, ha⟩
    have z24 : w23.heap.size ≤ w24.heap.size := hk.size
    have KK := hI hk
    have K24 : Hid (Kq br w w24) := K23.out.trans hk
    have X24 := hI hx
    have A24 := hI ha
    clear hk hx ha
    have LR_24 := vK KK LR_23 (by omega)
    have LB_24 := vK KK LB_23 (by omega)
    have LP_24 := vK KK LP_23 (by omega)
    clear LR_23 LB_23 LP_23
    have PL_24 := hI (Rw.to PL_23.out (fun k o hb h => KK.out.get (by omega) h))
    clear PL_23
    clear KK
    go_wp2_with fail
    refine (expr_read X24.out).mono ?_
    rintro e w25 ⟨k25, a25, op25, wd25, n25, nm25, sa25, sl25, sc25, rfl, hk, c25, m25, hx, ha, hp⟩
    have z25 : w24.heap.size ≤ w25.heap.size := hk.size
    have KK := hI hk
    have K25 : Hid (Kq br w w25) := K24.out.trans hk
    have X25 := hI hx
    have A25 := hI ha
    have P25_25 := hI (pe_born hp)
    clear hk hx ha hp
    have LR_25 := vK KK LR_24 (by omega)
    have LB_25 := vK KK LB_24 (by omega)
    have LP_25 := vK KK LP_24 (by omega)
    clear LR_24 LB_24 LP_24
    have PL_25 := hI (Rw.to PL_24.out (fun k o hb h => KK.out.get (by omega) h))
    clear PL_24
    clear KK
    have HTT : Hid (w25.there (wo.heap.size) 3 (#[.int .i64 k25, .int .i64 a25, .int .i64 op25, .int .i64 wd25, .int .u64 n25, .string nm25, .slice sa25 sl25 sc25] : Array Value).size) := LP_25.out.there 3 7 (by decide)
    have HTI : Hid ((Tryz.prog.info? 55).map (·.size) = some (#[.int .i64 k25, .int .i64 a25, .int .i64 op25, .int .i64 wd25, .int .u64 n25, .string nm25, .slice sa25 sl25 sc25] : Array Value).size) := info55s
    have HTO : Hid ((#[.int .i64 k25, .int .i64 a25, .int .i64 op25, .int .i64 wd25, .int .u64 n25, .string nm25, .slice sa25 sl25 sc25] : Array Value).all (·.oneCell') = true) := arr_one rfl
    go_upto_region 12 with ((with_reducible refine wpList_id ?_); (refine wpList_store_mid rfl 55 (.tmp 45) (.tmp 44) rfl (wo.heap.size) 3 #[.int .i64 k25, .int .i64 a25, .int .i64 op25, .int .i64 wd25, .int .u64 n25, .string nm25, .slice sa25 sl25 sc25] rfl rfl HTT.out HTI.out HTO.out ?_))
    generalize hS : w25.setCells (wo.heap.size) 3 _ = w26
    clear HTT HTI HTO
    replace hS : setFrom w25 (wo.heap.size) 3 [.int .i64 k25, .int .i64 a25, .int .i64 op25, .int .i64 wd25, .int .u64 n25, .string nm25, .slice sa25 sl25 sc25] = w26 := (setCells_from _ _ _ _).symm.trans hS
    obtain ⟨cP_26, bb, hh, ap, zz, oo, kk, xx⟩ := lb_set hS LP_25.out (by simp only [lnC, lnN]; omega) (one_list rfl)
    have z26 : w25.heap.size ≤ w26.heap.size := by omega
    have K26 : Hid (Kq br w w26) := kk br w K25.out (by omega)
    have X26 : Hid (Sx br s w26 c25 m25) := xx br s c25 m25 X25.out (by omega)
    have LP_26 := hI bb
    have HP1_26 := hI (ap 1 [.int .i64 at9] HP1_23.out (by simp only [lnC, lnN]; omega))
    have HP2_26 := hI (ap 2 [.bool true] HP2_23.out (by simp only [lnC, lnN]; omega))
    have HP0_26 := hI (ap 0 [.string nm22] HP0_23.out (by simp only [lnC, lnN]; omega))
    have HP3_26 : Hid (Has cP_26 3 [.int .i64 k25, .int .i64 a25, .int .i64 op25, .int .i64 wd25, .int .u64 n25, .string nm25, .slice sa25 sl25 sc25]) := hh
    clear LP_25 X25 K25 HP1_23 HP2_23 HP3_23 HP0_23
    have LR_26 := vE (oo _ (by omega)) LR_25
    have LB_26 := vE (oo _ (by omega)) LB_25
    clear LR_25 LB_25
    have PL_26 := hI (Rw.to PL_25.out (fun k o hb h => (oo k (by omega)).trans h))
    have P25_26 := hI (pe_to P25_25.out (fun k o hb h => (oo k (by omega)).trans h))
    clear PL_25 P25_25
    clear hS bb hh ap zz oo kk xx
    have HNO : Hid (some (w.heap.size + 1) ≠ (.slice sa sl sc : Value).ownBlock) := Rw.low ((PL_26.out.sub (S' := fun b => w0.heap.size ≤ b) (fun b hb => by show w0.heap.size ≤ b; omega))) (by omega)
    obtain ⟨pcB2, pfB2⟩ := LB_26.out.cell HB2_r.out.head
    obtain ⟨xr27, hxo27, hxS27⟩ := Rw.own ((PL_26.out.sub (S' := fun b => w0.heap.size ≤ b) (fun b hb => by show w0.heap.size ≤ b; omega))) (x0 := w26.heap.size) (by show w0.heap.size ≤ w26.heap.size; omega)
    have hxS27 : w0.heap.size ≤ xr27 := hxS27
    have HXO27 := hI hxo27
    clear hxo27
    obtain ⟨i5, hi, hzz, hsz, hby⟩ := info57'
    have HI5 := hI hi
    have HZ5 := hI hzz
    have HS5 := hI hsz
    have HB5 := hI hby
    clear hi hzz hsz hby
    have HSZ5 : Hid (cP_26.size = 10) := LP_26.out.size
    have HLE5 : Hid (cP_26.toList.length = 1 * 10) := by show _ = _; rw [Array.length_toList, HSZ5.out]
    have HIN5 : Hid ((Tryz.prog.info? 57).map (·.size) = some cP_26.toList.length) := by show _ = _; rw [HLE5.out]; exact info57s
    have HWH5 : Hid (w26.rangeAt (wo.heap.size) 0 cP_26.toList) := LP_26.out.whole
    go_upto_region 13 with ((with_reducible refine wpList_id ?_); first | (refine wpList_load_mid rfl 57 (.tmp 5) rfl (wo.heap.size) 0 rfl cP_26.toList _ HWH5.out Tryz.underlying57 rfl HIN5.out ?_) | (refine wpList_build_one rfl 36 (.tmp 48) rfl 57 cP_26 10 rfl Tryz.underlying36 i5 HI5.out _ HZ5.out HS5.out HSZ5.out (by decide) (by decide) ?_) | (at_builtin; refine wpList_append_lies _ rfl (.tmp 47) (.tmp 49) 36 rfl (w0.heap.size) 57 i5 _ 10 112 Tryz.underlying36 HI5.out HZ5.out HS5.out HB5.out rfl (by decide) (.slice sa sl sc) (es.length) _ rfl (Rw.alloc ((PL_26.out.sub (S' := fun b => w0.heap.size ≤ b) (fun b hb => by show w0.heap.size ≤ b; omega))) _).1 ⟨w26.heap.size, 0, none⟩ 1 1 cP_26.toList rfl HLE5.out (new_cellsA w26 57 cP_26) LP_26.out.one (by decide) (by simp only [maxLen]; omega) (by omega) (by simp; omega) _ rfl ?_; intro g27 cap27 w27 hownX hgrowX hatX hltX; have OB := hI hownX; have GB := hI hgrowX; have TB := hI hatX; clear hownX hgrowX hatX; obtain ⟨pcX, pfX⟩ := (Lb.to LB_26.out ((GB.out.block (w.heap.size + 1) (by have := LB_26.out.lt; simp; omega) HNO.out).trans (Below.heap_alloc _ _ _ LB_26.out.lt))).cell HB2_r.out.head))
    clear pcB2 pfB2 pcX pfX
    obtain ⟨kk, ⟨sg27, sz27⟩, rr⟩ := row_app0 (S := fun b => w0.heap.size ≤ b) (xr := xr27) ((PL_26.out.sub (S' := fun b => w0.heap.size ≤ b) (fun b hb => by show w0.heap.size ≤ b; omega))) OB.out GB.out TB.out rfl hltX HXO27.out (by show w0.heap.size ≤ _; simp only [World.size_alloc]; omega)
    have sg27 : w0.heap.size ≤ g27 := sg27
    have z27 : w26.heap.size ≤ w27.heap.size := kk.size
    have K27 : Hid (Kq br w w27) := K26.out.comp kk (by omega)
    have X27 : Hid (Sx br s w27 c25 m25) := kk.sx (by omega) X26.out
    have KK := hI kk
    have RR := hI rr
    clear kk rr hltX OB GB TB X26 K26 HI5 HZ5 HS5 HB5 HSZ5 HLE5 HIN5 HWH5
    have PM_27 : Hid (c25 = 0 → ∃ xs : List (BindD), Rw elB (fun b => w0.heap.size ≤ b) (w0.heap.size) w27 (.slice (some ⟨g27, 0, none⟩) (es.length + 1) cap27) xs ∧ (xs.length + m25 ≤ m5 ∧ (commaTxt (xs.map paramTxt)).length ≤ 64 * (m5 - m25) ∧ ∀ d ∈ xs, d.gv = true)) := by
     intro hc
     obtain ⟨hc24, hm25⟩ := A25.out.2 hc
     obtain ⟨hc22, hm24⟩ := A24.out.2 hc24
     obtain ⟨_, hm22⟩ := A22.out.2 hc22
     obtain ⟨t, hp, hl⟩ := P25_26.out hc
     obtain ⟨hl0, hgv⟩ := HLL.out
     have he := (((HP0_26.out.app HP1_26.out).app HP2_26.out).app HP3_26.out).eq (by rw [LP_26.out.size]; rfl)
     have hcl := comma_snoc_le (es.map paramTxt) (paramTxt (⟨cP_26.toList, nm22.data.toList, true, t⟩ : BindD))
     have hpl : (paramTxt (⟨cP_26.toList, nm22.data.toList, true, t⟩ : BindD)).length = nm22.size + 3 + t.length := by simp only [paramTxt, lnA, lnC, lnN, len_of]
     refine ⟨es ++ [(⟨cP_26.toList, nm22.data.toList, true, t⟩ : BindD)], RR.out [(⟨cP_26.toList, nm22.data.toList, true, t⟩ : BindD)] (by simp) (by simp [elB]) rfl ?_, by simp only [lnA, lnC, lnN]; omega, by rw [List.map_append, List.map_cons, List.map_nil]; omega, ?_⟩
     ·intro y hy
      rw [List.mem_singleton] at hy
      subst hy
      refine ⟨at9, k25, [.int .i64 k25, .int .i64 a25, .int .i64 op25, .int .i64 wd25, .int .u64 n25, .string nm25, .slice sa25 sl25 sc25], by rw [bs_of]; exact he, ⟨rfl, rfl⟩, fun _ => hp.mono (fun b hb => ?_) (fun _ _ _ _ hu => hu)⟩
      have h1 : w24.heap.size ≤ b ∧ b < w25.heap.size := hb
      exact ⟨by show w0.heap.size ≤ b; omega, Rw.not_own PL_26.out (by show ¬ (w0.heap.size ≤ b ∧ b < wo.heap.size); omega)⟩
     ·intro y hy
      rcases List.mem_append.1 hy with hy | hy
      ·exact hgv y hy
      ·rw [List.mem_singleton] at hy; subst hy; rfl
    clear LP_26
    clear PL_26
    clear P25_26
    have LR_27 := vK KK LR_26 (by omega)
    have LB_27 := vK KK LB_26 (by omega)
    clear LR_26 LB_26
    clear KK RR HXO27
    clear HNO
    generalize hS : w27.setCell ⟨w.heap.size + 1, 2, none⟩ _ = w28
    replace hS : setFrom w27 (w.heap.size + 1) 2 [.slice (some ⟨g27, 0, none⟩) (es.length + 1) cap27] = w28 := hS
    obtain ⟨cB_28, bb, hh, ap, zz, oo, kk, xx⟩ := lb_set hS LB_27.out (by simp only [lnC, lnN]; omega) (one_list rfl)
    have z28 : w27.heap.size ≤ w28.heap.size := by omega
    have K28 : Hid (Kq br w w28) := kk br w K27.out (by omega)
    have X28 : Hid (Sx br s w28 c25 m25) := xx br s c25 m25 X27.out (by omega)
    have LB_28 := hI bb
    have HB0_28 := hI (ap 0 [.string nm2] HB0_r.out (by simp only [lnC, lnN]; omega))
    have HB1_28 := hI (ap 1 [.int .i64 aa] HB1_r.out (by simp only [lnC, lnN]; omega))
    have HB3_28 := hI (ap 3 [.slice none 0 0] HB3_r.out (by simp only [lnC, lnN]; omega))
    have HB4_28 := hI (ap 4 [.slice none 0 0] HB4_r.out (by simp only [lnC, lnN]; omega))
    have HB2_28 : Hid (Has cB_28 2 [.slice (some ⟨g27, 0, none⟩) (es.length + 1) cap27]) := hh
    clear LB_27 X27 K27 HB0_r HB1_r HB2_r HB3_r HB4_r
    have LR_28 := vE (oo _ (by omega)) LR_27
    clear LR_27
    have PM_28 := hI (rw_to PM_27.out (fun k o hb h => (oo k (by omega)).trans h))
    clear PM_27
    clear hS bb hh ap zz oo kk xx
    go_wp2_with fail
    refine accept_alt X28.out _ ?_ ?_
    ·intro hc0 m29 w29 hm29 hk hx
     subst hc0
     have z29 : w28.heap.size ≤ w29.heap.size := hk.size
     have KK := hI hk
     have K29 : Hid (Kq br w w29) := K28.out.trans hk
     have X29 := hI hx
     clear hk hx X28 K28
     have LR_29 := vK KK LR_28 (by omega)
     have LB_29 := vK KK LB_28 (by omega)
     clear LR_28 LB_28
     have PM_29 := hI (rw_to PM_28.out (fun k o hb h => KK.out.get (by omega) h))
     clear PM_28
     clear KK
     go_wp2_with fail
     have AX : Adv 0 mr 0 m29 := Adv.trans (A22.out) (Adv.trans (A24.out) (Adv.trans (A25.out) (⟨Nat.le_of_lt hm29, fun _ => ⟨rfl, hm29⟩⟩)))
     go_roundg (meas 0 m29)
     case measure => have := meas_next AX; omega
     case rel => exact ⟨0, m29, _, _, _, _, rfl, X29, K29, LR_29, LB_29, HB0_28, HB1_28, HB2_28, HB3_28, HB4_28, by omega, (fun _ => by obtain ⟨xs, hR, h1, h2, h3⟩ := PM_29.out (by trivial); exact ⟨xs, hR, by omega, by omega, h3⟩ : Hid _), by have := AX.1; omega, (fun _ => HCS.out : Hid _)⟩
    go_wp2_with fail
    have hAX : m25 ≤ mr := (Adv.trans (A22.out) (Adv.trans (A24.out) (A25.out)) : Adv 0 mr c25 m25).1
    refine (must_any X28.out _).mono ?_
    rintro e w30 ⟨rfl, hk, c30, m30, hx, ha⟩
    have z30 : w28.heap.size ≤ w30.heap.size := hk.size
    have KK := hI hk
    have K30 : Hid (Kq br w w30) := K28.out.trans hk
    have X30 := hI hx
    have A30 := hI ha
    clear hk hx ha
    have LR_30 := vK KK LR_28 (by omega)
    have LB_30 := vK KK LB_28 (by omega)
    clear LR_28 LB_28
    have PM_30 := hI (rw_to PM_28.out (fun k o hb h => KK.out.get (by omega) h))
    clear PM_28
    clear KK
    go_wp2_with fail
    have PM_30b := hI (rw_born PM_30.out)
    clear PM_30
    have AR : Hid (Adv c m c30 m30) := (adv_ge (Adv.trans (A1.out) (Adv.trans (A2.out) (Adv.trans (⟨Nat.le_of_lt hm4, fun _ => ⟨rfl, hm4⟩⟩) (A5.out)))) (fun _ => HCS.out) hmr (Adv.trans (A22.out) (Adv.trans (A24.out) (Adv.trans (A25.out) (A30.out)))) : Adv c m c30 m30)
    refine (must_any X30.out _).mono ?_
    rintro e w40 ⟨rfl, hk, c40, m40, hx, ha⟩
    have z40 : w30.heap.size ≤ w40.heap.size := hk.size
    have KK := hI hk
    have K40 : Hid (Kq br w w40) := K30.out.trans hk
    have X40 := hI hx
    have A40 := hI ha
    clear hk hx ha
    have LR_40 := vK KK LR_30 (by omega)
    have LB_40 := vK KK LB_30 (by omega)
    clear LR_30 LB_30
    have PM_40 := hI (rw_to PM_30b.out (fun k o hb h => KK.out.get (by omega) h))
    clear PM_30b
    clear KK
    go_wp2_with fail
    have hm40 : m40 ≤ 60001 := X40.out.le
    refine is_some X40.out _ fun bq => ?_
    go_wp2_with fail
    go_loopg [7] (meas c40 m40) (fun gk o wr => ∃ (nb : Bool) (cy : Int) (my : Nat) (say : Option Addr) (sly scy : Nat) (cBy : Array Value), o = .bool nb ∧ gk = meas cy my ∧ Hid (Sx br s wr cy my) ∧ Hid (Kq br w wr) ∧ Hid (Lb wr (w.heap.size) 5 40 cR_0) ∧ Hid (Lb wr (w.heap.size + 1) 5 40 cBy) ∧ Hid (Has cBy 0 [.string nm2]) ∧ Hid (Has cBy 1 [.int .i64 aa]) ∧ Hid (Has cBy 2 [.slice (some ⟨g27, 0, none⟩) (es.length + 1) cap27]) ∧ Hid (Has cBy 3 [.slice say sly scy]) ∧ Hid (Has cBy 4 [.slice none 0 0]) ∧ w40.heap.size ≤ wr.heap.size ∧ Hid (c25 = 0 → ∃ xs : List BindD, Rw elB (fun b => (w0.heap.size ≤ b) ∧ b < w30.heap.size) w0.heap.size wr (.slice (some ⟨g27, 0, none⟩) (es.length + 1) cap27) xs ∧ (xs.length + m25 ≤ m5 ∧ (commaTxt (xs.map paramTxt)).length ≤ 64 * (m5 - m25) ∧ ∀ d ∈ xs, d.gv = true)) ∧ Hid (cy = 0 → ∃ xs : List PortD, Rw elP (fun b => w40.heap.size ≤ b) w40.heap.size wr (.slice say sly scy) xs ∧ (xs.length + my ≤ m40 ∧ (commaTxt (xs.map portTxt)).length ≤ 64 * (m40 - my))) ∧ my ≤ m40 ∧ Hid (cy = 0 → c40 = 0))
    case atStart => exact ⟨_, c40, m40, none, 0, 0, _, rfl, rfl, X40, K40, LR_40, LB_40, HB0_28, HB1_28, HB2_28, HB3_28, HB4_28, Nat.le_refl _, PM_40, (fun _ => ⟨[], Rw.nil _ _ _ _, by simp [commaTxt]⟩ : Hid _), Nat.le_refl _, (fun h => h : Hid _)⟩
    case round =>
     obtain ⟨nb, cy, my, say, sly, scy, cBy, rfl, hgy, XY, KY, LR_y, LB_y, HB0_y, HB1_y, HB2_y, HB3_y, HB4_y, zY, PP_y, PQ_y, hmy, HCY⟩ := hrel
     clear X40 K40 LR_40 LB_40 HB0_28 HB1_28 HB2_28 HB3_28 HB4_28 PM_40
     have XS := XY.out
     obtain ⟨kt, wdt, nt, Tt, at9, qt, fat, hra, h'⟩ := XS
     obtain ⟨f0, f1, f2, f3, f4, f5, f6, f7, f8, fz⟩ := hra.all
     clear h' hra
     by_cases hcy : cy = 0
     ·subst hcy
      obtain ⟨qs, hR, hnq, hlq⟩ := PQ_y.out rfl
      have HRQ := hI hR.strong
      have HLQ := hI (And.intro hlq hnq)
      have hc40 := HCY.out rfl
      clear HCY
      have HC40 := hI hc40
      clear hR hlq hc40 PQ_y
      cases nb
      ·go_wp2_with fail
       clear f0 f1 f2 f3 f4 f5 f6 f7 f8 fz
       refine (port_any br s 0 my wr XY.out).mono ?_
       rintro e w41 ⟨cs41, rfl, hsz41, hon41, hk, c41, m41, hx, ha, hp⟩
       have z41 : wr.heap.size ≤ w41.heap.size := hk.size
       have KK := hI hk
       have K41 : Hid (Kq br w w41) := KY.out.trans hk
       have X41 := hI hx
       have A41 := hI ha
       have P41_41 := hI (po_born hp)
       clear hk hx ha hp
       have LR_41 := vK KK LR_y (by omega)
       have LB_41 := vK KK LB_y (by omega)
       clear LR_y LB_y
       have PP_41 := hI (rw_to PP_y.out (fun k o hb h => KK.out.get (by omega) h))
       have PQ_41 := hI (Rw.to HRQ.out (fun k o hb h => KK.out.get (by omega) h))
       clear PP_y HRQ
       clear KK
       have HON41 := hI hon41
       clear hon41
       have HSZ41 := hI hsz41
       clear hsz41
       have HTT : Hid ((w41.alloc (.cells #[.string ⟨#[]⟩, .int .i64 0, .bool false, .bool false, .bool false, .int .i64 0, .int .i64 0, .int .i64 0, .int .i64 0, .int .u64 0, .string ⟨#[]⟩, .slice none 0 0, .int .i64 0, .int .i64 0, .int .i64 0, .int .i64 0, .int .u64 0, .string ⟨#[]⟩, .slice none 0 0] 62)).there w41.heap.size 0 cs41.size) := there_new1 _ _ _ _ HSZ41.out.symm
       have HTI : Hid ((Tryz.prog.info? 62).map (·.size) = some cs41.size) := info62s.trans (congrArg some HSZ41.out.symm)
       have HTO : Hid (cs41.all (·.oneCell') = true) := arr_all HON41.out
       go_upto_region 20 with ((with_reducible refine wpList_id ?_); (refine wpList_store_mid rfl 62 (.tmp 8) (.tmp 73) rfl (w41.heap.size) 0 cs41 rfl rfl HTT.out HTI.out HTO.out ?_))
       generalize hWW : w41.alloc (.cells _ 62) = w42
       clear HTT HTI HTO
       obtain ⟨zz, bb, oo, kk⟩ := one_box hWW
       have z42 : w41.heap.size < w42.heap.size := by omega
       have K42 : Hid (Kq br w w42) := K41.out.trans (kk br).out
       have X42 : Hid (Sx br s w42 c41 m41) := X41.out.to (oo br X41.out.lt)
       clear X41 K41
       have LR_42 := hI (LR_41.out.via (fun e => (oo _ (heap_lt (hI e).out)).trans (hI e).out))
       have LB_42 := hI (LB_41.out.via (fun e => (oo _ (heap_lt (hI e).out)).trans (hI e).out))
       clear LR_41 LB_41
       have PP_42 := hI (rw_to PP_41.out (fun k o hb h => (oo k (heap_lt h)).trans h))
       have PQ_42 := hI (Rw.to PQ_41.out (fun k o hb h => (oo k (heap_lt h)).trans h))
       have P41_42 := hI (po_to P41_41.out (fun k o hb h => (oo k (heap_lt h)).trans h))
       clear PP_41 PQ_41 P41_41
       obtain ⟨cT_42, LT_42⟩ : ∃ cs, Hid (Lb w42 (w41.heap.size) 19 62 cs) := ⟨_, ⟨bb, rfl, one_of rfl⟩⟩
       clear hWW zz oo kk bb
       generalize hS : w42.setCells (w41.heap.size) 0 _ = w43
       replace hS : setFrom w42 (w41.heap.size) 0 cs41.toList = w43 := (setCells_from _ _ _ _).symm.trans hS
       obtain ⟨hr, zz, oo, kk, xx⟩ := lb_copy hS LT_42.out HSZ41.out
       have z43 : w42.heap.size ≤ w43.heap.size := by omega
       have K43 : Hid (Kq br w w43) := kk br w K42.out (by omega)
       have X43 : Hid (Sx br s w43 c41 m41) := xx br s c41 m41 X42.out (by omega)
       have LT_43 : Hid (Lb w43 (w41.heap.size) 19 62 cs41) := ⟨hr, HSZ41.out, HON41.out⟩
       clear LT_42 X42 K42
       have LR_43 := vE (oo _ (by omega)) LR_42
       have LB_43 := vE (oo _ (by omega)) LB_42
       clear LR_42 LB_42
       have PP_43 := hI (rw_to PP_42.out (fun k o hb h => (oo k (by omega)).trans h))
       have PQ_43 := hI (Rw.to PQ_42.out (fun k o hb h => (oo k (by omega)).trans h))
       have P41_43 := hI (po_to P41_42.out (fun k o hb h => (oo k (by omega)).trans h))
       clear PP_42 PQ_42 P41_42
       clear hS hr zz oo kk xx
       have HNO : Hid (some (w.heap.size + 1) ≠ (.slice say sly scy : Value).ownBlock) := Rw.low ((PQ_43.out.sub (S' := fun b => w40.heap.size ≤ b) (fun b hb => by show w40.heap.size ≤ b; omega))) (by omega)
       obtain ⟨pcB3, pfB3⟩ := LB_43.out.cell HB3_y.out.head
       obtain ⟨xr44, hxo44, hxS44⟩ := Rw.own ((PQ_43.out.sub (S' := fun b => w40.heap.size ≤ b) (fun b hb => by show w40.heap.size ≤ b; omega))) (x0 := w43.heap.size) (by show w40.heap.size ≤ w43.heap.size; omega)
       have hxS44 : w40.heap.size ≤ xr44 := hxS44
       have HXO44 := hI hxo44
       clear hxo44
       obtain ⟨i5, hi, hzz, hsz, hby⟩ := info62'
       have HI5 := hI hi
       have HZ5 := hI hzz
       have HS5 := hI hsz
       have HB5 := hI hby
       clear hi hzz hsz hby
       have HSZ5 : Hid (cs41.size = 19) := LT_43.out.size
       have HLE5 : Hid (cs41.toList.length = 1 * 19) := by show _ = _; rw [Array.length_toList, HSZ5.out]
       have HIN5 : Hid ((Tryz.prog.info? 62).map (·.size) = some cs41.toList.length) := by show _ = _; rw [HLE5.out]; exact info62s
       have HWH5 : Hid (w43.rangeAt (w41.heap.size) 0 cs41.toList) := LT_43.out.whole
       go_upto_region 21 with ((with_reducible refine wpList_id ?_); first | (refine wpList_load_mid rfl 62 (.tmp 8) rfl (w41.heap.size) 0 rfl cs41.toList _ HWH5.out Tryz.underlying62 rfl HIN5.out ?_) | (refine wpList_build_one rfl 37 (.tmp 76) rfl 62 cs41 19 rfl Tryz.underlying37 i5 HI5.out _ HZ5.out HS5.out HSZ5.out (by decide) (by decide) ?_) | (at_builtin; refine wpList_append_lies _ rfl (.tmp 75) (.tmp 77) 37 rfl (w40.heap.size) 62 i5 _ 19 200 Tryz.underlying37 HI5.out HZ5.out HS5.out HB5.out rfl (by decide) (.slice say sly scy) (qs.length) _ rfl (Rw.alloc ((PQ_43.out.sub (S' := fun b => w40.heap.size ≤ b) (fun b hb => by show w40.heap.size ≤ b; omega))) _).1 ⟨w43.heap.size, 0, none⟩ 1 1 cs41.toList rfl HLE5.out (new_cellsA w43 62 cs41) LT_43.out.one (by decide) (by simp only [maxLen]; omega) (by omega) (by simp; omega) _ rfl ?_; intro g44 cap44 w44 hownX hgrowX hatX hltX; have OB := hI hownX; have GB := hI hgrowX; have TB := hI hatX; clear hownX hgrowX hatX; obtain ⟨pcX, pfX⟩ := (Lb.to LB_43.out ((GB.out.block (w.heap.size + 1) (by have := LB_43.out.lt; simp; omega) HNO.out).trans (Below.heap_alloc _ _ _ LB_43.out.lt))).cell HB3_y.out.head))
       clear pcB3 pfB3 pcX pfX
       obtain ⟨kk, ⟨sg44, sz44⟩, rr⟩ := row_app0 (S := fun b => w40.heap.size ≤ b) (xr := xr44) ((PQ_43.out.sub (S' := fun b => w40.heap.size ≤ b) (fun b hb => by show w40.heap.size ≤ b; omega))) OB.out GB.out TB.out rfl hltX HXO44.out (by show w40.heap.size ≤ _; simp only [World.size_alloc]; omega)
       have sg44 : w40.heap.size ≤ g44 := sg44
       have z44 : w43.heap.size ≤ w44.heap.size := kk.size
       have K44 : Hid (Kq br w w44) := K43.out.comp kk (by omega)
       have X44 : Hid (Sx br s w44 c41 m41) := kk.sx (by omega) X43.out
       have KK := hI kk
       have RR := hI rr
       clear kk rr hltX OB GB TB X43 K43 HI5 HZ5 HS5 HB5 HSZ5 HLE5 HIN5 HWH5
       have PQ2_44 : Hid (c41 = 0 → ∃ xs : List (PortD), Rw elP (fun b => w40.heap.size ≤ b) (w40.heap.size) w44 (.slice (some ⟨g44, 0, none⟩) (qs.length + 1) cap44) xs ∧ (xs.length + m41 ≤ m40 ∧ (commaTxt (xs.map portTxt)).length ≤ 64 * (m40 - m41))) := by
        intro hc
        obtain ⟨d, hp, hd, hl⟩ := P41_43.out hc
        have hm := (A41.out.2 hc).2
        have hpl := portTxt_len d
        obtain ⟨hl0, hn0⟩ := HLQ.out
        have hcl := comma_snoc_le (qs.map portTxt) (portTxt d)
        refine ⟨qs ++ [d], RR.out [d] (by simp) (by simp [elP, hd]) rfl ?_, by simp only [lnA, lnC, lnN]; omega, by rw [List.map_append, List.map_cons, List.map_nil]; omega⟩
        intro y hy
        rw [List.mem_singleton] at hy
        subst hy
        refine elP.mono ?_ (fun _ _ _ _ hu => hu) hp
        intro b hb
        have h1 : wr.heap.size ≤ b ∧ b < w41.heap.size := hb
        exact ⟨by show w40.heap.size ≤ b; omega, Rw.not_own PQ_43.out (by show ¬ (w40.heap.size ≤ b ∧ b < wr.heap.size); omega)⟩
       clear LT_43
       clear PQ_43
       clear P41_43
       have LR_44 := vK KK LR_43 (by omega)
       have LB_44 := vK KK LB_43 (by omega)
       clear LR_43 LB_43
       have PP_44 := hI (rw_to PP_43.out (fun k o hb h => KK.out.get (by omega) h))
       clear PP_43
       clear KK RR HXO44
       clear HNO
       generalize hS : w44.setCell ⟨w.heap.size + 1, 3, none⟩ _ = w45
       replace hS : setFrom w44 (w.heap.size + 1) 3 [.slice (some ⟨g44, 0, none⟩) (qs.length + 1) cap44] = w45 := hS
       obtain ⟨cB_45, bb, hh, ap, zz, oo, kk, xx⟩ := lb_set hS LB_44.out (by simp only [lnC, lnN]; omega) (one_list rfl)
       have z45 : w44.heap.size ≤ w45.heap.size := by omega
       have K45 : Hid (Kq br w w45) := kk br w K44.out (by omega)
       have X45 : Hid (Sx br s w45 c41 m41) := xx br s c41 m41 X44.out (by omega)
       have LB_45 := hI bb
       have HB0_45 := hI (ap 0 [.string nm2] HB0_y.out (by simp only [lnC, lnN]; omega))
       have HB1_45 := hI (ap 1 [.int .i64 aa] HB1_y.out (by simp only [lnC, lnN]; omega))
       have HB2_45 := hI (ap 2 [.slice (some ⟨g27, 0, none⟩) (es.length + 1) cap27] HB2_y.out (by simp only [lnC, lnN]; omega))
       have HB4_45 := hI (ap 4 [.slice none 0 0] HB4_y.out (by simp only [lnC, lnN]; omega))
       have HB3_45 : Hid (Has cB_45 3 [.slice (some ⟨g44, 0, none⟩) (qs.length + 1) cap44]) := hh
       clear LB_44 X44 K44 HB0_y HB1_y HB2_y HB3_y HB4_y
       have LR_45 := vE (oo _ (by omega)) LR_44
       clear LR_44
       have PP_45 := hI (rw_to PP_44.out (fun k o hb h => (oo k (by omega)).trans h))
       have PQ2_45 := hI (rw_to PQ2_44.out (fun k o hb h => (oo k (by omega)).trans h))
       clear PP_44 PQ2_44
       clear hS bb hh ap zz oo kk xx
       go_wp2_with fail
       refine accept_alt X45.out _ ?_ ?_
       ·intro hc0 m46 w46 hm46 hk hx
        subst hc0
        have z46 : w45.heap.size ≤ w46.heap.size := hk.size
        have KK := hI hk
        have K46 : Hid (Kq br w w46) := K45.out.trans hk
        have X46 := hI hx
        clear hk hx X45 K45
        have LR_46 := vK KK LR_45 (by omega)
        have LB_46 := vK KK LB_45 (by omega)
        clear LR_45 LB_45
        have PP_46 := hI (rw_to PP_45.out (fun k o hb h => KK.out.get (by omega) h))
        have PQ2_46 := hI (rw_to PQ2_45.out (fun k o hb h => KK.out.get (by omega) h))
        clear PP_45 PQ2_45
        clear KK
        go_wp2_with fail
        have AX : Adv 0 my 0 m46 := Adv.trans (A41.out) (⟨Nat.le_of_lt hm46, fun _ => ⟨rfl, hm46⟩⟩)
        go_roundg (meas 0 m46)
        case measure => have := meas_next AX; omega
        case rel => exact ⟨_, 0, m46, _, _, _, _, rfl, rfl, X46, K46, LR_46, LB_46, HB0_45, HB1_45, HB2_45, HB3_45, HB4_45, by omega, PP_46, (fun _ => by obtain ⟨xs, hR, h1, h2⟩ := PQ2_46.out (by trivial); exact ⟨xs, hR, by omega, by omega⟩ : Hid _), by have := AX.1; omega, (fun _ => HC40.out : Hid _)⟩
       go_wp2_with fail
       have AX : Adv 0 my c41 m41 := A41.out
       go_roundg (meas c41 m41)
       case measure => have := meas_next AX; omega
       case rel => exact ⟨_, c41, m41, _, _, _, _, rfl, rfl, X45, K45, LR_45, LB_45, HB0_45, HB1_45, HB2_45, HB3_45, HB4_45, by omega, PP_45, PQ2_45, by have := AX.1; omega, (fun _ => HC40.out : Hid _)⟩
      ·go_wp2_with fail
       clear f0 f1 f2 f3 f4 f5 f6 f7 f8 fz
       refine (must_any XY.out _).mono ?_
       rintro e w50 ⟨rfl, hk, c50, m50, hx, ha⟩
       have z50 : wr.heap.size ≤ w50.heap.size := hk.size
       have KK := hI hk
       have K50 : Hid (Kq br w w50) := KY.out.trans hk
       have X50 := hI hx
       have A50 := hI ha
       clear hk hx ha
       have LR_50 := vK KK LR_y (by omega)
       have LB_50 := vK KK LB_y (by omega)
       clear LR_y LB_y
       have PP_50 := hI (rw_to PP_y.out (fun k o hb h => KK.out.get (by omega) h))
       have PQ_50 := hI (Rw.to HRQ.out (fun k o hb h => KK.out.get (by omega) h))
       clear PP_y HRQ
       clear KK
       go_wp2_with fail
       refine (must_any X50.out _).mono ?_
       rintro e w51 ⟨rfl, hk, c51, m51, hx, ha⟩
       have z51 : w50.heap.size ≤ w51.heap.size := hk.size
       have KK := hI hk
       have K51 : Hid (Kq br w w51) := K50.out.trans hk
       have X51 := hI hx
       have A51 := hI ha
       clear hk hx ha
       have LR_51 := vK KK LR_50 (by omega)
       have LB_51 := vK KK LB_50 (by omega)
       clear LR_50 LB_50
       have PP_51 := hI (rw_to PP_50.out (fun k o hb h => KK.out.get (by omega) h))
       have PQ_51 := hI (Rw.to PQ_50.out (fun k o hb h => KK.out.get (by omega) h))
       clear PP_50 PQ_50
       clear KK
       go_wp2_with fail
       refine (items_read _ X51.out).mono ?_
       rintro e w52 ⟨sa52, sl52, sc52, rfl, hk, c52, m52, hx, hmm52, hcc52, hp⟩
       have z52 : w51.heap.size ≤ w52.heap.size := hk.size
       have KK := hI hk
       have K52 : Hid (Kq br w w52) := K51.out.trans hk
       have X52 := hI hx
       have P52_52 := hI (rw_born hp)
       clear hk hx hp
       have LR_52 := vK KK LR_51 (by omega)
       have LB_52 := vK KK LB_51 (by omega)
       clear LR_51 LB_51
       have PP_52 := hI (rw_to PP_51.out (fun k o hb h => KK.out.get (by omega) h))
       have PQ_52 := hI (Rw.to PQ_51.out (fun k o hb h => KK.out.get (by omega) h))
       clear PP_51 PQ_51
       clear KK
       have HCC52 := hI hcc52
       clear hcc52
       obtain ⟨pcB4, pfB4⟩ := LB_52.out.cell HB4_y.out.head
       go_wp2_with fail
       generalize hS : w52.setCell ⟨w.heap.size + 1, 4, none⟩ _ = w53
       clear pcB4 pfB4
       replace hS : setFrom w52 (w.heap.size + 1) 4 [.slice sa52 sl52 sc52] = w53 := hS
       obtain ⟨cB_53, bb, hh, ap, zz, oo, kk, xx⟩ := lb_set hS LB_52.out (by simp only [lnC, lnN]; omega) (one_list rfl)
       have z53 : w52.heap.size ≤ w53.heap.size := by omega
       have K53 : Hid (Kq br w w53) := kk br w K52.out (by omega)
       have X53 : Hid (Sx br s w53 c52 m52) := xx br s c52 m52 X52.out (by omega)
       have LB_53 := hI bb
       have HB0_53 := hI (ap 0 [.string nm2] HB0_y.out (by simp only [lnC, lnN]; omega))
       have HB1_53 := hI (ap 1 [.int .i64 aa] HB1_y.out (by simp only [lnC, lnN]; omega))
       have HB2_53 := hI (ap 2 [.slice (some ⟨g27, 0, none⟩) (es.length + 1) cap27] HB2_y.out (by simp only [lnC, lnN]; omega))
       have HB3_53 := hI (ap 3 [.slice say sly scy] HB3_y.out (by simp only [lnC, lnN]; omega))
       have HB4_53 : Hid (Has cB_53 4 [.slice sa52 sl52 sc52]) := hh
       clear LB_52 X52 K52 HB0_y HB1_y HB2_y HB3_y HB4_y
       have LR_53 := vE (oo _ (by omega)) LR_52
       clear LR_52
       have PP_53 := hI (rw_to PP_52.out (fun k o hb h => (oo k (by omega)).trans h))
       have PQ_53 := hI (Rw.to PQ_52.out (fun k o hb h => (oo k (by omega)).trans h))
       have P52_53 := hI (rw_to P52_52.out (fun k o hb h => (oo k (by omega)).trans h))
       clear PP_52 PQ_52 P52_52
       clear hS bb hh ap zz oo kk xx
       refine (must_any X53.out _).mono ?_
       rintro e w54 ⟨rfl, hk, c54, m54, hx, ha⟩
       have z54 : w53.heap.size ≤ w54.heap.size := hk.size
       have KK := hI hk
       have K54 : Hid (Kq br w w54) := K53.out.trans hk
       have X54 := hI hx
       have A54 := hI ha
       clear hk hx ha
       have LR_54 := vK KK LR_53 (by omega)
       have LB_54 := vK KK LB_53 (by omega)
       clear LR_53 LB_53
       have PP_54 := hI (rw_to PP_53.out (fun k o hb h => KK.out.get (by omega) h))
       have PQ_54 := hI (Rw.to PQ_53.out (fun k o hb h => KK.out.get (by omega) h))
       have P52_54 := hI (rw_to P52_53.out (fun k o hb h => KK.out.get (by omega) h))
       clear PP_53 PQ_53 P52_53
       clear KK
       have hcz : cB_53.size = 5 := LB_54.out.size
       go_wp2_with (first | (refine wpList_load_mid rfl 40 (.tmp 3) rfl (w.heap.size + 1) 0 rfl cB_53.toList _ LB_54.out.whole Tryz.underlying40 rfl (info40s.trans (congrArg some (by rw [Array.length_toList, hcz]))) ?_) | (refine wpList_store_mid rfl 40 (.tmp 2) (.tmp 93) rfl (w.heap.size) 0 cB_53 rfl rfl (LR_54.out.there 0 _ (by rw [hcz]; decide)) (info40s.trans (congrArg some hcz.symm)) LB_54.out.all ?_))
       generalize hS : w54.setCells (w.heap.size) 0 _ = w55
       replace hS : setFrom w54 (w.heap.size) 0 cB_53.toList = w55 := (setCells_from _ _ _ _).symm.trans hS
       obtain ⟨hr, zz, oo, kk, xx⟩ := lb_copy hS LR_54.out hcz
       have z55 : w54.heap.size ≤ w55.heap.size := by omega
       have K55 : Hid (Kq br w w55) := kk br w K54.out (by omega)
       have X55 : Hid (Sx br s w55 c54 m54) := xx br s c54 m54 X54.out (by omega)
       have LB_55 := vE (oo _ (by omega)) LB_54
       clear LB_54
       have PP_55 := hI (rw_to PP_54.out (fun k o hb h => (oo k (by omega)).trans h))
       have PQ_55 := hI (Rw.to PQ_54.out (fun k o hb h => (oo k (by omega)).trans h))
       have P52_55 := hI (rw_to P52_54.out (fun k o hb h => (oo k (by omega)).trans h))
       clear PP_54 PQ_54 P52_54
       refine bodyPost_ret (v := .agg cB_53) (results_cell_row (Tryz.results10) _ _ (w.heap.size) 40 cB_53 _ _ rfl hr Tryz.underlying40 rfl (info40s.trans (congrArg some hcz.symm))) rfl ?_
       have AY := adv_ge (Adv.trans A50.out A51.out) HCC52.out hmm52 A54.out
       refine ⟨_, rfl, hcz, LB_55.out.one, K55.out, c54, m54, X55.out, adv_ge (Adv.trans AR.out A40.out) (fun _ => HC40.out) hmy AY, fun hc => ?_⟩
       obtain ⟨hc52, hm54⟩ := A54.out.2 hc
       obtain ⟨hc50, hm51⟩ := A51.out.2 (HCC52.out hc52)
       obtain ⟨_, hm50⟩ := A50.out.2 hc50
       obtain ⟨hcR, hm40a⟩ := A40.out.2 HC40.out
       obtain ⟨_, hmR⟩ := AR.out.2 hcR
       have hA2m := A2.out.1
       have hA1m := A1.out.1
       have hq1 := (A30.out.2 hcR).2
       have hq2 : m25 ≤ mr := hAX
       obtain ⟨ps, hRp, hp1, hp2, hgv⟩ := PP_55.out (A30.out.2 hcR).1
       obtain ⟨hq4, hq5⟩ := HLQ.out
       obtain ⟨es, hRi, hli⟩ := P52_55.out hc52
       have he := ((((HB0_53.out.app HB1_53.out).app HB2_53.out).app HB3_53.out).app HB4_53.out).eq (by rw [hcz]; rfl)
       have rp := (hRp.sub (S' := fun b => w.heap.size ≤ b) fun b hb => by show _ ≤ _; omega).row
       have rq := (PQ_55.out.sub (S' := fun b => w.heap.size ≤ b) fun b hb => by show _ ≤ _; omega).row
       have ri := (hRi.sub (S' := fun b => w.heap.size ≤ b) fun b hb => by show _ ≤ _; omega).row
       refine ⟨_, ⟨nm2.data.toList, aa, _, _, _, ps, qs, es, by rw [he, bs_of]; rfl, rp.1, fun d hd => ⟨rp.2 d hd, hgv d hd⟩, rq.1, rq.2, ri.1, ri.2, rfl⟩, ?_⟩
       refine Nat.le_trans (modTxt_len _ _ _ _) ?_
       rw [len_of]
       omega
     ·have g1 : (cy == 0) = false := beq_eq_false_iff_ne.2 hcy
      go_wp2_with fail
      clear g1
      clear f0 f1 f2 f3 f4 f5 f6 f7 f8 fz
      have hcn := hcy
      refine (must_any XY.out _).mono ?_
      rintro e w50 ⟨rfl, hk, c50, m50, hx, ha⟩
      have z50 : wr.heap.size ≤ w50.heap.size := hk.size
      have KK := hI hk
      have K50 : Hid (Kq br w w50) := KY.out.trans hk
      have X50 := hI hx
      have A50 := hI ha
      clear hk hx ha
      have LR_50 := vK KK LR_y (by omega)
      have LB_50 := vK KK LB_y (by omega)
      clear LR_y LB_y
      have PP_50 := hI (rw_to PP_y.out (fun k o hb h => KK.out.get (by omega) h))
      have PQ_50 := hI (rw_to PQ_y.out (fun k o hb h => KK.out.get (by omega) h))
      clear PP_y PQ_y
      clear KK
      go_wp2_with fail
      refine (must_any X50.out _).mono ?_
      rintro e w51 ⟨rfl, hk, c51, m51, hx, ha⟩
      have z51 : w50.heap.size ≤ w51.heap.size := hk.size
      have KK := hI hk
      have K51 : Hid (Kq br w w51) := K50.out.trans hk
      have X51 := hI hx
      have A51 := hI ha
      clear hk hx ha
      have LR_51 := vK KK LR_50 (by omega)
      have LB_51 := vK KK LB_50 (by omega)
      clear LR_50 LB_50
      have PP_51 := hI (rw_to PP_50.out (fun k o hb h => KK.out.get (by omega) h))
      have PQ_51 := hI (rw_to PQ_50.out (fun k o hb h => KK.out.get (by omega) h))
      clear PP_50 PQ_50
      clear KK
      go_wp2_with fail
      refine (items_read _ X51.out).mono ?_
      rintro e w52 ⟨sa52, sl52, sc52, rfl, hk, c52, m52, hx, hmm52, hcc52, hp⟩
      have z52 : w51.heap.size ≤ w52.heap.size := hk.size
      have KK := hI hk
      have K52 : Hid (Kq br w w52) := K51.out.trans hk
      have X52 := hI hx
      have P52_52 := hI (rw_born hp)
      clear hk hx hp
      have LR_52 := vK KK LR_51 (by omega)
      have LB_52 := vK KK LB_51 (by omega)
      clear LR_51 LB_51
      have PP_52 := hI (rw_to PP_51.out (fun k o hb h => KK.out.get (by omega) h))
      have PQ_52 := hI (rw_to PQ_51.out (fun k o hb h => KK.out.get (by omega) h))
      clear PP_51 PQ_51
      clear KK
      have HCC52 := hI hcc52
      clear hcc52
      obtain ⟨pcB4, pfB4⟩ := LB_52.out.cell HB4_y.out.head
      go_wp2_with fail
      generalize hS : w52.setCell ⟨w.heap.size + 1, 4, none⟩ _ = w53
      clear pcB4 pfB4
      replace hS : setFrom w52 (w.heap.size + 1) 4 [.slice sa52 sl52 sc52] = w53 := hS
      obtain ⟨cB_53, bb, hh, ap, zz, oo, kk, xx⟩ := lb_set hS LB_52.out (by simp only [lnC, lnN]; omega) (one_list rfl)
      have z53 : w52.heap.size ≤ w53.heap.size := by omega
      have K53 : Hid (Kq br w w53) := kk br w K52.out (by omega)
      have X53 : Hid (Sx br s w53 c52 m52) := xx br s c52 m52 X52.out (by omega)
      have LB_53 := hI bb
      have HB0_53 := hI (ap 0 [.string nm2] HB0_y.out (by simp only [lnC, lnN]; omega))
      have HB1_53 := hI (ap 1 [.int .i64 aa] HB1_y.out (by simp only [lnC, lnN]; omega))
      have HB2_53 := hI (ap 2 [.slice (some ⟨g27, 0, none⟩) (es.length + 1) cap27] HB2_y.out (by simp only [lnC, lnN]; omega))
      have HB3_53 := hI (ap 3 [.slice say sly scy] HB3_y.out (by simp only [lnC, lnN]; omega))
      have HB4_53 : Hid (Has cB_53 4 [.slice sa52 sl52 sc52]) := hh
      clear LB_52 X52 K52 HB0_y HB1_y HB2_y HB3_y HB4_y
      have LR_53 := vE (oo _ (by omega)) LR_52
      clear LR_52
      have PP_53 := hI (rw_to PP_52.out (fun k o hb h => (oo k (by omega)).trans h))
      have PQ_53 := hI (rw_to PQ_52.out (fun k o hb h => (oo k (by omega)).trans h))
      have P52_53 := hI (rw_to P52_52.out (fun k o hb h => (oo k (by omega)).trans h))
      clear PP_52 PQ_52 P52_52
      clear hS bb hh ap zz oo kk xx
      refine (must_any X53.out _).mono ?_
      rintro e w54 ⟨rfl, hk, c54, m54, hx, ha⟩
      have z54 : w53.heap.size ≤ w54.heap.size := hk.size
      have KK := hI hk
      have K54 : Hid (Kq br w w54) := K53.out.trans hk
      have X54 := hI hx
      have A54 := hI ha
      clear hk hx ha
      have LR_54 := vK KK LR_53 (by omega)
      have LB_54 := vK KK LB_53 (by omega)
      clear LR_53 LB_53
      have PP_54 := hI (rw_to PP_53.out (fun k o hb h => KK.out.get (by omega) h))
      have PQ_54 := hI (rw_to PQ_53.out (fun k o hb h => KK.out.get (by omega) h))
      have P52_54 := hI (rw_to P52_53.out (fun k o hb h => KK.out.get (by omega) h))
      clear PP_53 PQ_53 P52_53
      clear KK
      have hcz : cB_53.size = 5 := LB_54.out.size
      go_wp2_with (first | (refine wpList_load_mid rfl 40 (.tmp 3) rfl (w.heap.size + 1) 0 rfl cB_53.toList _ LB_54.out.whole Tryz.underlying40 rfl (info40s.trans (congrArg some (by rw [Array.length_toList, hcz]))) ?_) | (refine wpList_store_mid rfl 40 (.tmp 2) (.tmp 93) rfl (w.heap.size) 0 cB_53 rfl rfl (LR_54.out.there 0 _ (by rw [hcz]; decide)) (info40s.trans (congrArg some hcz.symm)) LB_54.out.all ?_))
      generalize hS : w54.setCells (w.heap.size) 0 _ = w55
      replace hS : setFrom w54 (w.heap.size) 0 cB_53.toList = w55 := (setCells_from _ _ _ _).symm.trans hS
      obtain ⟨hr, zz, oo, kk, xx⟩ := lb_copy hS LR_54.out hcz
      have z55 : w54.heap.size ≤ w55.heap.size := by omega
      have K55 : Hid (Kq br w w55) := kk br w K54.out (by omega)
      have X55 : Hid (Sx br s w55 c54 m54) := xx br s c54 m54 X54.out (by omega)
      have LB_55 := vE (oo _ (by omega)) LB_54
      clear LB_54
      have PP_55 := hI (rw_to PP_54.out (fun k o hb h => (oo k (by omega)).trans h))
      have PQ_55 := hI (rw_to PQ_54.out (fun k o hb h => (oo k (by omega)).trans h))
      have P52_55 := hI (rw_to P52_54.out (fun k o hb h => (oo k (by omega)).trans h))
      clear PP_54 PQ_54 P52_54
      refine bodyPost_ret (v := .agg cB_53) (results_cell_row (Tryz.results10) _ _ (w.heap.size) 40 cB_53 _ _ rfl hr Tryz.underlying40 rfl (info40s.trans (congrArg some hcz.symm))) rfl ?_
      have AY := adv_ge (Adv.trans A50.out A51.out) HCC52.out hmm52 A54.out
      refine ⟨_, rfl, hcz, LB_55.out.one, K55.out, c54, m54, X55.out, adv_ge (Adv.trans AR.out A40.out) HCY.out hmy AY, fun hc => ?_⟩
      exact absurd (AY.2 hc).1 hcn
   ·have g1 : (cr == 0) = false := beq_eq_false_iff_ne.2 hcz
    go_wp2_with fail
    clear g1
    clear f0 f1 f2 f3 f4 f5 f6 f7 f8 fz
    have hcn := hcz
    refine (must_any XR.out _).mono ?_
    rintro e w30 ⟨rfl, hk, c30, m30, hx, ha⟩
    have z30 : wo.heap.size ≤ w30.heap.size := hk.size
    have KK := hI hk
    have K30 : Hid (Kq br w w30) := KR.out.trans hk
    have X30 := hI hx
    have A30 := hI ha
    clear hk hx ha
    have LR_30 := vK KK LR_r (by omega)
    have LB_30 := vK KK LB_r (by omega)
    clear LR_r LB_r
    have PL_30 := hI (rw_to PL_r.out (fun k o hb h => KK.out.get (by omega) h))
    clear PL_r
    clear KK
    go_wp2_with fail
    have PL_30b := hI (rw_born PL_30.out)
    clear PL_30
    have AR : Hid (Adv c m c30 m30) := (adv_ge (Adv.trans (A1.out) (Adv.trans (A2.out) (Adv.trans (⟨Nat.le_of_lt hm4, fun _ => ⟨rfl, hm4⟩⟩) (A5.out)))) HCS.out hmr A30.out : Adv c m c30 m30)
    refine (must_any X30.out _).mono ?_
    rintro e w40 ⟨rfl, hk, c40, m40, hx, ha⟩
    have z40 : w30.heap.size ≤ w40.heap.size := hk.size
    have KK := hI hk
    have K40 : Hid (Kq br w w40) := K30.out.trans hk
    have X40 := hI hx
    have A40 := hI ha
    clear hk hx ha
    have LR_40 := vK KK LR_30 (by omega)
    have LB_40 := vK KK LB_30 (by omega)
    clear LR_30 LB_30
    have PL_40 := hI (rw_to PL_30b.out (fun k o hb h => KK.out.get (by omega) h))
    clear PL_30b
    clear KK
    go_wp2_with fail
    have hm40 : m40 ≤ 60001 := X40.out.le
    refine is_some X40.out _ fun bq => ?_
    go_wp2_with fail
    go_loopg [7] (meas c40 m40) (fun gk o wr => ∃ (nb : Bool) (cy : Int) (my : Nat) (say : Option Addr) (sly scy : Nat) (cBy : Array Value), o = .bool nb ∧ gk = meas cy my ∧ Hid (Sx br s wr cy my) ∧ Hid (Kq br w wr) ∧ Hid (Lb wr (w.heap.size) 5 40 cR_0) ∧ Hid (Lb wr (w.heap.size + 1) 5 40 cBy) ∧ Hid (Has cBy 0 [.string nm2]) ∧ Hid (Has cBy 1 [.int .i64 aa]) ∧ Hid (Has cBy 2 [.slice sa sl sc]) ∧ Hid (Has cBy 3 [.slice say sly scy]) ∧ Hid (Has cBy 4 [.slice none 0 0]) ∧ w40.heap.size ≤ wr.heap.size ∧ Hid (cr = 0 → ∃ xs : List BindD, Rw elB (fun b => (w0.heap.size ≤ b) ∧ b < w30.heap.size) w0.heap.size wr (.slice sa sl sc) xs ∧ (xs.length + mr ≤ m5 ∧ (commaTxt (xs.map paramTxt)).length ≤ 64 * (m5 - mr) ∧ ∀ d ∈ xs, d.gv = true)) ∧ Hid (cy = 0 → ∃ xs : List PortD, Rw elP (fun b => w40.heap.size ≤ b) w40.heap.size wr (.slice say sly scy) xs ∧ (xs.length + my ≤ m40 ∧ (commaTxt (xs.map portTxt)).length ≤ 64 * (m40 - my))) ∧ my ≤ m40 ∧ Hid (cy = 0 → c40 = 0))
    case atStart => exact ⟨_, c40, m40, none, 0, 0, _, rfl, rfl, X40, K40, LR_40, LB_40, HB0_r, HB1_r, HB2_r, HB3_r, HB4_r, Nat.le_refl _, PL_40, (fun _ => ⟨[], Rw.nil _ _ _ _, by simp [commaTxt]⟩ : Hid _), Nat.le_refl _, (fun h => h : Hid _)⟩
    case round =>
     obtain ⟨nb, cy, my, say, sly, scy, cBy, rfl, hgy, XY, KY, LR_y, LB_y, HB0_y, HB1_y, HB2_y, HB3_y, HB4_y, zY, PP_y, PQ_y, hmy, HCY⟩ := hrel
     clear X40 K40 LR_40 LB_40 HB0_r HB1_r HB2_r HB3_r HB4_r PL_40
     have XS := XY.out
     obtain ⟨kt, wdt, nt, Tt, at9, qt, fat, hra, h'⟩ := XS
     obtain ⟨f0, f1, f2, f3, f4, f5, f6, f7, f8, fz⟩ := hra.all
     clear h' hra
     by_cases hcy : cy = 0
     ·subst hcy
      obtain ⟨qs, hR, hnq, hlq⟩ := PQ_y.out rfl
      have HRQ := hI hR.strong
      have HLQ := hI (And.intro hlq hnq)
      have hc40 := HCY.out rfl
      clear HCY
      have HC40 := hI hc40
      clear hR hlq hc40 PQ_y
      cases nb
      ·go_wp2_with fail
       clear f0 f1 f2 f3 f4 f5 f6 f7 f8 fz
       refine (port_any br s 0 my wr XY.out).mono ?_
       rintro e w41 ⟨cs41, rfl, hsz41, hon41, hk, c41, m41, hx, ha, hp⟩
       have z41 : wr.heap.size ≤ w41.heap.size := hk.size
       have KK := hI hk
       have K41 : Hid (Kq br w w41) := KY.out.trans hk
       have X41 := hI hx
       have A41 := hI ha
       have P41_41 := hI (po_born hp)
       clear hk hx ha hp
       have LR_41 := vK KK LR_y (by omega)
       have LB_41 := vK KK LB_y (by omega)
       clear LR_y LB_y
       have PP_41 := hI (rw_to PP_y.out (fun k o hb h => KK.out.get (by omega) h))
       have PQ_41 := hI (Rw.to HRQ.out (fun k o hb h => KK.out.get (by omega) h))
       clear PP_y HRQ
       clear KK
       have HON41 := hI hon41
       clear hon41
       have HSZ41 := hI hsz41
       clear hsz41
       have HTT : Hid ((w41.alloc (.cells #[.string ⟨#[]⟩, .int .i64 0, .bool false, .bool false, .bool false, .int .i64 0, .int .i64 0, .int .i64 0, .int .i64 0, .int .u64 0, .string ⟨#[]⟩, .slice none 0 0, .int .i64 0, .int .i64 0, .int .i64 0, .int .i64 0, .int .u64 0, .string ⟨#[]⟩, .slice none 0 0] 62)).there w41.heap.size 0 cs41.size) := there_new1 _ _ _ _ HSZ41.out.symm
       have HTI : Hid ((Tryz.prog.info? 62).map (·.size) = some cs41.size) := info62s.trans (congrArg some HSZ41.out.symm)
       have HTO : Hid (cs41.all (·.oneCell') = true) := arr_all HON41.out
       go_upto_region 20 with ((with_reducible refine wpList_id ?_); (refine wpList_store_mid rfl 62 (.tmp 8) (.tmp 73) rfl (w41.heap.size) 0 cs41 rfl rfl HTT.out HTI.out HTO.out ?_))
       generalize hWW : w41.alloc (.cells _ 62) = w42
       clear HTT HTI HTO
       obtain ⟨zz, bb, oo, kk⟩ := one_box hWW
       have z42 : w41.heap.size < w42.heap.size := by omega
       have K42 : Hid (Kq br w w42) := K41.out.trans (kk br).out
       have X42 : Hid (Sx br s w42 c41 m41) := X41.out.to (oo br X41.out.lt)
       clear X41 K41
       have LR_42 := hI (LR_41.out.via (fun e => (oo _ (heap_lt (hI e).out)).trans (hI e).out))
       have LB_42 := hI (LB_41.out.via (fun e => (oo _ (heap_lt (hI e).out)).trans (hI e).out))
       clear LR_41 LB_41
       have PP_42 := hI (rw_to PP_41.out (fun k o hb h => (oo k (heap_lt h)).trans h))
       have PQ_42 := hI (Rw.to PQ_41.out (fun k o hb h => (oo k (heap_lt h)).trans h))
       have P41_42 := hI (po_to P41_41.out (fun k o hb h => (oo k (heap_lt h)).trans h))
       clear PP_41 PQ_41 P41_41
       obtain ⟨cT_42, LT_42⟩ : ∃ cs, Hid (Lb w42 (w41.heap.size) 19 62 cs) := ⟨_, ⟨bb, rfl, one_of rfl⟩⟩
       clear hWW zz oo kk bb
       generalize hS : w42.setCells (w41.heap.size) 0 _ = w43
       replace hS : setFrom w42 (w41.heap.size) 0 cs41.toList = w43 := (setCells_from _ _ _ _).symm.trans hS
       obtain ⟨hr, zz, oo, kk, xx⟩ := lb_copy hS LT_42.out HSZ41.out
       have z43 : w42.heap.size ≤ w43.heap.size := by omega
       have K43 : Hid (Kq br w w43) := kk br w K42.out (by omega)
       have X43 : Hid (Sx br s w43 c41 m41) := xx br s c41 m41 X42.out (by omega)
       have LT_43 : Hid (Lb w43 (w41.heap.size) 19 62 cs41) := ⟨hr, HSZ41.out, HON41.out⟩
       clear LT_42 X42 K42
       have LR_43 := vE (oo _ (by omega)) LR_42
       have LB_43 := vE (oo _ (by omega)) LB_42
       clear LR_42 LB_42
       have PP_43 := hI (rw_to PP_42.out (fun k o hb h => (oo k (by omega)).trans h))
       have PQ_43 := hI (Rw.to PQ_42.out (fun k o hb h => (oo k (by omega)).trans h))
       have P41_43 := hI (po_to P41_42.out (fun k o hb h => (oo k (by omega)).trans h))
       clear PP_42 PQ_42 P41_42
       clear hS hr zz oo kk xx
       have HNO : Hid (some (w.heap.size + 1) ≠ (.slice say sly scy : Value).ownBlock) := Rw.low ((PQ_43.out.sub (S' := fun b => w40.heap.size ≤ b) (fun b hb => by show w40.heap.size ≤ b; omega))) (by omega)
       obtain ⟨pcB3, pfB3⟩ := LB_43.out.cell HB3_y.out.head
       obtain ⟨xr44, hxo44, hxS44⟩ := Rw.own ((PQ_43.out.sub (S' := fun b => w40.heap.size ≤ b) (fun b hb => by show w40.heap.size ≤ b; omega))) (x0 := w43.heap.size) (by show w40.heap.size ≤ w43.heap.size; omega)
       have hxS44 : w40.heap.size ≤ xr44 := hxS44
       have HXO44 := hI hxo44
       clear hxo44
       obtain ⟨i5, hi, hzz, hsz, hby⟩ := info62'
       have HI5 := hI hi
       have HZ5 := hI hzz
       have HS5 := hI hsz
       have HB5 := hI hby
       clear hi hzz hsz hby
       have HSZ5 : Hid (cs41.size = 19) := LT_43.out.size
       have HLE5 : Hid (cs41.toList.length = 1 * 19) := by show _ = _; rw [Array.length_toList, HSZ5.out]
       have HIN5 : Hid ((Tryz.prog.info? 62).map (·.size) = some cs41.toList.length) := by show _ = _; rw [HLE5.out]; exact info62s
       have HWH5 : Hid (w43.rangeAt (w41.heap.size) 0 cs41.toList) := LT_43.out.whole
       go_upto_region 21 with ((with_reducible refine wpList_id ?_); first | (refine wpList_load_mid rfl 62 (.tmp 8) rfl (w41.heap.size) 0 rfl cs41.toList _ HWH5.out Tryz.underlying62 rfl HIN5.out ?_) | (refine wpList_build_one rfl 37 (.tmp 76) rfl 62 cs41 19 rfl Tryz.underlying37 i5 HI5.out _ HZ5.out HS5.out HSZ5.out (by decide) (by decide) ?_) | (at_builtin; refine wpList_append_lies _ rfl (.tmp 75) (.tmp 77) 37 rfl (w40.heap.size) 62 i5 _ 19 200 Tryz.underlying37 HI5.out HZ5.out HS5.out HB5.out rfl (by decide) (.slice say sly scy) (qs.length) _ rfl (Rw.alloc ((PQ_43.out.sub (S' := fun b => w40.heap.size ≤ b) (fun b hb => by show w40.heap.size ≤ b; omega))) _).1 ⟨w43.heap.size, 0, none⟩ 1 1 cs41.toList rfl HLE5.out (new_cellsA w43 62 cs41) LT_43.out.one (by decide) (by simp only [maxLen]; omega) (by omega) (by simp; omega) _ rfl ?_; intro g44 cap44 w44 hownX hgrowX hatX hltX; have OB := hI hownX; have GB := hI hgrowX; have TB := hI hatX; clear hownX hgrowX hatX; obtain ⟨pcX, pfX⟩ := (Lb.to LB_43.out ((GB.out.block (w.heap.size + 1) (by have := LB_43.out.lt; simp; omega) HNO.out).trans (Below.heap_alloc _ _ _ LB_43.out.lt))).cell HB3_y.out.head))
       clear pcB3 pfB3 pcX pfX
       obtain ⟨kk, ⟨sg44, sz44⟩, rr⟩ := row_app0 (S := fun b => w40.heap.size ≤ b) (xr := xr44) ((PQ_43.out.sub (S' := fun b => w40.heap.size ≤ b) (fun b hb => by show w40.heap.size ≤ b; omega))) OB.out GB.out TB.out rfl hltX HXO44.out (by show w40.heap.size ≤ _; simp only [World.size_alloc]; omega)
       have sg44 : w40.heap.size ≤ g44 := sg44
       have z44 : w43.heap.size ≤ w44.heap.size := kk.size
       have K44 : Hid (Kq br w w44) := K43.out.comp kk (by omega)
       have X44 : Hid (Sx br s w44 c41 m41) := kk.sx (by omega) X43.out
       have KK := hI kk
       have RR := hI rr
       clear kk rr hltX OB GB TB X43 K43 HI5 HZ5 HS5 HB5 HSZ5 HLE5 HIN5 HWH5
       have PQ2_44 : Hid (c41 = 0 → ∃ xs : List (PortD), Rw elP (fun b => w40.heap.size ≤ b) (w40.heap.size) w44 (.slice (some ⟨g44, 0, none⟩) (qs.length + 1) cap44) xs ∧ (xs.length + m41 ≤ m40 ∧ (commaTxt (xs.map portTxt)).length ≤ 64 * (m40 - m41))) := by
        intro hc
        obtain ⟨d, hp, hd, hl⟩ := P41_43.out hc
        have hm := (A41.out.2 hc).2
        have hpl := portTxt_len d
        obtain ⟨hl0, hn0⟩ := HLQ.out
        have hcl := comma_snoc_le (qs.map portTxt) (portTxt d)
        refine ⟨qs ++ [d], RR.out [d] (by simp) (by simp [elP, hd]) rfl ?_, by simp only [lnA, lnC, lnN]; omega, by rw [List.map_append, List.map_cons, List.map_nil]; omega⟩
        intro y hy
        rw [List.mem_singleton] at hy
        subst hy
        refine elP.mono ?_ (fun _ _ _ _ hu => hu) hp
        intro b hb
        have h1 : wr.heap.size ≤ b ∧ b < w41.heap.size := hb
        exact ⟨by show w40.heap.size ≤ b; omega, Rw.not_own PQ_43.out (by show ¬ (w40.heap.size ≤ b ∧ b < wr.heap.size); omega)⟩
       clear LT_43
       clear PQ_43
       clear P41_43
       have LR_44 := vK KK LR_43 (by omega)
       have LB_44 := vK KK LB_43 (by omega)
       clear LR_43 LB_43
       have PP_44 := hI (rw_to PP_43.out (fun k o hb h => KK.out.get (by omega) h))
       clear PP_43
       clear KK RR HXO44
       clear HNO
       generalize hS : w44.setCell ⟨w.heap.size + 1, 3, none⟩ _ = w45
       replace hS : setFrom w44 (w.heap.size + 1) 3 [.slice (some ⟨g44, 0, none⟩) (qs.length + 1) cap44] = w45 := hS
       obtain ⟨cB_45, bb, hh, ap, zz, oo, kk, xx⟩ := lb_set hS LB_44.out (by simp only [lnC, lnN]; omega) (one_list rfl)
       have z45 : w44.heap.size ≤ w45.heap.size := by omega
       have K45 : Hid (Kq br w w45) := kk br w K44.out (by omega)
       have X45 : Hid (Sx br s w45 c41 m41) := xx br s c41 m41 X44.out (by omega)
       have LB_45 := hI bb
       have HB0_45 := hI (ap 0 [.string nm2] HB0_y.out (by simp only [lnC, lnN]; omega))
       have HB1_45 := hI (ap 1 [.int .i64 aa] HB1_y.out (by simp only [lnC, lnN]; omega))
       have HB2_45 := hI (ap 2 [.slice sa sl sc] HB2_y.out (by simp only [lnC, lnN]; omega))
       have HB4_45 := hI (ap 4 [.slice none 0 0] HB4_y.out (by simp only [lnC, lnN]; omega))
       have HB3_45 : Hid (Has cB_45 3 [.slice (some ⟨g44, 0, none⟩) (qs.length + 1) cap44]) := hh
       clear LB_44 X44 K44 HB0_y HB1_y HB2_y HB3_y HB4_y
       have LR_45 := vE (oo _ (by omega)) LR_44
       clear LR_44
       have PP_45 := hI (rw_to PP_44.out (fun k o hb h => (oo k (by omega)).trans h))
       have PQ2_45 := hI (rw_to PQ2_44.out (fun k o hb h => (oo k (by omega)).trans h))
       clear PP_44 PQ2_44
       clear hS bb hh ap zz oo kk xx
       go_wp2_with fail
       refine accept_alt X45.out _ ?_ ?_
       ·intro hc0 m46 w46 hm46 hk hx
        subst hc0
        have z46 : w45.heap.size ≤ w46.heap.size := hk.size
        have KK := hI hk
        have K46 : Hid (Kq br w w46) := K45.out.trans hk
        have X46 := hI hx
        clear hk hx X45 K45
        have LR_46 := vK KK LR_45 (by omega)
        have LB_46 := vK KK LB_45 (by omega)
        clear LR_45 LB_45
        have PP_46 := hI (rw_to PP_45.out (fun k o hb h => KK.out.get (by omega) h))
        have PQ2_46 := hI (rw_to PQ2_45.out (fun k o hb h => KK.out.get (by omega) h))
        clear PP_45 PQ2_45
        clear KK
        go_wp2_with fail
        have AX : Adv 0 my 0 m46 := Adv.trans (A41.out) (⟨Nat.le_of_lt hm46, fun _ => ⟨rfl, hm46⟩⟩)
        go_roundg (meas 0 m46)
        case measure => have := meas_next AX; omega
        case rel => exact ⟨_, 0, m46, _, _, _, _, rfl, rfl, X46, K46, LR_46, LB_46, HB0_45, HB1_45, HB2_45, HB3_45, HB4_45, by omega, PP_46, (fun _ => by obtain ⟨xs, hR, h1, h2⟩ := PQ2_46.out (by trivial); exact ⟨xs, hR, by omega, by omega⟩ : Hid _), by have := AX.1; omega, (fun _ => HC40.out : Hid _)⟩
       go_wp2_with fail
       have AX : Adv 0 my c41 m41 := A41.out
       go_roundg (meas c41 m41)
       case measure => have := meas_next AX; omega
       case rel => exact ⟨_, c41, m41, _, _, _, _, rfl, rfl, X45, K45, LR_45, LB_45, HB0_45, HB1_45, HB2_45, HB3_45, HB4_45, by omega, PP_45, PQ2_45, by have := AX.1; omega, (fun _ => HC40.out : Hid _)⟩
      ·go_wp2_with fail
       clear f0 f1 f2 f3 f4 f5 f6 f7 f8 fz
       refine (must_any XY.out _).mono ?_
       rintro e w50 ⟨rfl, hk, c50, m50, hx, ha⟩
       have z50 : wr.heap.size ≤ w50.heap.size := hk.size
       have KK := hI hk
       have K50 : Hid (Kq br w w50) := KY.out.trans hk
       have X50 := hI hx
       have A50 := hI ha
       clear hk hx ha
       have LR_50 := vK KK LR_y (by omega)
       have LB_50 := vK KK LB_y (by omega)
       clear LR_y LB_y
       have PP_50 := hI (rw_to PP_y.out (fun k o hb h => KK.out.get (by omega) h))
       have PQ_50 := hI (Rw.to HRQ.out (fun k o hb h => KK.out.get (by omega) h))
       clear PP_y HRQ
       clear KK
       go_wp2_with fail
       refine (must_any X50.out _).mono ?_
       rintro e w51 ⟨rfl, hk, c51, m51, hx, ha⟩
       have z51 : w50.heap.size ≤ w51.heap.size := hk.size
       have KK := hI hk
       have K51 : Hid (Kq br w w51) := K50.out.trans hk
       have X51 := hI hx
       have A51 := hI ha
       clear hk hx ha
       have LR_51 := vK KK LR_50 (by omega)
       have LB_51 := vK KK LB_50 (by omega)
       clear LR_50 LB_50
       have PP_51 := hI (rw_to PP_50.out (fun k o hb h => KK.out.get (by omega) h))
       have PQ_51 := hI (Rw.to PQ_50.out (fun k o hb h => KK.out.get (by omega) h))
       clear PP_50 PQ_50
       clear KK
       go_wp2_with fail
       refine (items_read _ X51.out).mono ?_
       rintro e w52 ⟨sa52, sl52, sc52, rfl, hk, c52, m52, hx, hmm52, hcc52, hp⟩
       have z52 : w51.heap.size ≤ w52.heap.size := hk.size
       have KK := hI hk
       have K52 : Hid (Kq br w w52) := K51.out.trans hk
       have X52 := hI hx
       have P52_52 := hI (rw_born hp)
       clear hk hx hp
       have LR_52 := vK KK LR_51 (by omega)
       have LB_52 := vK KK LB_51 (by omega)
       clear LR_51 LB_51
       have PP_52 := hI (rw_to PP_51.out (fun k o hb h => KK.out.get (by omega) h))
       have PQ_52 := hI (Rw.to PQ_51.out (fun k o hb h => KK.out.get (by omega) h))
       clear PP_51 PQ_51
       clear KK
       have HCC52 := hI hcc52
       clear hcc52
       obtain ⟨pcB4, pfB4⟩ := LB_52.out.cell HB4_y.out.head
       go_wp2_with fail
       generalize hS : w52.setCell ⟨w.heap.size + 1, 4, none⟩ _ = w53
       clear pcB4 pfB4
       replace hS : setFrom w52 (w.heap.size + 1) 4 [.slice sa52 sl52 sc52] = w53 := hS
       obtain ⟨cB_53, bb, hh, ap, zz, oo, kk, xx⟩ := lb_set hS LB_52.out (by simp only [lnC, lnN]; omega) (one_list rfl)
       have z53 : w52.heap.size ≤ w53.heap.size := by omega
       have K53 : Hid (Kq br w w53) := kk br w K52.out (by omega)
       have X53 : Hid (Sx br s w53 c52 m52) := xx br s c52 m52 X52.out (by omega)
       have LB_53 := hI bb
       have HB0_53 := hI (ap 0 [.string nm2] HB0_y.out (by simp only [lnC, lnN]; omega))
       have HB1_53 := hI (ap 1 [.int .i64 aa] HB1_y.out (by simp only [lnC, lnN]; omega))
       have HB2_53 := hI (ap 2 [.slice sa sl sc] HB2_y.out (by simp only [lnC, lnN]; omega))
       have HB3_53 := hI (ap 3 [.slice say sly scy] HB3_y.out (by simp only [lnC, lnN]; omega))
       have HB4_53 : Hid (Has cB_53 4 [.slice sa52 sl52 sc52]) := hh
       clear LB_52 X52 K52 HB0_y HB1_y HB2_y HB3_y HB4_y
       have LR_53 := vE (oo _ (by omega)) LR_52
       clear LR_52
       have PP_53 := hI (rw_to PP_52.out (fun k o hb h => (oo k (by omega)).trans h))
       have PQ_53 := hI (Rw.to PQ_52.out (fun k o hb h => (oo k (by omega)).trans h))
       have P52_53 := hI (rw_to P52_52.out (fun k o hb h => (oo k (by omega)).trans h))
       clear PP_52 PQ_52 P52_52
       clear hS bb hh ap zz oo kk xx
       refine (must_any X53.out _).mono ?_
       rintro e w54 ⟨rfl, hk, c54, m54, hx, ha⟩
       have z54 : w53.heap.size ≤ w54.heap.size := hk.size
       have KK := hI hk
       have K54 : Hid (Kq br w w54) := K53.out.trans hk
       have X54 := hI hx
       have A54 := hI ha
       clear hk hx ha
       have LR_54 := vK KK LR_53 (by omega)
       have LB_54 := vK KK LB_53 (by omega)
       clear LR_53 LB_53
       have PP_54 := hI (rw_to PP_53.out (fun k o hb h => KK.out.get (by omega) h))
       have PQ_54 := hI (Rw.to PQ_53.out (fun k o hb h => KK.out.get (by omega) h))
       have P52_54 := hI (rw_to P52_53.out (fun k o hb h => KK.out.get (by omega) h))
       clear PP_53 PQ_53 P52_53
       clear KK
       have hcz : cB_53.size = 5 := LB_54.out.size
       go_wp2_with (first | (refine wpList_load_mid rfl 40 (.tmp 3) rfl (w.heap.size + 1) 0 rfl cB_53.toList _ LB_54.out.whole Tryz.underlying40 rfl (info40s.trans (congrArg some (by rw [Array.length_toList, hcz]))) ?_) | (refine wpList_store_mid rfl 40 (.tmp 2) (.tmp 93) rfl (w.heap.size) 0 cB_53 rfl rfl (LR_54.out.there 0 _ (by rw [hcz]; decide)) (info40s.trans (congrArg some hcz.symm)) LB_54.out.all ?_))
       generalize hS : w54.setCells (w.heap.size) 0 _ = w55
       replace hS : setFrom w54 (w.heap.size) 0 cB_53.toList = w55 := (setCells_from _ _ _ _).symm.trans hS
       obtain ⟨hr, zz, oo, kk, xx⟩ := lb_copy hS LR_54.out hcz
       have z55 : w54.heap.size ≤ w55.heap.size := by omega
       have K55 : Hid (Kq br w w55) := kk br w K54.out (by omega)
       have X55 : Hid (Sx br s w55 c54 m54) := xx br s c54 m54 X54.out (by omega)
       have LB_55 := vE (oo _ (by omega)) LB_54
       clear LB_54
       have PP_55 := hI (rw_to PP_54.out (fun k o hb h => (oo k (by omega)).trans h))
       have PQ_55 := hI (Rw.to PQ_54.out (fun k o hb h => (oo k (by omega)).trans h))
       have P52_55 := hI (rw_to P52_54.out (fun k o hb h => (oo k (by omega)).trans h))
       clear PP_54 PQ_54 P52_54
       refine bodyPost_ret (v := .agg cB_53) (results_cell_row (Tryz.results10) _ _ (w.heap.size) 40 cB_53 _ _ rfl hr Tryz.underlying40 rfl (info40s.trans (congrArg some hcz.symm))) rfl ?_
       have AY := adv_ge (Adv.trans A50.out A51.out) HCC52.out hmm52 A54.out
       refine ⟨_, rfl, hcz, LB_55.out.one, K55.out, c54, m54, X55.out, adv_ge (Adv.trans AR.out A40.out) (fun _ => HC40.out) hmy AY, fun hc => ?_⟩
       obtain ⟨hc52, hm54⟩ := A54.out.2 hc
       obtain ⟨hc50, hm51⟩ := A51.out.2 (HCC52.out hc52)
       obtain ⟨_, hm50⟩ := A50.out.2 hc50
       obtain ⟨hcR, hm40a⟩ := A40.out.2 HC40.out
       obtain ⟨_, hmR⟩ := AR.out.2 hcR
       have hA2m := A2.out.1
       have hA1m := A1.out.1
       have hq1 := (A30.out.2 hcR).2
       obtain ⟨ps, hRp, hp1, hp2, hgv⟩ := PP_55.out (A30.out.2 hcR).1
       obtain ⟨hq4, hq5⟩ := HLQ.out
       obtain ⟨es, hRi, hli⟩ := P52_55.out hc52
       have he := ((((HB0_53.out.app HB1_53.out).app HB2_53.out).app HB3_53.out).app HB4_53.out).eq (by rw [hcz]; rfl)
       have rp := (hRp.sub (S' := fun b => w.heap.size ≤ b) fun b hb => by show _ ≤ _; omega).row
       have rq := (PQ_55.out.sub (S' := fun b => w.heap.size ≤ b) fun b hb => by show _ ≤ _; omega).row
       have ri := (hRi.sub (S' := fun b => w.heap.size ≤ b) fun b hb => by show _ ≤ _; omega).row
       refine ⟨_, ⟨nm2.data.toList, aa, _, _, _, ps, qs, es, by rw [he, bs_of]; rfl, rp.1, fun d hd => ⟨rp.2 d hd, hgv d hd⟩, rq.1, rq.2, ri.1, ri.2, rfl⟩, ?_⟩
       refine Nat.le_trans (modTxt_len _ _ _ _) ?_
       rw [len_of]
       omega
     ·have g1 : (cy == 0) = false := beq_eq_false_iff_ne.2 hcy
      go_wp2_with fail
      clear g1
      clear f0 f1 f2 f3 f4 f5 f6 f7 f8 fz
      have hcn := hcy
      refine (must_any XY.out _).mono ?_
      rintro e w50 ⟨rfl, hk, c50, m50, hx, ha⟩
      have z50 : wr.heap.size ≤ w50.heap.size := hk.size
      have KK := hI hk
      have K50 : Hid (Kq br w w50) := KY.out.trans hk
      have X50 := hI hx
      have A50 := hI ha
      clear hk hx ha
      have LR_50 := vK KK LR_y (by omega)
      have LB_50 := vK KK LB_y (by omega)
      clear LR_y LB_y
      have PP_50 := hI (rw_to PP_y.out (fun k o hb h => KK.out.get (by omega) h))
      have PQ_50 := hI (rw_to PQ_y.out (fun k o hb h => KK.out.get (by omega) h))
      clear PP_y PQ_y
      clear KK
      go_wp2_with fail
      refine (must_any X50.out _).mono ?_
      rintro e w51 ⟨rfl, hk, c51, m51, hx, ha⟩
      have z51 : w50.heap.size ≤ w51.heap.size := hk.size
      have KK := hI hk
      have K51 : Hid (Kq br w w51) := K50.out.trans hk
      have X51 := hI hx
      have A51 := hI ha
      clear hk hx ha
      have LR_51 := vK KK LR_50 (by omega)
      have LB_51 := vK KK LB_50 (by omega)
      clear LR_50 LB_50
      have PP_51 := hI (rw_to PP_50.out (fun k o hb h => KK.out.get (by omega) h))
      have PQ_51 := hI (rw_to PQ_50.out (fun k o hb h => KK.out.get (by omega) h))
      clear PP_50 PQ_50
      clear KK
      go_wp2_with fail
      refine (items_read _ X51.out).mono ?_
      rintro e w52 ⟨sa52, sl52, sc52, rfl, hk, c52, m52, hx, hmm52, hcc52, hp⟩
      have z52 : w51.heap.size ≤ w52.heap.size := hk.size
      have KK := hI hk
      have K52 : Hid (Kq br w w52) := K51.out.trans hk
      have X52 := hI hx
      have P52_52 := hI (rw_born hp)
      clear hk hx hp
      have LR_52 := vK KK LR_51 (by omega)
      have LB_52 := vK KK LB_51 (by omega)
      clear LR_51 LB_51
      have PP_52 := hI (rw_to PP_51.out (fun k o hb h => KK.out.get (by omega) h))
      have PQ_52 := hI (rw_to PQ_51.out (fun k o hb h => KK.out.get (by omega) h))
      clear PP_51 PQ_51
      clear KK
      have HCC52 := hI hcc52
      clear hcc52
      obtain ⟨pcB4, pfB4⟩ := LB_52.out.cell HB4_y.out.head
      go_wp2_with fail
      generalize hS : w52.setCell ⟨w.heap.size + 1, 4, none⟩ _ = w53
      clear pcB4 pfB4
      replace hS : setFrom w52 (w.heap.size + 1) 4 [.slice sa52 sl52 sc52] = w53 := hS
      obtain ⟨cB_53, bb, hh, ap, zz, oo, kk, xx⟩ := lb_set hS LB_52.out (by simp only [lnC, lnN]; omega) (one_list rfl)
      have z53 : w52.heap.size ≤ w53.heap.size := by omega
      have K53 : Hid (Kq br w w53) := kk br w K52.out (by omega)
      have X53 : Hid (Sx br s w53 c52 m52) := xx br s c52 m52 X52.out (by omega)
      have LB_53 := hI bb
      have HB0_53 := hI (ap 0 [.string nm2] HB0_y.out (by simp only [lnC, lnN]; omega))
      have HB1_53 := hI (ap 1 [.int .i64 aa] HB1_y.out (by simp only [lnC, lnN]; omega))
      have HB2_53 := hI (ap 2 [.slice sa sl sc] HB2_y.out (by simp only [lnC, lnN]; omega))
      have HB3_53 := hI (ap 3 [.slice say sly scy] HB3_y.out (by simp only [lnC, lnN]; omega))
      have HB4_53 : Hid (Has cB_53 4 [.slice sa52 sl52 sc52]) := hh
      clear LB_52 X52 K52 HB0_y HB1_y HB2_y HB3_y HB4_y
      have LR_53 := vE (oo _ (by omega)) LR_52
      clear LR_52
      have PP_53 := hI (rw_to PP_52.out (fun k o hb h => (oo k (by omega)).trans h))
      have PQ_53 := hI (rw_to PQ_52.out (fun k o hb h => (oo k (by omega)).trans h))
      have P52_53 := hI (rw_to P52_52.out (fun k o hb h => (oo k (by omega)).trans h))
      clear PP_52 PQ_52 P52_52
      clear hS bb hh ap zz oo kk xx
      refine (must_any X53.out _).mono ?_
      rintro e w54 ⟨rfl, hk, c54, m54, hx, ha⟩
      have z54 : w53.heap.size ≤ w54.heap.size := hk.size
      have KK := hI hk
      have K54 : Hid (Kq br w w54) := K53.out.trans hk
      have X54 := hI hx
      have A54 := hI ha
      clear hk hx ha
      have LR_54 := vK KK LR_53 (by omega)
      have LB_54 := vK KK LB_53 (by omega)
      clear LR_53 LB_53
      have PP_54 := hI (rw_to PP_53.out (fun k o hb h => KK.out.get (by omega) h))
      have PQ_54 := hI (rw_to PQ_53.out (fun k o hb h => KK.out.get (by omega) h))
      have P52_54 := hI (rw_to P52_53.out (fun k o hb h => KK.out.get (by omega) h))
      clear PP_53 PQ_53 P52_53
      clear KK
      have hcz : cB_53.size = 5 := LB_54.out.size
      go_wp2_with (first | (refine wpList_load_mid rfl 40 (.tmp 3) rfl (w.heap.size + 1) 0 rfl cB_53.toList _ LB_54.out.whole Tryz.underlying40 rfl (info40s.trans (congrArg some (by rw [Array.length_toList, hcz]))) ?_) | (refine wpList_store_mid rfl 40 (.tmp 2) (.tmp 93) rfl (w.heap.size) 0 cB_53 rfl rfl (LR_54.out.there 0 _ (by rw [hcz]; decide)) (info40s.trans (congrArg some hcz.symm)) LB_54.out.all ?_))
      generalize hS : w54.setCells (w.heap.size) 0 _ = w55
      replace hS : setFrom w54 (w.heap.size) 0 cB_53.toList = w55 := (setCells_from _ _ _ _).symm.trans hS
      obtain ⟨hr, zz, oo, kk, xx⟩ := lb_copy hS LR_54.out hcz
      have z55 : w54.heap.size ≤ w55.heap.size := by omega
      have K55 : Hid (Kq br w w55) := kk br w K54.out (by omega)
      have X55 : Hid (Sx br s w55 c54 m54) := xx br s c54 m54 X54.out (by omega)
      have LB_55 := vE (oo _ (by omega)) LB_54
      clear LB_54
      have PP_55 := hI (rw_to PP_54.out (fun k o hb h => (oo k (by omega)).trans h))
      have PQ_55 := hI (rw_to PQ_54.out (fun k o hb h => (oo k (by omega)).trans h))
      have P52_55 := hI (rw_to P52_54.out (fun k o hb h => (oo k (by omega)).trans h))
      clear PP_54 PQ_54 P52_54
      refine bodyPost_ret (v := .agg cB_53) (results_cell_row (Tryz.results10) _ _ (w.heap.size) 40 cB_53 _ _ rfl hr Tryz.underlying40 rfl (info40s.trans (congrArg some hcz.symm))) rfl ?_
      have AY := adv_ge (Adv.trans A50.out A51.out) HCC52.out hmm52 A54.out
      refine ⟨_, rfl, hcz, LB_55.out.one, K55.out, c54, m54, X55.out, adv_ge (Adv.trans AR.out A40.out) HCY.out hmy AY, fun hc => ?_⟩
      exact absurd (AY.2 hc).1 hcn
 go_wp2_with fail
 have PP_3 : Hid (c2 = 0 → ∃ xs : List BindD, Rw elB (fun b => (w0.heap.size ≤ b) ∧ b < w3.heap.size) w0.heap.size w3 (.slice none 0 0) xs ∧ (xs.length + m2 ≤ m2 ∧ (commaTxt (xs.map paramTxt)).length ≤ 64 * (m2 - m2) ∧ ∀ d ∈ xs, d.gv = true)) := fun _ => ⟨[], Rw.nil _ _ _ _, by simp [commaTxt]⟩
 have AR : Hid (Adv c m c2 m2) := (Adv.trans A1.out A2.out : Adv c m c2 m2)
 refine (must_any X3.out _).mono ?_
 rintro e w40 ⟨rfl, hk, c40, m40, hx, ha⟩
 have z40 : w3.heap.size ≤ w40.heap.size := hk.size
 have KK := hI hk
 have K40 : Hid (Kq br w w40) := K3.out.trans hk
 have X40 := hI hx
 have A40 := hI ha
 clear hk hx ha
 have LR_40 := vK KK LR_3 (by omega)
 have LB_40 := vK KK LB_3 (by omega)
 clear LR_3 LB_3
 have PP0_40 := hI (rw_to PP_3.out (fun k o hb h => KK.out.get (by omega) h))
 clear PP_3
 clear KK
 go_wp2_with fail
 have hm40 : m40 ≤ 60001 := X40.out.le
 refine is_some X40.out _ fun bq => ?_
 go_wp2_with fail
 go_loopg [7] (meas c40 m40) (fun gk o wr => ∃ (nb : Bool) (cy : Int) (my : Nat) (say : Option Addr) (sly scy : Nat) (cBy : Array Value), o = .bool nb ∧ gk = meas cy my ∧ Hid (Sx br s wr cy my) ∧ Hid (Kq br w wr) ∧ Hid (Lb wr (w.heap.size) 5 40 cR_0) ∧ Hid (Lb wr (w.heap.size + 1) 5 40 cBy) ∧ Hid (Has cBy 0 [.string nm2]) ∧ Hid (Has cBy 1 [.int .i64 aa]) ∧ Hid (Has cBy 2 [.slice none 0 0]) ∧ Hid (Has cBy 3 [.slice say sly scy]) ∧ Hid (Has cBy 4 [.slice none 0 0]) ∧ w40.heap.size ≤ wr.heap.size ∧ Hid (c2 = 0 → ∃ xs : List BindD, Rw elB (fun b => (w0.heap.size ≤ b) ∧ b < w3.heap.size) w0.heap.size wr (.slice none 0 0) xs ∧ (xs.length + m2 ≤ m2 ∧ (commaTxt (xs.map paramTxt)).length ≤ 64 * (m2 - m2) ∧ ∀ d ∈ xs, d.gv = true)) ∧ Hid (cy = 0 → ∃ xs : List PortD, Rw elP (fun b => w40.heap.size ≤ b) w40.heap.size wr (.slice say sly scy) xs ∧ (xs.length + my ≤ m40 ∧ (commaTxt (xs.map portTxt)).length ≤ 64 * (m40 - my))) ∧ my ≤ m40 ∧ Hid (cy = 0 → c40 = 0))
 case atStart => exact ⟨_, c40, m40, none, 0, 0, _, rfl, rfl, X40, K40, LR_40, LB_40, HB0_3, HB1_3, HB2_3, HB3_3, HB4_3, Nat.le_refl _, PP0_40, (fun _ => ⟨[], Rw.nil _ _ _ _, by simp [commaTxt]⟩ : Hid _), Nat.le_refl _, (fun h => h : Hid _)⟩
 case round =>
  obtain ⟨nb, cy, my, say, sly, scy, cBy, rfl, hgy, XY, KY, LR_y, LB_y, HB0_y, HB1_y, HB2_y, HB3_y, HB4_y, zY, PP_y, PQ_y, hmy, HCY⟩ := hrel
  clear X40 K40 LR_40 LB_40 HB0_3 HB1_3 HB2_3 HB3_3 HB4_3 PP0_40
  have XS := XY.out
  obtain ⟨kt, wdt, nt, Tt, at9, qt, fat, hra, h'⟩ := XS
  obtain ⟨f0, f1, f2, f3, f4, f5, f6, f7, f8, fz⟩ := hra.all
  clear h' hra
  by_cases hcy : cy = 0
  ·subst hcy
   obtain ⟨qs, hR, hnq, hlq⟩ := PQ_y.out rfl
   have HRQ := hI hR.strong
   have HLQ := hI (And.intro hlq hnq)
   have hc40 := HCY.out rfl
   clear HCY
   have HC40 := hI hc40
   clear hR hlq hc40 PQ_y
   cases nb
   ·go_wp2_with fail
    clear f0 f1 f2 f3 f4 f5 f6 f7 f8 fz
    refine (port_any br s 0 my wr XY.out).mono ?_
    rintro e w41 ⟨cs41, rfl, hsz41, hon41, hk, c41, m41, hx, ha, hp⟩
    have z41 : wr.heap.size ≤ w41.heap.size := hk.size
    have KK := hI hk
    have K41 : Hid (Kq br w w41) := KY.out.trans hk
    have X41 := hI hx
    have A41 := hI ha
    have P41_41 := hI (po_born hp)
    clear hk hx ha hp
    have LR_41 := vK KK LR_y (by omega)
    have LB_41 := vK KK LB_y (by omega)
    clear LR_y LB_y
    have PP_41 := hI (rw_to PP_y.out (fun k o hb h => KK.out.get (by omega) h))
    have PQ_41 := hI (Rw.to HRQ.out (fun k o hb h => KK.out.get (by omega) h))
    clear PP_y HRQ
    clear KK
    have HON41 := hI hon41
    clear hon41
    have HSZ41 := hI hsz41
    clear hsz41
    have HTT : Hid ((w41.alloc (.cells #[.string ⟨#[]⟩, .int .i64 0, .bool false, .bool false, .bool false, .int .i64 0, .int .i64 0, .int .i64 0, .int .i64 0, .int .u64 0, .string ⟨#[]⟩, .slice none 0 0, .int .i64 0, .int .i64 0, .int .i64 0, .int .i64 0, .int .u64 0, .string ⟨#[]⟩, .slice none 0 0] 62)).there w41.heap.size 0 cs41.size) := there_new1 _ _ _ _ HSZ41.out.symm
    have HTI : Hid ((Tryz.prog.info? 62).map (·.size) = some cs41.size) := info62s.trans (congrArg some HSZ41.out.symm)
    have HTO : Hid (cs41.all (·.oneCell') = true) := arr_all HON41.out
    go_upto_region 20 with ((with_reducible refine wpList_id ?_); (refine wpList_store_mid rfl 62 (.tmp 8) (.tmp 73) rfl (w41.heap.size) 0 cs41 rfl rfl HTT.out HTI.out HTO.out ?_))
    generalize hWW : w41.alloc (.cells _ 62) = w42
    clear HTT HTI HTO
    obtain ⟨zz, bb, oo, kk⟩ := one_box hWW
    have z42 : w41.heap.size < w42.heap.size := by omega
    have K42 : Hid (Kq br w w42) := K41.out.trans (kk br).out
    have X42 : Hid (Sx br s w42 c41 m41) := X41.out.to (oo br X41.out.lt)
    clear X41 K41
    have LR_42 := hI (LR_41.out.via (fun e => (oo _ (heap_lt (hI e).out)).trans (hI e).out))
    have LB_42 := hI (LB_41.out.via (fun e => (oo _ (heap_lt (hI e).out)).trans (hI e).out))
    clear LR_41 LB_41
    have PP_42 := hI (rw_to PP_41.out (fun k o hb h => (oo k (heap_lt h)).trans h))
    have PQ_42 := hI (Rw.to PQ_41.out (fun k o hb h => (oo k (heap_lt h)).trans h))
    have P41_42 := hI (po_to P41_41.out (fun k o hb h => (oo k (heap_lt h)).trans h))
    clear PP_41 PQ_41 P41_41
    obtain ⟨cT_42, LT_42⟩ : ∃ cs, Hid (Lb w42 (w41.heap.size) 19 62 cs) := ⟨_, ⟨bb, rfl, one_of rfl⟩⟩
    clear hWW zz oo kk bb
    generalize hS : w42.setCells (w41.heap.size) 0 _ = w43
    replace hS : setFrom w42 (w41.heap.size) 0 cs41.toList = w43 := (setCells_from _ _ _ _).symm.trans hS
    obtain ⟨hr, zz, oo, kk, xx⟩ := lb_copy hS LT_42.out HSZ41.out
    have z43 : w42.heap.size ≤ w43.heap.size := by omega
    have K43 : Hid (Kq br w w43) := kk br w K42.out (by omega)
    have X43 : Hid (Sx br s w43 c41 m41) := xx br s c41 m41 X42.out (by omega)
    have LT_43 : Hid (Lb w43 (w41.heap.size) 19 62 cs41) := ⟨hr, HSZ41.out, HON41.out⟩
    clear LT_42 X42 K42
    have LR_43 := vE (oo _ (by omega)) LR_42
    have LB_43 := vE (oo _ (by omega)) LB_42
    clear LR_42 LB_42
    have PP_43 := hI (rw_to PP_42.out (fun k o hb h => (oo k (by omega)).trans h))
    have PQ_43 := hI (Rw.to PQ_42.out (fun k o hb h => (oo k (by omega)).trans h))
    have P41_43 := hI (po_to P41_42.out (fun k o hb h => (oo k (by omega)).trans h))
    clear PP_42 PQ_42 P41_42
    clear hS hr zz oo kk xx
    have HNO : Hid (some (w.heap.size + 1) ≠ (.slice say sly scy : Value).ownBlock) := Rw.low ((PQ_43.out.sub (S' := fun b => w40.heap.size ≤ b) (fun b hb => by show w40.heap.size ≤ b; omega))) (by omega)
    obtain ⟨pcB3, pfB3⟩ := LB_43.out.cell HB3_y.out.head
    obtain ⟨xr44, hxo44, hxS44⟩ := Rw.own ((PQ_43.out.sub (S' := fun b => w40.heap.size ≤ b) (fun b hb => by show w40.heap.size ≤ b; omega))) (x0 := w43.heap.size) (by show w40.heap.size ≤ w43.heap.size; omega)
    have hxS44 : w40.heap.size ≤ xr44 := hxS44
    have HXO44 := hI hxo44
    clear hxo44
    obtain ⟨i5, hi, hzz, hsz, hby⟩ := info62'
    have HI5 := hI hi
    have HZ5 := hI hzz
    have HS5 := hI hsz
    have HB5 := hI hby
    clear hi hzz hsz hby
    have HSZ5 : Hid (cs41.size = 19) := LT_43.out.size
    have HLE5 : Hid (cs41.toList.length = 1 * 19) := by show _ = _; rw [Array.length_toList, HSZ5.out]
    have HIN5 : Hid ((Tryz.prog.info? 62).map (·.size) = some cs41.toList.length) := by show _ = _; rw [HLE5.out]; exact info62s
    have HWH5 : Hid (w43.rangeAt (w41.heap.size) 0 cs41.toList) := LT_43.out.whole
    go_upto_region 21 with ((with_reducible refine wpList_id ?_); first | (refine wpList_load_mid rfl 62 (.tmp 8) rfl (w41.heap.size) 0 rfl cs41.toList _ HWH5.out Tryz.underlying62 rfl HIN5.out ?_) | (refine wpList_build_one rfl 37 (.tmp 76) rfl 62 cs41 19 rfl Tryz.underlying37 i5 HI5.out _ HZ5.out HS5.out HSZ5.out (by decide) (by decide) ?_) | (at_builtin; refine wpList_append_lies _ rfl (.tmp 75) (.tmp 77) 37 rfl (w40.heap.size) 62 i5 _ 19 200 Tryz.underlying37 HI5.out HZ5.out HS5.out HB5.out rfl (by decide) (.slice say sly scy) (qs.length) _ rfl (Rw.alloc ((PQ_43.out.sub (S' := fun b => w40.heap.size ≤ b) (fun b hb => by show w40.heap.size ≤ b; omega))) _).1 ⟨w43.heap.size, 0, none⟩ 1 1 cs41.toList rfl HLE5.out (new_cellsA w43 62 cs41) LT_43.out.one (by decide) (by simp only [maxLen]; omega) (by omega) (by simp; omega) _ rfl ?_; intro g44 cap44 w44 hownX hgrowX hatX hltX; have OB := hI hownX; have GB := hI hgrowX; have TB := hI hatX; clear hownX hgrowX hatX; obtain ⟨pcX, pfX⟩ := (Lb.to LB_43.out ((GB.out.block (w.heap.size + 1) (by have := LB_43.out.lt; simp; omega) HNO.out).trans (Below.heap_alloc _ _ _ LB_43.out.lt))).cell HB3_y.out.head))
    clear pcB3 pfB3 pcX pfX
    obtain ⟨kk, ⟨sg44, sz44⟩, rr⟩ := row_app0 (S := fun b => w40.heap.size ≤ b) (xr := xr44) ((PQ_43.out.sub (S' := fun b => w40.heap.size ≤ b) (fun b hb => by show w40.heap.size ≤ b; omega))) OB.out GB.out TB.out rfl hltX HXO44.out (by show w40.heap.size ≤ _; simp only [World.size_alloc]; omega)
    have sg44 : w40.heap.size ≤ g44 := sg44
    have z44 : w43.heap.size ≤ w44.heap.size := kk.size
    have K44 : Hid (Kq br w w44) := K43.out.comp kk (by omega)
    have X44 : Hid (Sx br s w44 c41 m41) := kk.sx (by omega) X43.out
    have KK := hI kk
    have RR := hI rr
    clear kk rr hltX OB GB TB X43 K43 HI5 HZ5 HS5 HB5 HSZ5 HLE5 HIN5 HWH5
    have PQ2_44 : Hid (c41 = 0 → ∃ xs : List (PortD), Rw elP (fun b => w40.heap.size ≤ b) (w40.heap.size) w44 (.slice (some ⟨g44, 0, none⟩) (qs.length + 1) cap44) xs ∧ (xs.length + m41 ≤ m40 ∧ (commaTxt (xs.map portTxt)).length ≤ 64 * (m40 - m41))) := by
     intro hc
     obtain ⟨d, hp, hd, hl⟩ := P41_43.out hc
     have hm := (A41.out.2 hc).2
     have hpl := portTxt_len d
     obtain ⟨hl0, hn0⟩ := HLQ.out
     have hcl := comma_snoc_le (qs.map portTxt) (portTxt d)
     refine ⟨qs ++ [d], RR.out [d] (by simp) (by simp [elP, hd]) rfl ?_, by simp only [lnA, lnC, lnN]; omega, by rw [List.map_append, List.map_cons, List.map_nil]; omega⟩
     intro y hy
     rw [List.mem_singleton] at hy
     subst hy
     refine elP.mono ?_ (fun _ _ _ _ hu => hu) hp
     intro b hb
     have h1 : wr.heap.size ≤ b ∧ b < w41.heap.size := hb
     exact ⟨by show w40.heap.size ≤ b; omega, Rw.not_own PQ_43.out (by show ¬ (w40.heap.size ≤ b ∧ b < wr.heap.size); omega)⟩
    clear LT_43
    clear PQ_43
    clear P41_43
    have LR_44 := vK KK LR_43 (by omega)
    have LB_44 := vK KK LB_43 (by omega)
    clear LR_43 LB_43
    have PP_44 := hI (rw_to PP_43.out (fun k o hb h => KK.out.get (by omega) h))
    clear PP_43
    clear KK RR HXO44
    clear HNO
    generalize hS : w44.setCell ⟨w.heap.size + 1, 3, none⟩ _ = w45
    replace hS : setFrom w44 (w.heap.size + 1) 3 [.slice (some ⟨g44, 0, none⟩) (qs.length + 1) cap44] = w45 := hS
    obtain ⟨cB_45, bb, hh, ap, zz, oo, kk, xx⟩ := lb_set hS LB_44.out (by simp only [lnC, lnN]; omega) (one_list rfl)
    have z45 : w44.heap.size ≤ w45.heap.size := by omega
    have K45 : Hid (Kq br w w45) := kk br w K44.out (by omega)
    have X45 : Hid (Sx br s w45 c41 m41) := xx br s c41 m41 X44.out (by omega)
    have LB_45 := hI bb
    have HB0_45 := hI (ap 0 [.string nm2] HB0_y.out (by simp only [lnC, lnN]; omega))
    have HB1_45 := hI (ap 1 [.int .i64 aa] HB1_y.out (by simp only [lnC, lnN]; omega))
    have HB2_45 := hI (ap 2 [.slice none 0 0] HB2_y.out (by simp only [lnC, lnN]; omega))
    have HB4_45 := hI (ap 4 [.slice none 0 0] HB4_y.out (by simp only [lnC, lnN]; omega))
    have HB3_45 : Hid (Has cB_45 3 [.slice (some ⟨g44, 0, none⟩) (qs.length + 1) cap44]) := hh
    clear LB_44 X44 K44 HB0_y HB1_y HB2_y HB3_y HB4_y
    have LR_45 := vE (oo _ (by omega)) LR_44
    clear LR_44
    have PP_45 := hI (rw_to PP_44.out (fun k o hb h => (oo k (by omega)).trans h))
    have PQ2_45 := hI (rw_to PQ2_44.out (fun k o hb h => (oo k (by omega)).trans h))
    clear PP_44 PQ2_44
    clear hS bb hh ap zz oo kk xx
    go_wp2_with fail
    refine accept_alt X45.out _ ?_ ?_
    ·intro hc0 m46 w46 hm46 hk hx
     subst hc0
     have z46 : w45.heap.size ≤ w46.heap.size := hk.size
     have KK := hI hk
     have K46 : Hid (Kq br w w46) := K45.out.trans hk
     have X46 := hI hx
     clear hk hx X45 K45
     have LR_46 := vK KK LR_45 (by omega)
     have LB_46 := vK KK LB_45 (by omega)
     clear LR_45 LB_45
     have PP_46 := hI (rw_to PP_45.out (fun k o hb h => KK.out.get (by omega) h))
     have PQ2_46 := hI (rw_to PQ2_45.out (fun k o hb h => KK.out.get (by omega) h))
     clear PP_45 PQ2_45
     clear KK
     go_wp2_with fail
     have AX : Adv 0 my 0 m46 := Adv.trans (A41.out) (⟨Nat.le_of_lt hm46, fun _ => ⟨rfl, hm46⟩⟩)
     go_roundg (meas 0 m46)
     case measure => have := meas_next AX; omega
     case rel => exact ⟨_, 0, m46, _, _, _, _, rfl, rfl, X46, K46, LR_46, LB_46, HB0_45, HB1_45, HB2_45, HB3_45, HB4_45, by omega, PP_46, (fun _ => by obtain ⟨xs, hR, h1, h2⟩ := PQ2_46.out (by trivial); exact ⟨xs, hR, by omega, by omega⟩ : Hid _), by have := AX.1; omega, (fun _ => HC40.out : Hid _)⟩
    go_wp2_with fail
    have AX : Adv 0 my c41 m41 := A41.out
    go_roundg (meas c41 m41)
    case measure => have := meas_next AX; omega
    case rel => exact ⟨_, c41, m41, _, _, _, _, rfl, rfl, X45, K45, LR_45, LB_45, HB0_45, HB1_45, HB2_45, HB3_45, HB4_45, by omega, PP_45, PQ2_45, by have := AX.1; omega, (fun _ => HC40.out : Hid _)⟩
   ·go_wp2_with fail
    clear f0 f1 f2 f3 f4 f5 f6 f7 f8 fz
    refine (must_any XY.out _).mono ?_
    rintro e w50 ⟨rfl, hk, c50, m50, hx, ha⟩
    have z50 : wr.heap.size ≤ w50.heap.size := hk.size
    have KK := hI hk
    have K50 : Hid (Kq br w w50) := KY.out.trans hk
    have X50 := hI hx
    have A50 := hI ha
    clear hk hx ha
    have LR_50 := vK KK LR_y (by omega)
    have LB_50 := vK KK LB_y (by omega)
    clear LR_y LB_y
    have PP_50 := hI (rw_to PP_y.out (fun k o hb h => KK.out.get (by omega) h))
    have PQ_50 := hI (Rw.to HRQ.out (fun k o hb h => KK.out.get (by omega) h))
    clear PP_y HRQ
    clear KK
    go_wp2_with fail
    refine (must_any X50.out _).mono ?_
    rintro e w51 ⟨rfl, hk, c51, m51, hx, ha⟩
    have z51 : w50.heap.size ≤ w51.heap.size := hk.size
    have KK := hI hk
    have K51 : Hid (Kq br w w51) := K50.out.trans hk
    have X51 := hI hx
    have A51 := hI ha
    clear hk hx ha
    have LR_51 := vK KK LR_50 (by omega)
    have LB_51 := vK KK LB_50 (by omega)
    clear LR_50 LB_50
    have PP_51 := hI (rw_to PP_50.out (fun k o hb h => KK.out.get (by omega) h))
    have PQ_51 := hI (Rw.to PQ_50.out (fun k o hb h => KK.out.get (by omega) h))
    clear PP_50 PQ_50
    clear KK
    go_wp2_with fail
    refine (items_read _ X51.out).mono ?_
    rintro e w52 ⟨sa52, sl52, sc52, rfl, hk, c52, m52, hx, hmm52, hcc52, hp⟩
    have z52 : w51.heap.size ≤ w52.heap.size := hk.size
    have KK := hI hk
    have K52 : Hid (Kq br w w52) := K51.out.trans hk
    have X52 := hI hx
    have P52_52 := hI (rw_born hp)
    clear hk hx hp
    have LR_52 := vK KK LR_51 (by omega)
    have LB_52 := vK KK LB_51 (by omega)
    clear LR_51 LB_51
    have PP_52 := hI (rw_to PP_51.out (fun k o hb h => KK.out.get (by omega) h))
    have PQ_52 := hI (Rw.to PQ_51.out (fun k o hb h => KK.out.get (by omega) h))
    clear PP_51 PQ_51
    clear KK
    have HCC52 := hI hcc52
    clear hcc52
    obtain ⟨pcB4, pfB4⟩ := LB_52.out.cell HB4_y.out.head
    go_wp2_with fail
    generalize hS : w52.setCell ⟨w.heap.size + 1, 4, none⟩ _ = w53
    clear pcB4 pfB4
    replace hS : setFrom w52 (w.heap.size + 1) 4 [.slice sa52 sl52 sc52] = w53 := hS
    obtain ⟨cB_53, bb, hh, ap, zz, oo, kk, xx⟩ := lb_set hS LB_52.out (by simp only [lnC, lnN]; omega) (one_list rfl)
    have z53 : w52.heap.size ≤ w53.heap.size := by omega
    have K53 : Hid (Kq br w w53) := kk br w K52.out (by omega)
    have X53 : Hid (Sx br s w53 c52 m52) := xx br s c52 m52 X52.out (by omega)
    have LB_53 := hI bb
    have HB0_53 := hI (ap 0 [.string nm2] HB0_y.out (by simp only [lnC, lnN]; omega))
    have HB1_53 := hI (ap 1 [.int .i64 aa] HB1_y.out (by simp only [lnC, lnN]; omega))
    have HB2_53 := hI (ap 2 [.slice none 0 0] HB2_y.out (by simp only [lnC, lnN]; omega))
    have HB3_53 := hI (ap 3 [.slice say sly scy] HB3_y.out (by simp only [lnC, lnN]; omega))
    have HB4_53 : Hid (Has cB_53 4 [.slice sa52 sl52 sc52]) := hh
    clear LB_52 X52 K52 HB0_y HB1_y HB2_y HB3_y HB4_y
    have LR_53 := vE (oo _ (by omega)) LR_52
    clear LR_52
    have PP_53 := hI (rw_to PP_52.out (fun k o hb h => (oo k (by omega)).trans h))
    have PQ_53 := hI (Rw.to PQ_52.out (fun k o hb h => (oo k (by omega)).trans h))
    have P52_53 := hI (rw_to P52_52.out (fun k o hb h => (oo k (by omega)).trans h))
    clear PP_52 PQ_52 P52_52
    clear hS bb hh ap zz oo kk xx
    refine (must_any X53.out _).mono ?_
    rintro e w54 ⟨rfl, hk, c54, m54, hx, ha⟩
    have z54 : w53.heap.size ≤ w54.heap.size := hk.size
    have KK := hI hk
    have K54 : Hid (Kq br w w54) := K53.out.trans hk
    have X54 := hI hx
    have A54 := hI ha
    clear hk hx ha
    have LR_54 := vK KK LR_53 (by omega)
    have LB_54 := vK KK LB_53 (by omega)
    clear LR_53 LB_53
    have PP_54 := hI (rw_to PP_53.out (fun k o hb h => KK.out.get (by omega) h))
    have PQ_54 := hI (Rw.to PQ_53.out (fun k o hb h => KK.out.get (by omega) h))
    have P52_54 := hI (rw_to P52_53.out (fun k o hb h => KK.out.get (by omega) h))
    clear PP_53 PQ_53 P52_53
    clear KK
    have hcz : cB_53.size = 5 := LB_54.out.size
    go_wp2_with (first | (refine wpList_load_mid rfl 40 (.tmp 3) rfl (w.heap.size + 1) 0 rfl cB_53.toList _ LB_54.out.whole Tryz.underlying40 rfl (info40s.trans (congrArg some (by rw [Array.length_toList, hcz]))) ?_) | (refine wpList_store_mid rfl 40 (.tmp 2) (.tmp 93) rfl (w.heap.size) 0 cB_53 rfl rfl (LR_54.out.there 0 _ (by rw [hcz]; decide)) (info40s.trans (congrArg some hcz.symm)) LB_54.out.all ?_))
    generalize hS : w54.setCells (w.heap.size) 0 _ = w55
    replace hS : setFrom w54 (w.heap.size) 0 cB_53.toList = w55 := (setCells_from _ _ _ _).symm.trans hS
    obtain ⟨hr, zz, oo, kk, xx⟩ := lb_copy hS LR_54.out hcz
    have z55 : w54.heap.size ≤ w55.heap.size := by omega
    have K55 : Hid (Kq br w w55) := kk br w K54.out (by omega)
    have X55 : Hid (Sx br s w55 c54 m54) := xx br s c54 m54 X54.out (by omega)
    have LB_55 := vE (oo _ (by omega)) LB_54
    clear LB_54
    have PP_55 := hI (rw_to PP_54.out (fun k o hb h => (oo k (by omega)).trans h))
    have PQ_55 := hI (Rw.to PQ_54.out (fun k o hb h => (oo k (by omega)).trans h))
    have P52_55 := hI (rw_to P52_54.out (fun k o hb h => (oo k (by omega)).trans h))
    clear PP_54 PQ_54 P52_54
    refine bodyPost_ret (v := .agg cB_53) (results_cell_row (Tryz.results10) _ _ (w.heap.size) 40 cB_53 _ _ rfl hr Tryz.underlying40 rfl (info40s.trans (congrArg some hcz.symm))) rfl ?_
    have AY := adv_ge (Adv.trans A50.out A51.out) HCC52.out hmm52 A54.out
    refine ⟨_, rfl, hcz, LB_55.out.one, K55.out, c54, m54, X55.out, adv_ge (Adv.trans AR.out A40.out) (fun _ => HC40.out) hmy AY, fun hc => ?_⟩
    obtain ⟨hc52, hm54⟩ := A54.out.2 hc
    obtain ⟨hc50, hm51⟩ := A51.out.2 (HCC52.out hc52)
    obtain ⟨_, hm50⟩ := A50.out.2 hc50
    obtain ⟨hcR, hm40a⟩ := A40.out.2 HC40.out
    obtain ⟨_, hmR⟩ := AR.out.2 hcR
    have hA2m := A2.out.1
    have hA1m := A1.out.1
    obtain ⟨ps, hRp, hp1, hp2, hgv⟩ := PP_55.out hcR
    obtain ⟨hq4, hq5⟩ := HLQ.out
    obtain ⟨es, hRi, hli⟩ := P52_55.out hc52
    have he := ((((HB0_53.out.app HB1_53.out).app HB2_53.out).app HB3_53.out).app HB4_53.out).eq (by rw [hcz]; rfl)
    have rp := (hRp.sub (S' := fun b => w.heap.size ≤ b) fun b hb => by show _ ≤ _; omega).row
    have rq := (PQ_55.out.sub (S' := fun b => w.heap.size ≤ b) fun b hb => by show _ ≤ _; omega).row
    have ri := (hRi.sub (S' := fun b => w.heap.size ≤ b) fun b hb => by show _ ≤ _; omega).row
    refine ⟨_, ⟨nm2.data.toList, aa, _, _, _, ps, qs, es, by rw [he, bs_of]; rfl, rp.1, fun d hd => ⟨rp.2 d hd, hgv d hd⟩, rq.1, rq.2, ri.1, ri.2, rfl⟩, ?_⟩
    refine Nat.le_trans (modTxt_len _ _ _ _) ?_
    rw [len_of]
    omega
  ·have g1 : (cy == 0) = false := beq_eq_false_iff_ne.2 hcy
   go_wp2_with fail
   clear g1
   clear f0 f1 f2 f3 f4 f5 f6 f7 f8 fz
   have hcn := hcy
   refine (must_any XY.out _).mono ?_
   rintro e w50 ⟨rfl, hk, c50, m50, hx, ha⟩
   have z50 : wr.heap.size ≤ w50.heap.size := hk.size
   have KK := hI hk
   have K50 : Hid (Kq br w w50) := KY.out.trans hk
   have X50 := hI hx
   have A50 := hI ha
   clear hk hx ha
   have LR_50 := vK KK LR_y (by omega)
   have LB_50 := vK KK LB_y (by omega)
   clear LR_y LB_y
   have PP_50 := hI (rw_to PP_y.out (fun k o hb h => KK.out.get (by omega) h))
   have PQ_50 := hI (rw_to PQ_y.out (fun k o hb h => KK.out.get (by omega) h))
   clear PP_y PQ_y
   clear KK
   go_wp2_with fail
   refine (must_any X50.out _).mono ?_
   rintro e w51 ⟨rfl, hk, c51, m51, hx, ha⟩
   have z51 : w50.heap.size ≤ w51.heap.size := hk.size
   have KK := hI hk
   have K51 : Hid (Kq br w w51) := K50.out.trans hk
   have X51 := hI hx
   have A51 := hI ha
   clear hk hx ha
   have LR_51 := vK KK LR_50 (by omega)
   have LB_51 := vK KK LB_50 (by omega)
   clear LR_50 LB_50
   have PP_51 := hI (rw_to PP_50.out (fun k o hb h => KK.out.get (by omega) h))
   have PQ_51 := hI (rw_to PQ_50.out (fun k o hb h => KK.out.get (by omega) h))
   clear PP_50 PQ_50
   clear KK
   go_wp2_with fail
   refine (items_read _ X51.out).mono ?_
   rintro e w52 ⟨sa52, sl52, sc52, rfl, hk, c52, m52, hx, hmm52, hcc52, hp⟩
   have z52 : w51.heap.size ≤ w52.heap.size := hk.size
   have KK := hI hk
   have K52 : Hid (Kq br w w52) := K51.out.trans hk
   have X52 := hI hx
   have P52_52 := hI (rw_born hp)
   clear hk hx hp
   have LR_52 := vK KK LR_51 (by omega)
   have LB_52 := vK KK LB_51 (by omega)
   clear LR_51 LB_51
   have PP_52 := hI (rw_to PP_51.out (fun k o hb h => KK.out.get (by omega) h))
   have PQ_52 := hI (rw_to PQ_51.out (fun k o hb h => KK.out.get (by omega) h))
   clear PP_51 PQ_51
   clear KK
   have HCC52 := hI hcc52
   clear hcc52
   obtain ⟨pcB4, pfB4⟩ := LB_52.out.cell HB4_y.out.head
   go_wp2_with fail
   generalize hS : w52.setCell ⟨w.heap.size + 1, 4, none⟩ _ = w53
   clear pcB4 pfB4
   replace hS : setFrom w52 (w.heap.size + 1) 4 [.slice sa52 sl52 sc52] = w53 := hS
   obtain ⟨cB_53, bb, hh, ap, zz, oo, kk, xx⟩ := lb_set hS LB_52.out (by simp only [lnC, lnN]; omega) (one_list rfl)
   have z53 : w52.heap.size ≤ w53.heap.size := by omega
   have K53 : Hid (Kq br w w53) := kk br w K52.out (by omega)
   have X53 : Hid (Sx br s w53 c52 m52) := xx br s c52 m52 X52.out (by omega)
   have LB_53 := hI bb
   have HB0_53 := hI (ap 0 [.string nm2] HB0_y.out (by simp only [lnC, lnN]; omega))
   have HB1_53 := hI (ap 1 [.int .i64 aa] HB1_y.out (by simp only [lnC, lnN]; omega))
   have HB2_53 := hI (ap 2 [.slice none 0 0] HB2_y.out (by simp only [lnC, lnN]; omega))
   have HB3_53 := hI (ap 3 [.slice say sly scy] HB3_y.out (by simp only [lnC, lnN]; omega))
   have HB4_53 : Hid (Has cB_53 4 [.slice sa52 sl52 sc52]) := hh
   clear LB_52 X52 K52 HB0_y HB1_y HB2_y HB3_y HB4_y
   have LR_53 := vE (oo _ (by omega)) LR_52
   clear LR_52
   have PP_53 := hI (rw_to PP_52.out (fun k o hb h => (oo k (by omega)).trans h))
   have PQ_53 := hI (rw_to PQ_52.out (fun k o hb h => (oo k (by omega)).trans h))
   have P52_53 := hI (rw_to P52_52.out (fun k o hb h => (oo k (by omega)).trans h))
   clear PP_52 PQ_52 P52_52
   clear hS bb hh ap zz oo kk xx
   refine (must_any X53.out _).mono ?_
   rintro e w54 ⟨rfl, hk, c54, m54, hx, ha⟩
   have z54 : w53.heap.size ≤ w54.heap.size := hk.size
   have KK := hI hk
   have K54 : Hid (Kq br w w54) := K53.out.trans hk
   have X54 := hI hx
   have A54 := hI ha
   clear hk hx ha
   have LR_54 := vK KK LR_53 (by omega)
   have LB_54 := vK KK LB_53 (by omega)
   clear LR_53 LB_53
   have PP_54 := hI (rw_to PP_53.out (fun k o hb h => KK.out.get (by omega) h))
   have PQ_54 := hI (rw_to PQ_53.out (fun k o hb h => KK.out.get (by omega) h))
   have P52_54 := hI (rw_to P52_53.out (fun k o hb h => KK.out.get (by omega) h))
   clear PP_53 PQ_53 P52_53
   clear KK
   have hcz : cB_53.size = 5 := LB_54.out.size
   go_wp2_with (first | (refine wpList_load_mid rfl 40 (.tmp 3) rfl (w.heap.size + 1) 0 rfl cB_53.toList _ LB_54.out.whole Tryz.underlying40 rfl (info40s.trans (congrArg some (by rw [Array.length_toList, hcz]))) ?_) | (refine wpList_store_mid rfl 40 (.tmp 2) (.tmp 93) rfl (w.heap.size) 0 cB_53 rfl rfl (LR_54.out.there 0 _ (by rw [hcz]; decide)) (info40s.trans (congrArg some hcz.symm)) LB_54.out.all ?_))
   generalize hS : w54.setCells (w.heap.size) 0 _ = w55
   replace hS : setFrom w54 (w.heap.size) 0 cB_53.toList = w55 := (setCells_from _ _ _ _).symm.trans hS
   obtain ⟨hr, zz, oo, kk, xx⟩ := lb_copy hS LR_54.out hcz
   have z55 : w54.heap.size ≤ w55.heap.size := by omega
   have K55 : Hid (Kq br w w55) := kk br w K54.out (by omega)
   have X55 : Hid (Sx br s w55 c54 m54) := xx br s c54 m54 X54.out (by omega)
   have LB_55 := vE (oo _ (by omega)) LB_54
   clear LB_54
   have PP_55 := hI (rw_to PP_54.out (fun k o hb h => (oo k (by omega)).trans h))
   have PQ_55 := hI (rw_to PQ_54.out (fun k o hb h => (oo k (by omega)).trans h))
   have P52_55 := hI (rw_to P52_54.out (fun k o hb h => (oo k (by omega)).trans h))
   clear PP_54 PQ_54 P52_54
   refine bodyPost_ret (v := .agg cB_53) (results_cell_row (Tryz.results10) _ _ (w.heap.size) 40 cB_53 _ _ rfl hr Tryz.underlying40 rfl (info40s.trans (congrArg some hcz.symm))) rfl ?_
   have AY := adv_ge (Adv.trans A50.out A51.out) HCC52.out hmm52 A54.out
   refine ⟨_, rfl, hcz, LB_55.out.one, K55.out, c54, m54, X55.out, adv_ge (Adv.trans AR.out A40.out) HCY.out hmy AY, fun hc => ?_⟩
   exact absurd (AY.2 hc).1 hcn
end Go.Proofs.YtimmmlnememjiaaGreatDoor
