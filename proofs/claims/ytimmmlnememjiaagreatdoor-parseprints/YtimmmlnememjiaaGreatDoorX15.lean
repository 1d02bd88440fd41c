import Derived.Test.YtimmmlnememjiaaGreatDoorX
import Derived.Test.YtimmmlnememjiaaGreatDoorX13
import Derived.Test.YtimmmlnememjiaaGreatDoorX14
set_option maxRecDepth 100000
set_option maxHeartbeats 16000000
namespace Go.Proofs.YtimmmlnememjiaaGreatDoor
open Go.RowKit
theorem vK {x : Nat} {w w' : World} {b n : Nat} {T : TypeId} {cs : Array Value} (K : Hid (Kq x w w')) (h : Hid (Lb w b n T cs)) (hb : b ≠ x) : Hid (Lb w' b n T cs) := hI (h.out.via (fun e => K.out.get hb e))
theorem vE {w w' : World} {b n : Nat} {T : TypeId} {cs : Array Value} (e : w'.heap[b]? = w.heap[b]?) (h : Hid (Lb w b n T cs)) : Hid (Lb w' b n T cs) := hI (h.out.via (fun h => e.trans h))
theorem one_of {cs : Array Value} (h : cs.toList.all (·.oneCell') = true) : ∀ v ∈ cs.toList, v.oneCell' = true := fun v hv => (List.all_eq_true.1 h) v hv
theorem one_list {l : List Value} (h : l.all (·.oneCell') = true) : ∀ v ∈ l, v.oneCell' = true := fun v hv => (List.all_eq_true.1 h) v hv
theorem arr_one {l : List Value} (h : l.all (·.oneCell') = true) : l.toArray.all (·.oneCell') = true := all_oneCell_toArray (one_list h)
structure BindD where
 cs : List Value
 nm : List UInt8
 gv : Bool
 te : List UInt8
def PB (S : Nat → Prop) (w : World) (d : BindD) : Prop :=
 ∃ (a k : Int) (vl : List Value), d.cs = .string (bs d.nm) :: .int .i64 a :: .bool d.gv :: vl ∧ (vl.length = 7 ∧ vl.all (·.oneCell') = true) ∧ (d.gv = true → PE S w k vl d.te)
def elB : Elt BindD where
 T := 57
 sz := 10
 cells d := d.cs
 P := PB
 pos := by decide
 mono h1 h2 h := by obtain ⟨a, k, vl, e, hl, hp⟩ := h; exact ⟨a, k, vl, e, hl, fun hg => (hp hg).mono h1 h2⟩
 strong h := by obtain ⟨a, k, vl, e, hl, hp⟩ := h; exact ⟨a, k, vl, e, hl, fun hg => (hp hg).strong⟩
 len h := by obtain ⟨a, k, vl, e, hl, hp⟩ := h; rw [e]; simp [hl.1]
def bindTxt (d : BindD) : List UInt8 := [46] ++ d.nm ++ [40] ++ (if d.gv then d.te else []) ++ [41]
def BiPost (br : Nat) (s : ByteArray) (c : Int) (m : Nat) (w : World) (e : Ending) (w' : World) : Prop :=
 ∃ cs : Array Value, e = .returned (.agg cs) ∧ cs.size = 10 ∧ (∀ v ∈ cs.toList, v.oneCell' = true) ∧ Kq br w w' ∧ ∃ (c' : Int) (m' : Nat), Sx br s w' c' m' ∧ Adv c m c' m' ∧
  (c' = 0 → ∃ (nm : List UInt8) (gv : Bool) (te : List UInt8), PB (fun b => w.heap.size ≤ b) w' ⟨cs.toList, nm, gv, te⟩ ∧ nm.length + te.length + 5 ≤ 64 * (m - m'))
theorem bind_any (mu : Bool) (br : Nat) (s : ByteArray) (c : Int) (m : Nat) (w : World) (h : Sx br s w c m) :
  Calls Tryz.prog 87 #[.pointer (some ⟨br, 0, none⟩), .bool mu] w (BiPost br s c m w) := by
 have HX := hI h
 have hlt := h.lt
 obtain ⟨kq, wdq, nq, Tq, aa, qq, fa, hr, h'⟩ := h
 obtain ⟨f0, f1, f2, f3, f4, f5, f6, f7, f8, fz⟩ := hr.all
 clear hr h'
 go_enter Tryz.func87, Tryz.ntmps87
 go_wp2_with fail
 generalize hW : (w.alloc (.cells _ 57)).alloc (.cells _ 57) = w0
 obtain ⟨hz, r0, r1, kW, sW⟩ := two_boxes hW
 have K0 := kW br
 have X0 := sW br s c m HX.out
 have z0 : w.heap.size + 2 = w0.heap.size := hz.symm
 obtain ⟨cR_0, LR_0⟩ : ∃ cs, Hid (Lb w0 (w.heap.size) 10 57 cs) := ⟨_, ⟨r0, rfl, one_of rfl⟩⟩
 obtain ⟨cB_0, LB_0, HB0_0, HB1_0, HB2_0, HB3_0⟩ : ∃ cs, Hid (Lb w0 (w.heap.size + 1) 10 57 cs) ∧ Hid (Has cs 0 [.string ⟨#[]⟩]) ∧ Hid (Has cs 1 [.int .i64 aa]) ∧ Hid (Has cs 2 [.bool false]) ∧ Hid (Has cs 3 [.int .i64 0, .int .i64 0, .int .i64 0, .int .i64 0, .int .u64 0, .string ⟨#[]⟩, .slice none 0 0]) := ⟨_, ⟨r1, rfl, one_of rfl⟩, has_of rfl, has_of rfl, has_of rfl, has_of rfl⟩
 clear hW kW sW r0 r1 hz f0 f1 f2 f3 f4 f5 f6 f7 f8 fz HX
 refine (must_any X0.out _).mono ?_
 rintro e w1 ⟨rfl, hk, c1, m1, hx, ha⟩
 have z1 : w0.heap.size ≤ w1.heap.size := hk.size
 have KK := hI hk
 have K1 : Hid (Kq br w w1) := K0.out.trans hk
 have X1 := hI hx
 have A1 := hI ha
 clear hk hx ha
 have LR_1 := vK KK LR_0 (by omega)
 have LB_1 := vK KK LB_0 (by omega)
 clear LR_0 LB_0
 clear KK
 go_wp2_with fail
 refine (name_any X1.out).mono ?_
 rintro e w2 ⟨nm2, rfl, hnm2, hk, c2, m2, hx, ha⟩
 have z2 : w1.heap.size ≤ w2.heap.size := hk.size
 have KK := hI hk
 have K2 : Hid (Kq br w w2) := K1.out.trans hk
 have X2 := hI hx
 have A2 := hI ha
 clear hk hx ha
 have LR_2 := vK KK LR_1 (by omega)
 have LB_2 := vK KK LB_1 (by omega)
 clear LR_1 LB_1
 clear KK
 obtain ⟨pcB0, pfB0⟩ := LB_2.out.cell HB0_0.out.head
 go_wp2_with fail
 generalize hS : w2.setCell ⟨w.heap.size + 1, 0, none⟩ _ = w3
 clear pcB0 pfB0
 replace hS : setFrom w2 (w.heap.size + 1) 0 [.string nm2] = w3 := hS
 obtain ⟨cB_3, bb, hh, ap, zz, oo, kk, xx⟩ := lb_set hS LB_2.out (by simp only [lnC, lnN]; omega) (one_list rfl)
 have z3 : w2.heap.size ≤ w3.heap.size := by omega
 have K3 : Hid (Kq br w w3) := kk br w K2.out (by omega)
 have X3 : Hid (Sx br s w3 c2 m2) := xx br s c2 m2 X2.out (by omega)
 have LB_3 := hI bb
 have HB1_3 := hI (ap 1 [.int .i64 aa] HB1_0.out (by simp only [lnC, lnN]; omega))
 have HB2_3 := hI (ap 2 [.bool false] HB2_0.out (by simp only [lnC, lnN]; omega))
 have HB3_3 := hI (ap 3 [.int .i64 0, .int .i64 0, .int .i64 0, .int .i64 0, .int .u64 0, .string ⟨#[]⟩, .slice none 0 0] HB3_0.out (by simp only [lnC, lnN]; omega))
 have HB0_3 : Hid (Has cB_3 0 [.string nm2]) := hh
 clear LB_2 X2 K2 HB0_0 HB1_0 HB2_0 HB3_0
 have LR_3 := vE (oo _ (by omega)) LR_2
 clear LR_2
 clear hS bb hh ap zz oo kk xx
 refine (must_any X3.out _).mono ?_
 rintro e w4 ⟨rfl, hk, c4, m4, hx, ha⟩
 have z4 : w3.heap.size ≤ w4.heap.size := hk.size
 have KK := hI hk
 have K4 : Hid (Kq br w w4) := K3.out.trans hk
 have X4 := hI hx
 have A4 := hI ha
 clear hk hx ha
 have LR_4 := vK KK LR_3 (by omega)
 have LB_4 := vK KK LB_3 (by omega)
 clear LR_3 LB_3
 clear KK
 go_wp2_with fail
 refine is_alt X4.out _ ?_ ?_
 ·intro _ _ _ _ _
  cases mu
  ·go_wp2_with fail
   refine (must_any X4.out _).mono ?_
   rintro e w8 ⟨rfl, hk, c8, m8, hx, ha⟩
   have z8 : w4.heap.size ≤ w8.heap.size := hk.size
   have KK := hI hk
   have K8 : Hid (Kq br w w8) := K4.out.trans hk
   have X8 := hI hx
   have A8 := hI ha
   clear hk hx ha
   have LR_8 := vK KK LR_4 (by omega)
   have LB_8 := vK KK LB_4 (by omega)
   clear LR_4 LB_4
   clear KK
   have hcz : cB_3.size = 10 := LB_8.out.size
   go_wp2_with (first | (refine wpList_load_mid rfl 57 (.tmp 5) rfl (w.heap.size + 1) 0 rfl cB_3.toList _ LB_8.out.whole Tryz.underlying57 rfl (info57s.trans (congrArg some (by rw [Array.length_toList, hcz]))) ?_) | (refine wpList_store_mid rfl 57 (.tmp 4) (.tmp 33) rfl (w.heap.size) 0 cB_3 rfl rfl (LR_8.out.there 0 _ (by rw [hcz]; decide)) (info57s.trans (congrArg some hcz.symm)) LB_8.out.all ?_))
   generalize hS : w8.setCells (w.heap.size) 0 _ = w9
   replace hS : setFrom w8 (w.heap.size) 0 cB_3.toList = w9 := (setCells_from _ _ _ _).symm.trans hS
   obtain ⟨hr, zz, oo, kk, xx⟩ := lb_copy hS LR_8.out hcz
   have z9 : w8.heap.size ≤ w9.heap.size := by omega
   have K9 : Hid (Kq br w w9) := kk br w K8.out (by omega)
   have X9 : Hid (Sx br s w9 c8 m8) := xx br s c8 m8 X8.out (by omega)
   have LB_9 := vE (oo _ (by omega)) LB_8
   clear LB_8
   refine bodyPost_ret (v := .agg cB_3) (results_cell_row (Tryz.results87) _ _ (w.heap.size) 57 cB_3 _ _ rfl hr Tryz.underlying57 rfl (info57s.trans (congrArg some hcz.symm))) rfl ?_
   refine ⟨_, rfl, hcz, LB_9.out.one, K9.out, c8, m8, X9.out, Adv.trans (A1.out) (Adv.trans (A2.out) (Adv.trans (A4.out) (A8.out))), fun hc => ?_⟩
   obtain ⟨hc4, hm8⟩ := A8.out.2 hc
   obtain ⟨hc2, hm4⟩ := A4.out.2 hc4
   obtain ⟨hc1, hm2⟩ := A2.out.2 hc2
   obtain ⟨_, hm1⟩ := A1.out.2 hc1
   have he := (((HB0_3.out.app HB1_3.out).app HB2_3.out).app HB3_3.out).eq (by rw [hcz]; rfl)
   refine ⟨nm2.data.toList, false, [], ⟨aa, 0, [.int .i64 0, .int .i64 0, .int .i64 0, .int .i64 0, .int .u64 0, .string ⟨#[]⟩, .slice none 0 0], by rw [he, bs_of]; rfl, ⟨rfl, rfl⟩, fun hg => by cases hg⟩, ?_⟩
   rw [len_of]
   simp only [lnN]
   omega
  ·obtain ⟨pcB2, pfB2⟩ := LB_4.out.cell HB2_3.out.head
   go_wp2_with fail
   generalize hS : w4.setCell ⟨w.heap.size + 1, 2, none⟩ _ = w5
   clear pcB2 pfB2
   replace hS : setFrom w4 (w.heap.size + 1) 2 [.bool true] = w5 := hS
   obtain ⟨cB_5, bb, hh, ap, zz, oo, kk, xx⟩ := lb_set hS LB_4.out (by simp only [lnC, lnN]; omega) (one_list rfl)
   have z5 : w4.heap.size ≤ w5.heap.size := by omega
   have K5 : Hid (Kq br w w5) := kk br w K4.out (by omega)
   have X5 : Hid (Sx br s w5 c4 m4) := xx br s c4 m4 X4.out (by omega)
   have LB_5 := hI bb
   have HB1_5 := hI (ap 1 [.int .i64 aa] HB1_3.out (by simp only [lnC, lnN]; omega))
   have HB3_5 := hI (ap 3 [.int .i64 0, .int .i64 0, .int .i64 0, .int .i64 0, .int .u64 0, .string ⟨#[]⟩, .slice none 0 0] HB3_3.out (by simp only [lnC, lnN]; omega))
   have HB0_5 := hI (ap 0 [.string nm2] HB0_3.out (by simp only [lnC, lnN]; omega))
   have HB2_5 : Hid (Has cB_5 2 [.bool true]) := hh
   clear LB_4 X4 K4 HB1_3 HB2_3 HB3_3 HB0_3
   have LR_5 := vE (oo _ (by omega)) LR_4
   clear LR_4
   clear hS bb hh ap zz oo kk xx
   refine (expr_read X5.out).mono ?_
   rintro e w6 ⟨k6, a6, op6, wd6, n6, nm6, sa6, sl6, sc6, rfl, hk, c6, m6, hx, ha, hp⟩
   have z6 : w5.heap.size ≤ w6.heap.size := hk.size
   have KK := hI hk
   have K6 : Hid (Kq br w w6) := K5.out.trans hk
   have X6 := hI hx
   have A6 := hI ha
   have P6_6 := hI (pe_born hp)
   clear hk hx ha hp
   have LR_6 := vK KK LR_5 (by omega)
   have LB_6 := vK KK LB_5 (by omega)
   clear LR_5 LB_5
   clear KK
   have HTT : Hid (w6.there (w.heap.size + 1) 3 (#[.int .i64 k6, .int .i64 a6, .int .i64 op6, .int .i64 wd6, .int .u64 n6, .string nm6, .slice sa6 sl6 sc6] : Array Value).size) := LB_6.out.there 3 7 (by decide)
   have HTI : Hid ((Tryz.prog.info? 55).map (·.size) = some (#[.int .i64 k6, .int .i64 a6, .int .i64 op6, .int .i64 wd6, .int .u64 n6, .string nm6, .slice sa6 sl6 sc6] : Array Value).size) := info55s
   have HTO : Hid ((#[.int .i64 k6, .int .i64 a6, .int .i64 op6, .int .i64 wd6, .int .u64 n6, .string nm6, .slice sa6 sl6 sc6] : Array Value).all (·.oneCell') = true) := arr_one rfl
   go_upto_region 9 with (refine wpList_store_mid rfl 55 (.tmp 30) (.tmp 29) rfl (w.heap.size + 1) 3 #[.int .i64 k6, .int .i64 a6, .int .i64 op6, .int .i64 wd6, .int .u64 n6, .string nm6, .slice sa6 sl6 sc6] rfl rfl HTT.out HTI.out HTO.out ?_)
   generalize hS : w6.setCells (w.heap.size + 1) 3 _ = w7
   clear HTT HTI HTO
   replace hS : setFrom w6 (w.heap.size + 1) 3 [.int .i64 k6, .int .i64 a6, .int .i64 op6, .int .i64 wd6, .int .u64 n6, .string nm6, .slice sa6 sl6 sc6] = w7 := (setCells_from _ _ _ _).symm.trans hS
   obtain ⟨cB_7, bb, hh, ap, zz, oo, kk, xx⟩ := lb_set hS LB_6.out (by simp only [lnC, lnN]; omega) (one_list rfl)
   have z7 : w6.heap.size ≤ w7.heap.size := by omega
   have K7 : Hid (Kq br w w7) := kk br w K6.out (by omega)
   have X7 : Hid (Sx br s w7 c6 m6) := xx br s c6 m6 X6.out (by omega)
   have LB_7 := hI bb
   have HB1_7 := hI (ap 1 [.int .i64 aa] HB1_5.out (by simp only [lnC, lnN]; omega))
   have HB0_7 := hI (ap 0 [.string nm2] HB0_5.out (by simp only [lnC, lnN]; omega))
   have HB2_7 := hI (ap 2 [.bool true] HB2_5.out (by simp only [lnC, lnN]; omega))
   have HB3_7 : Hid (Has cB_7 3 [.int .i64 k6, .int .i64 a6, .int .i64 op6, .int .i64 wd6, .int .u64 n6, .string nm6, .slice sa6 sl6 sc6]) := hh
   clear LB_6 X6 K6 HB1_5 HB3_5 HB0_5 HB2_5
   have LR_7 := vE (oo _ (by omega)) LR_6
   clear LR_6
   have P6_7 := hI (pe_to P6_6.out (fun k o hb h => (oo k (by omega)).trans h))
   clear P6_6
   clear hS bb hh ap zz oo kk xx
   go_wp2_with fail
   refine (must_any X7.out _).mono ?_
   rintro e w8 ⟨rfl, hk, c8, m8, hx, ha⟩
   have z8 : w7.heap.size ≤ w8.heap.size := hk.size
   have KK := hI hk
   have K8 : Hid (Kq br w w8) := K7.out.trans hk
   have X8 := hI hx
   have A8 := hI ha
   clear hk hx ha
   have LR_8 := vK KK LR_7 (by omega)
   have LB_8 := vK KK LB_7 (by omega)
   clear LR_7 LB_7
   have P6_8 := hI (pe_to P6_7.out (fun k o hb h => KK.out.get (by omega) h))
   clear P6_7
   clear KK
   have hcz : cB_7.size = 10 := LB_8.out.size
   go_wp2_with (first | (refine wpList_load_mid rfl 57 (.tmp 5) rfl (w.heap.size + 1) 0 rfl cB_7.toList _ LB_8.out.whole Tryz.underlying57 rfl (info57s.trans (congrArg some (by rw [Array.length_toList, hcz]))) ?_) | (refine wpList_store_mid rfl 57 (.tmp 4) (.tmp 33) rfl (w.heap.size) 0 cB_7 rfl rfl (LR_8.out.there 0 _ (by rw [hcz]; decide)) (info57s.trans (congrArg some hcz.symm)) LB_8.out.all ?_))
   generalize hS : w8.setCells (w.heap.size) 0 _ = w9
   replace hS : setFrom w8 (w.heap.size) 0 cB_7.toList = w9 := (setCells_from _ _ _ _).symm.trans hS
   obtain ⟨hr, zz, oo, kk, xx⟩ := lb_copy hS LR_8.out hcz
   have z9 : w8.heap.size ≤ w9.heap.size := by omega
   have K9 : Hid (Kq br w w9) := kk br w K8.out (by omega)
   have X9 : Hid (Sx br s w9 c8 m8) := xx br s c8 m8 X8.out (by omega)
   have LB_9 := vE (oo _ (by omega)) LB_8
   clear LB_8
   have P6_9 := hI (pe_to P6_8.out (fun k o hb h => (oo k (by omega)).trans h))
   clear P6_8
   refine bodyPost_ret (v := .agg cB_7) (results_cell_row (Tryz.results87) _ _ (w.heap.size) 57 cB_7 _ _ rfl hr Tryz.underlying57 rfl (info57s.trans (congrArg some hcz.symm))) rfl ?_
   refine ⟨_, rfl, hcz, LB_9.out.one, K9.out, c8, m8, X9.out, Adv.trans (A1.out) (Adv.trans (A2.out) (Adv.trans (A4.out) (Adv.trans (A6.out) (A8.out)))), fun hc => ?_⟩
   obtain ⟨hc6, hm8⟩ := A8.out.2 hc
   obtain ⟨hc4, hm6⟩ := A6.out.2 hc6
   obtain ⟨hc2, hm4⟩ := A4.out.2 hc4
   obtain ⟨hc1, hm2⟩ := A2.out.2 hc2
   obtain ⟨_, hm1⟩ := A1.out.2 hc1
   have he := (((HB0_7.out.app HB1_7.out).app HB2_7.out).app HB3_7.out).eq (by rw [hcz]; rfl)
   obtain ⟨t, hp, hl⟩ := P6_9.out hc6
   refine ⟨nm2.data.toList, true, t, ⟨aa, k6, [.int .i64 k6, .int .i64 a6, .int .i64 op6, .int .i64 wd6, .int .u64 n6, .string nm6, .slice sa6 sl6 sc6], by rw [he, bs_of]; rfl, ⟨rfl, rfl⟩, fun _ => hp.mono (fun b hb => by show _ ≤ _; omega) (fun _ _ _ _ hu => hu)⟩, ?_⟩
   rw [len_of]
   omega
 ·cases mu
  all_goals
   obtain ⟨pcB2, pfB2⟩ := LB_4.out.cell HB2_3.out.head
   go_wp2_with fail
   generalize hS : w4.setCell ⟨w.heap.size + 1, 2, none⟩ _ = w5
   clear pcB2 pfB2
   replace hS : setFrom w4 (w.heap.size + 1) 2 [.bool true] = w5 := hS
   obtain ⟨cB_5, bb, hh, ap, zz, oo, kk, xx⟩ := lb_set hS LB_4.out (by simp only [lnC, lnN]; omega) (one_list rfl)
   have z5 : w4.heap.size ≤ w5.heap.size := by omega
   have K5 : Hid (Kq br w w5) := kk br w K4.out (by omega)
   have X5 : Hid (Sx br s w5 c4 m4) := xx br s c4 m4 X4.out (by omega)
   have LB_5 := hI bb
   have HB1_5 := hI (ap 1 [.int .i64 aa] HB1_3.out (by simp only [lnC, lnN]; omega))
   have HB3_5 := hI (ap 3 [.int .i64 0, .int .i64 0, .int .i64 0, .int .i64 0, .int .u64 0, .string ⟨#[]⟩, .slice none 0 0] HB3_3.out (by simp only [lnC, lnN]; omega))
   have HB0_5 := hI (ap 0 [.string nm2] HB0_3.out (by simp only [lnC, lnN]; omega))
   have HB2_5 : Hid (Has cB_5 2 [.bool true]) := hh
   clear LB_4 X4 K4 HB1_3 HB2_3 HB3_3 HB0_3
   have LR_5 := vE (oo _ (by omega)) LR_4
   clear LR_4
   clear hS bb hh ap zz oo kk xx
   refine (expr_read X5.out).mono ?_
   rintro e w6 ⟨k6, a6, op6, wd6, n6, nm6, sa6, sl6, sc6, rfl, hk, c6, m6, hx, ha, hp⟩
   have z6 : w5.heap.size ≤ w6.heap.size := hk.size
   have KK := hI hk
   have K6 : Hid (Kq br w w6) := K5.out.trans hk
   have X6 := hI hx
   have A6 := hI ha
   have P6_6 := hI (pe_born hp)
   clear hk hx ha hp
   have LR_6 := vK KK LR_5 (by omega)
   have LB_6 := vK KK LB_5 (by omega)
   clear LR_5 LB_5
   clear KK
   have HTT : Hid (w6.there (w.heap.size + 1) 3 (#[.int .i64 k6, .int .i64 a6, .int .i64 op6, .int .i64 wd6, .int .u64 n6, .string nm6, .slice sa6 sl6 sc6] : Array Value).size) := LB_6.out.there 3 7 (by decide)
   have HTI : Hid ((Tryz.prog.info? 55).map (·.size) = some (#[.int .i64 k6, .int .i64 a6, .int .i64 op6, .int .i64 wd6, .int .u64 n6, .string nm6, .slice sa6 sl6 sc6] : Array Value).size) := info55s
   have HTO : Hid ((#[.int .i64 k6, .int .i64 a6, .int .i64 op6, .int .i64 wd6, .int .u64 n6, .string nm6, .slice sa6 sl6 sc6] : Array Value).all (·.oneCell') = true) := arr_one rfl
   go_upto_region 9 with (refine wpList_store_mid rfl 55 (.tmp 30) (.tmp 29) rfl (w.heap.size + 1) 3 #[.int .i64 k6, .int .i64 a6, .int .i64 op6, .int .i64 wd6, .int .u64 n6, .string nm6, .slice sa6 sl6 sc6] rfl rfl HTT.out HTI.out HTO.out ?_)
   generalize hS : w6.setCells (w.heap.size + 1) 3 _ = w7
   clear HTT HTI HTO
   replace hS : setFrom w6 (w.heap.size + 1) 3 [.int .i64 k6, .int .i64 a6, .int .i64 op6, .int .i64 wd6, .int .u64 n6, .string nm6, .slice sa6 sl6 sc6] = w7 := (setCells_from _ _ _ _).symm.trans hS
   obtain ⟨cB_7, bb, hh, ap, zz, oo, kk, xx⟩ := lb_set hS LB_6.out (by simp only [lnC, lnN]; omega) (one_list rfl)
   have z7 : w6.heap.size ≤ w7.heap.size := by omega
   have K7 : Hid (Kq br w w7) := kk br w K6.out (by omega)
   have X7 : Hid (Sx br s w7 c6 m6) := xx br s c6 m6 X6.out (by omega)
   have LB_7 := hI bb
   have HB1_7 := hI (ap 1 [.int .i64 aa] HB1_5.out (by simp only [lnC, lnN]; omega))
   have HB0_7 := hI (ap 0 [.string nm2] HB0_5.out (by simp only [lnC, lnN]; omega))
   have HB2_7 := hI (ap 2 [.bool true] HB2_5.out (by simp only [lnC, lnN]; omega))
   have HB3_7 : Hid (Has cB_7 3 [.int .i64 k6, .int .i64 a6, .int .i64 op6, .int .i64 wd6, .int .u64 n6, .string nm6, .slice sa6 sl6 sc6]) := hh
   clear LB_6 X6 K6 HB1_5 HB3_5 HB0_5 HB2_5
   have LR_7 := vE (oo _ (by omega)) LR_6
   clear LR_6
   have P6_7 := hI (pe_to P6_6.out (fun k o hb h => (oo k (by omega)).trans h))
   clear P6_6
   clear hS bb hh ap zz oo kk xx
   go_wp2_with fail
   refine (must_any X7.out _).mono ?_
   rintro e w8 ⟨rfl, hk, c8, m8, hx, ha⟩
   have z8 : w7.heap.size ≤ w8.heap.size := hk.size
   have KK := hI hk
   have K8 : Hid (Kq br w w8) := K7.out.trans hk
   have X8 := hI hx
   have A8 := hI ha
   clear hk hx ha
   have LR_8 := vK KK LR_7 (by omega)
   have LB_8 := vK KK LB_7 (by omega)
   clear LR_7 LB_7
   have P6_8 := hI (pe_to P6_7.out (fun k o hb h => KK.out.get (by omega) h))
   clear P6_7
   clear KK
   have hcz : cB_7.size = 10 := LB_8.out.size
   go_wp2_with (first | (refine wpList_load_mid rfl 57 (.tmp 5) rfl (w.heap.size + 1) 0 rfl cB_7.toList _ LB_8.out.whole Tryz.underlying57 rfl (info57s.trans (congrArg some (by rw [Array.length_toList, hcz]))) ?_) | (refine wpList_store_mid rfl 57 (.tmp 4) (.tmp 33) rfl (w.heap.size) 0 cB_7 rfl rfl (LR_8.out.there 0 _ (by rw [hcz]; decide)) (info57s.trans (congrArg some hcz.symm)) LB_8.out.all ?_))
   generalize hS : w8.setCells (w.heap.size) 0 _ = w9
   replace hS : setFrom w8 (w.heap.size) 0 cB_7.toList = w9 := (setCells_from _ _ _ _).symm.trans hS
   obtain ⟨hr, zz, oo, kk, xx⟩ := lb_copy hS LR_8.out hcz
   have z9 : w8.heap.size ≤ w9.heap.size := by omega
   have K9 : Hid (Kq br w w9) := kk br w K8.out (by omega)
   have X9 : Hid (Sx br s w9 c8 m8) := xx br s c8 m8 X8.out (by omega)
   have LB_9 := vE (oo _ (by omega)) LB_8
   clear LB_8
   have P6_9 := hI (pe_to P6_8.out (fun k o hb h => (oo k (by omega)).trans h))
   clear P6_8
   refine bodyPost_ret (v := .agg cB_7) (results_cell_row (Tryz.results87) _ _ (w.heap.size) 57 cB_7 _ _ rfl hr Tryz.underlying57 rfl (info57s.trans (congrArg some hcz.symm))) rfl ?_
   refine ⟨_, rfl, hcz, LB_9.out.one, K9.out, c8, m8, X9.out, Adv.trans (A1.out) (Adv.trans (A2.out) (Adv.trans (A4.out) (Adv.trans (A6.out) (A8.out)))), fun hc => ?_⟩
   obtain ⟨hc6, hm8⟩ := A8.out.2 hc
   obtain ⟨hc4, hm6⟩ := A6.out.2 hc6
   obtain ⟨hc2, hm4⟩ := A4.out.2 hc4
   obtain ⟨hc1, hm2⟩ := A2.out.2 hc2
   obtain ⟨_, hm1⟩ := A1.out.2 hc1
   have he := (((HB0_7.out.app HB1_7.out).app HB2_7.out).app HB3_7.out).eq (by rw [hcz]; rfl)
   obtain ⟨t, hp, hl⟩ := P6_9.out hc6
   refine ⟨nm2.data.toList, true, t, ⟨aa, k6, [.int .i64 k6, .int .i64 a6, .int .i64 op6, .int .i64 wd6, .int .u64 n6, .string nm6, .slice sa6 sl6 sc6], by rw [he, bs_of]; rfl, ⟨rfl, rfl⟩, fun _ => hp.mono (fun b hb => by show _ ≤ _; omega) (fun _ _ _ _ hu => hu)⟩, ?_⟩
   rw [len_of]
   omega
theorem PRg.strong {S : Nat → Prop} {w : World} {cs : List Value} {t : List UInt8} (h : PRg S w cs t) : PRg (fun b => S b ∧ b < w.heap.size) w cs t := by
 rcases h with h | ⟨k1, k2, c1, c2, t1, t2, e, p1, p2, ht⟩
 ·exact .inl h
 ·exact .inr ⟨k1, k2, c1, c2, t1, t2, e, p1.strong, p2.strong, ht⟩
theorem PRg.len {S : Nat → Prop} {w : World} {cs : List Value} {t : List UInt8} (h : PRg S w cs t) : cs.length = 15 := by
 rcases h with ⟨rfl, _⟩ | ⟨k1, k2, c1, c2, t1, t2, rfl, p1, p2, _⟩
 ·rfl
 ·simp [p1.len, p2.len]
theorem PRg.moved {S : Nat → Prop} {w w' : World} {cs : List Value} {t : List UInt8} (h : PRg S w cs t) (hb : ∀ k o, S k → w.heap[k]? = some o → w'.heap[k]? = some o) : PRg S w' cs t := by
 refine (h.strong).mono (fun b h => h.1) ?_
 intro b o v hS hu
 have hl := hS.2
 have h1 := hb b (w.heap[b]) hS.1 (Array.getElem?_eq_getElem hl)
 rw [World.cell?_of_block (a := ⟨b, o, none⟩) (h1.trans (Array.getElem?_eq_getElem hl).symm)]; exact hu
theorem pr_born {C : Prop} {lo : Nat} {w' : World} {cs : List Value} {F : List UInt8 → Prop} (h : C → ∃ t, PRg (fun b => lo ≤ b) w' cs t ∧ F t) : C → ∃ t, PRg (fun b => lo ≤ b ∧ b < w'.heap.size) w' cs t ∧ F t := fun hc => by
 obtain ⟨t, h1, h2⟩ := h hc; exact ⟨t, h1.strong, h2⟩
theorem pr_to {C : Prop} {S : Nat → Prop} {w w' : World} {cs : List Value} {F : List UInt8 → Prop} (h : C → ∃ t, PRg S w cs t ∧ F t) (hb : ∀ k o, S k → w.heap[k]? = some o → w'.heap[k]? = some o) : C → ∃ t, PRg S w' cs t ∧ F t := fun hc => by
 obtain ⟨t, h1, h2⟩ := h hc; exact ⟨t, h1.moved hb, h2⟩
theorem there_new2 (w : World) (o : Obj) (cs : Array Value) (T : TypeId) (n : Nat) (h : cs.size = n) : ((w.alloc o).alloc (.cells cs T)).there (w.heap.size + 1) 0 n := by
 have hb : ((w.alloc o).alloc (.cells cs T)).heap[w.heap.size + 1]? = some (.cells cs T) := by
  have := heap_alloc_self (w.alloc o) (.cells cs T)
  rw [World.size_alloc] at this; exact this
 obtain ⟨h1, h2, _⟩ := bxN hb
 intro j hj
 refine ⟨?_, h2 _⟩
 rw [h1, Array.getElem?_eq_getElem (by omega)]; rfl
structure PortD where
 cs : List Value
 nm : List UInt8
 out : Bool
 reg : Bool
 tr : List UInt8
def PP (S : Nat → Prop) (w : World) (d : PortD) : Prop :=
 ∃ (a : Int) (rg : List Value), d.cs = .string (bs d.nm) :: .int .i64 a :: .bool d.out :: .bool d.reg :: rg ∧ PRg S w rg d.tr
def elP : Elt PortD where
 T := 62
 sz := 19
 cells d := d.cs
 P := PP
 pos := by decide
 mono h1 h2 h := by obtain ⟨a, rg, e, hp⟩ := h; exact ⟨a, rg, e, hp.mono h1 h2⟩
 strong h := by obtain ⟨a, rg, e, hp⟩ := h; exact ⟨a, rg, e, hp.strong⟩
 len h := by obtain ⟨a, rg, e, hp⟩ := h; rw [e]; simp [hp.len]
def portTxt (d : PortD) : List UInt8 :=
 (if d.out then (if d.reg then [111, 117, 116, 112, 117, 116, 32, 114, 101, 103, 32] else [111, 117, 116, 112, 117, 116, 32]) else [105, 110, 112, 117, 116, 32]) ++ d.tr ++ d.nm
def PoPost (br : Nat) (s : ByteArray) (c : Int) (m : Nat) (w : World) (e : Ending) (w' : World) : Prop :=
 ∃ cs : Array Value, e = .returned (.agg cs) ∧ cs.size = 19 ∧ (∀ v ∈ cs.toList, v.oneCell' = true) ∧ Kq br w w' ∧ ∃ (c' : Int) (m' : Nat), Sx br s w' c' m' ∧ Adv c m c' m' ∧
  (c' = 0 → ∃ (nm : List UInt8) (out reg : Bool) (tr : List UInt8), PP (fun b => w.heap.size ≤ b) w' ⟨cs.toList, nm, out, reg, tr⟩ ∧ nm.length + tr.length + 14 ≤ 64 * (m - m'))
end Go.Proofs.YtimmmlnememjiaaGreatDoor
