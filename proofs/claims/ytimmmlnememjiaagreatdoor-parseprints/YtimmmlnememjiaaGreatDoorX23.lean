import Derived.Test.YtimmmlnememjiaaGreatDoorX
import Derived.Test.YtimmmlnememjiaaGreatDoorX19
set_option maxRecDepth 100000
set_option maxHeartbeats 16000000
namespace Go.Proofs.YtimmmlnememjiaaGreatDoor
open Go.RowKit
theorem zero95_h34 : Has Tryz.zeroCells95 34 [.bool false] := has_of (by kernel_rfl)
theorem zero95_h57 : Has Tryz.zeroCells95 57 [.slice none 0 0] := has_of (by kernel_rfl)
theorem zero95_h62 : Has Tryz.zeroCells95 62 [.bool false] := has_of (by kernel_rfl)
theorem zero95_h0 : Has Tryz.zeroCells95 0 [.int .i64 0] := has_of (by kernel_rfl)
theorem set_apart {cs : Array Value} {o o' : Nat} {v : Value} {us : List Value} (h : Has cs o' us) (hd : o < o' ∨ o' + us.length ≤ o) : Has (cs.setIfInBounds o v) o' us := fun j u hu => by
 have hj := (List.getElem?_eq_some_iff.1 hu).1
 rw [Array.getElem?_setIfInBounds_ne (by omega)]; exact h j u hu
theorem set_same {cs : Array Value} {o : Nat} (v : Value) (h : o < cs.size) : Has (cs.setIfInBounds o v) o [v] := Has.one (by simp [h])
theorem set_one {cs : Array Value} (h : ∀ v ∈ cs.toList, v.oneCell' = true) (o : Nat) {v : Value} (hv : v.oneCell' = true) : ∀ u ∈ (cs.setIfInBounds o v).toList, u.oneCell' = true := by
 intro u hm
 rw [Array.toList_setIfInBounds] at hm
 rcases List.mem_or_eq_of_mem_set hm with h1 | h1
 ·exact h u h1
 ·rw [h1]; exact hv
def z95 (Z : Array Value) (k a : Int) : Array Value := (Z.setIfInBounds 0 (.int .i64 k)).setIfInBounds 1 (.int .i64 a)
theorem z95_size (k a : Int) : (z95 Tryz.zeroCells95 k a).size = 65 := by simp [z95]
theorem z95_one (k a : Int) : ∀ v ∈ (z95 Tryz.zeroCells95 k a).toList, v.oneCell' = true := set_one (set_one zero95_one' 0 rfl) 1 rfl
theorem z95_list (k a : Int) : (z95 Tryz.zeroCells95 k a).toList = (Tryz.zeroCells95.toList.set 0 (.int .i64 k)).set 1 (.int .i64 a) := by simp [z95]
theorem z95_0 (k a : Int) : Has (z95 Tryz.zeroCells95 k a) 0 [.int .i64 k] := set_apart (set_same _ (by rw [zero95_size]; decide)) (Or.inr (by simp only [lnC, lnN]; omega))
theorem z95_1 (k a : Int) : Has (z95 Tryz.zeroCells95 k a) 1 [.int .i64 a] := set_same _ (by simp)
theorem z95_of (k a : Int) {o : Nat} {us : List Value} (h : Has Tryz.zeroCells95 o us) (ho : 1 < o) : Has (z95 Tryz.zeroCells95 k a) o us := set_apart (set_apart h (Or.inl (by omega))) (Or.inl ho)
def y95 (Z : Array Value) (a : Int) : Array Value := Z.setIfInBounds 1 (.int .i64 a)
theorem y95_size (a : Int) : (y95 Tryz.zeroCells95 a).size = 65 := by simp [y95]
theorem y95_one (a : Int) : ∀ v ∈ (y95 Tryz.zeroCells95 a).toList, v.oneCell' = true := set_one zero95_one' 1 rfl
theorem y95_list (a : Int) : (y95 Tryz.zeroCells95 a).toList = Tryz.zeroCells95.toList.set 1 (.int .i64 a) := by simp [y95]
theorem y95_of (a : Int) {o : Nat} {us : List Value} (h : Has Tryz.zeroCells95 o us) (ho : 1 < o ∨ o + us.length ≤ 1) : Has (y95 Tryz.zeroCells95 a) o us := set_apart h (by omega)
theorem y95_1 (a : Int) : Has (y95 Tryz.zeroCells95 a) 1 [.int .i64 a] := set_same _ (by simp)
theorem Lb.big {w : World} {b : Nat} {T : TypeId} {cs : Array Value} (h : Lb w b 65 T cs) : Big cs.toList := ⟨by rw [Array.length_toList, h.size], h.one⟩
def UsPost (br : Nat) (s : ByteArray) (c : Int) (m : Nat) (w : World) (e : Ending) (w' : World) : Prop :=
 ∃ cs : Array Value, e = .returned (.agg cs) ∧ cs.size = 65 ∧ (∀ v ∈ cs.toList, v.oneCell' = true) ∧ Kq br w w' ∧ ∃ (c' : Int) (m' : Nat), Sx br s w' c' m' ∧ Adv c m c' m' ∧
  (c' = 0 → ∃ t, PI (fun b => w.heap.size ≤ b) w' cs.toList t ∧ t.length ≤ 4000000 * (m - m'))
theorem useTxt_len (md nm : List UInt8) (ps qs : List (List UInt8)) : (useTxt md nm ps qs).length ≤ md.length + nm.length + (commaTxt ps).length + (commaTxt qs).length + 10 := by
 unfold useTxt hashTxt
 simp only [lnA, lnC, lnN]
 split
 ·simp only [lnN]; omega
 ·simp only [lnA, lnC, lnN]; omega
theorem use_any (br : Nat) (s : ByteArray) (c : Int) (m : Nat) (w : World) (h : Sx br s w c m) :
  Calls Tryz.prog 60 #[.pointer (some ⟨br, 0, none⟩)] w (UsPost br s c m w) := by
 have HX := hI h
 have hlt := h.lt
 obtain ⟨kq, wdq, nq, Tq, aa, qq, fa, hr, h'⟩ := h
 obtain ⟨f0, f1, f2, f3, f4, f5, f6, f7, f8, fz⟩ := hr.all
 clear hr h'
 go_enter Tryz.func60, Tryz.ntmps60
 have HTO : Hid ((z95 Tryz.zeroCells95 7 aa).all (·.oneCell') = true) := arr_all (z95_one 7 aa)
 have HTI : Hid ((Tryz.prog.info? 95).map (·.size) = some (z95 Tryz.zeroCells95 7 aa).size) := info95.trans (congrArg some (z95_size 7 aa).symm)
 go_upto_region 2 with ((with_reducible refine wpList_id ?_); refine wpList_store_mid rfl 95 (.tmp 3) (.tmp 10) rfl (w.heap.size + 1) 0 (z95 Tryz.zeroCells95 7 aa) rfl rfl (there_new2 _ _ _ _ _ (zero95_size.trans (z95_size 7 aa).symm)) HTI.out HTO.out ?_)
 clear HTO HTI f0 f1 f2 f3 f4 f5 f6 f7 f8 fz
 generalize hW : (w.alloc (.cells _ 95)).alloc (.cells _ 95) = wa
 obtain ⟨hz, r0, r1, kW, sW⟩ := two_boxes hW
 have Ka := kW br
 have Xa := sW br s c m HX.out
 have za : w.heap.size + 2 = wa.heap.size := hz.symm
 obtain ⟨cR_a, LR_a⟩ : ∃ cs, Hid (Lb wa (w.heap.size) 65 95 cs) := ⟨_, ⟨r0, zero95_size, zero95_one'⟩⟩
 obtain ⟨cB_a, LB_a⟩ : ∃ cs, Hid (Lb wa (w.heap.size + 1) 65 95 cs) := ⟨_, ⟨r1, zero95_size, zero95_one'⟩⟩
 clear hW kW sW r0 r1 hz HX
 obtain ⟨z, HZE⟩ : ∃ z, Hid (z = z95 Tryz.zeroCells95 7 aa) := ⟨_, rfl⟩
 have HSZ0 : Hid ((z95 Tryz.zeroCells95 7 aa).size = 65) := z95_size 7 aa
 have HON0 : Hid (∀ v ∈ (z95 Tryz.zeroCells95 7 aa).toList, v.oneCell' = true) := z95_one 7 aa
 generalize hS : wa.setCells (w.heap.size + 1) 0 _ = w0
 try rw [← z95_list] at hS
 replace hS : setFrom wa (w.heap.size + 1) 0 (z95 Tryz.zeroCells95 7 aa).toList = w0 := (setCells_from _ _ _ _).symm.trans hS
 obtain ⟨hr, zz, oo, kk, xx⟩ := lb_copy hS LB_a.out HSZ0.out
 have z0 : wa.heap.size ≤ w0.heap.size := by omega
 have K0 : Hid (Kq br w w0) := kk br w Ka.out (by omega)
 have X0 : Hid (Sx br s w0 c m) := xx br s c m Xa.out (by omega)
 have LB_0 : Hid (Lb w0 (w.heap.size + 1) 65 95 (z95 Tryz.zeroCells95 7 aa)) := ⟨hr, HSZ0.out, HON0.out⟩
 clear LB_a Xa Ka
 have LR_0 := vE (oo _ (by omega)) LR_a
 clear LR_a
 clear hS hr zz oo kk xx
 have HB0_0 := hI (z95_0 7 aa)
 have HB57_0 := hI (z95_of 7 aa zero95_h57 (by decide))
 clear HSZ0 HON0 z HZE
 go_wp2_with fail
 refine (name_any X0.out).mono ?_
 rintro e w1 ⟨nm1, rfl, hnm1, hk, c1, m1, hx, ha⟩
 have z1 : w0.heap.size ≤ w1.heap.size := hk.size
 have KK := hI hk
 have K1 : Hid (Kq br w w1) := K0.out.trans hk
 have X1 := hI hx
 have A1 := hI ha
 clear hk hx ha
 have LR_1 := vK KK LR_0 (by omega)
 have LB_1 := vK KK LB_0 (by omega)
 clear LR_0 LB_0
 clear KK
 obtain ⟨vvB3, hvB3⟩ := LB_1.out.some 3 (by decide)
 obtain ⟨pcB3, pfB3⟩ := LB_1.out.cell hvB3
 clear hvB3
 go_wp2_with fail
 generalize hS : w1.setCell ⟨w.heap.size + 1, 3, none⟩ _ = w2
 clear pcB3 pfB3
 replace hS : setFrom w1 (w.heap.size + 1) 3 [.string nm1] = w2 := hS
 obtain ⟨cB_2, bb, hh, ap, zz, oo, kk, xx⟩ := lb_set hS LB_1.out (by simp only [lnC, lnN]; omega) (one_list rfl)
 have z2 : w1.heap.size ≤ w2.heap.size := by omega
 have K2 : Hid (Kq br w w2) := kk br w K1.out (by omega)
 have X2 : Hid (Sx br s w2 c1 m1) := xx br s c1 m1 X1.out (by omega)
 have LB_2 := hI bb
 have HB0_2 := hI (ap 0 [.int .i64 7] HB0_0.out (by simp only [lnC, lnN]; omega))
 have HB57_2 := hI (ap 57 [.slice none 0 0] HB57_0.out (by simp only [lnC, lnN]; omega))
 have HB3_2 : Hid (Has cB_2 3 [.string nm1]) := hh
 clear LB_1 X1 K1 HB0_0 HB57_0
 have LR_2 := vE (oo _ (by omega)) LR_1
 clear LR_1
 clear hS bb hh ap zz oo kk xx
 refine accept_alt X2.out _ ?_ ?_
 ·intro hc0 m3 w3 hm3 hk hx
  subst hc0
  have z3 : w2.heap.size ≤ w3.heap.size := hk.size
  have KK := hI hk
  have K3 : Hid (Kq br w w3) := K2.out.trans hk
  have X3 := hI hx
  clear hk hx X2 K2
  have LR_3 := vK KK LR_2 (by omega)
  have LB_3 := vK KK LB_2 (by omega)
  clear LR_2 LB_2
  clear KK
  go_wp2_with fail
  refine (binds_any true br s 0 m3 w3 X3.out).mono ?_
  rintro e w4 ⟨sa4, sl4, sc4, rfl, hk, c4, m4, hx, ha, hp⟩
  have z4 : w3.heap.size ≤ w4.heap.size := hk.size
  have KK := hI hk
  have K4 : Hid (Kq br w w4) := K3.out.trans hk
  have X4 := hI hx
  have A4 := hI ha
  have P4_4 := hI (rw_born hp)
  clear hk hx ha hp
  have LR_4 := vK KK LR_3 (by omega)
  have LB_4 := vK KK LB_3 (by omega)
  clear LR_3 LB_3
  clear KK
  obtain ⟨pcB57, pfB57⟩ := LB_4.out.cell HB57_2.out.head
  go_wp2_with fail
  generalize hS : w4.setCell ⟨w.heap.size + 1, 57, none⟩ _ = w5
  clear pcB57 pfB57
  replace hS : setFrom w4 (w.heap.size + 1) 57 [.slice sa4 sl4 sc4] = w5 := hS
  obtain ⟨cB_5, bb, hh, ap, zz, oo, kk, xx⟩ := lb_set hS LB_4.out (by simp only [lnC, lnN]; omega) (one_list rfl)
  have z5 : w4.heap.size ≤ w5.heap.size := by omega
  have K5 : Hid (Kq br w w5) := kk br w K4.out (by omega)
  have X5 : Hid (Sx br s w5 c4 m4) := xx br s c4 m4 X4.out (by omega)
  have LB_5 := hI bb
  have HB0_5 := hI (ap 0 [.int .i64 7] HB0_2.out (by simp only [lnC, lnN]; omega))
  have HB3_5 := hI (ap 3 [.string nm1] HB3_2.out (by simp only [lnC, lnN]; omega))
  have HB57_5 : Hid (Has cB_5 57 [.slice sa4 sl4 sc4]) := hh
  clear LB_4 X4 K4 HB0_2 HB57_2 HB3_2
  have LR_5 := vE (oo _ (by omega)) LR_4
  clear LR_4
  have P4_5 := hI (rw_to P4_4.out (fun k o hb h => (oo k (by omega)).trans h))
  clear P4_4
  clear hS bb hh ap zz oo kk xx
  go_wp2_with fail
  refine (name_any X5.out).mono ?_
  rintro e w6 ⟨nm6, rfl, hnm6, hk, c6, m6, hx, ha⟩
  have z6 : w5.heap.size ≤ w6.heap.size := hk.size
  have KK := hI hk
  have K6 : Hid (Kq br w w6) := K5.out.trans hk
  have X6 := hI hx
  have A6 := hI ha
  clear hk hx ha
  have LR_6 := vK KK LR_5 (by omega)
  have LB_6 := vK KK LB_5 (by omega)
  clear LR_5 LB_5
  have P4_6 := hI (rw_to P4_5.out (fun k o hb h => KK.out.get (by omega) h))
  clear P4_5
  clear KK
  obtain ⟨vvB2, hvB2⟩ := LB_6.out.some 2 (by decide)
  obtain ⟨pcB2, pfB2⟩ := LB_6.out.cell hvB2
  clear hvB2
  go_wp2_with fail
  generalize hS : w6.setCell ⟨w.heap.size + 1, 2, none⟩ _ = w7
  clear pcB2 pfB2
  replace hS : setFrom w6 (w.heap.size + 1) 2 [.string nm6] = w7 := hS
  obtain ⟨cB_7, bb, hh, ap, zz, oo, kk, xx⟩ := lb_set hS LB_6.out (by simp only [lnC, lnN]; omega) (one_list rfl)
  have z7 : w6.heap.size ≤ w7.heap.size := by omega
  have K7 : Hid (Kq br w w7) := kk br w K6.out (by omega)
  have X7 : Hid (Sx br s w7 c6 m6) := xx br s c6 m6 X6.out (by omega)
  have LB_7 := hI bb
  have HB0_7 := hI (ap 0 [.int .i64 7] HB0_5.out (by simp only [lnC, lnN]; omega))
  have HB3_7 := hI (ap 3 [.string nm1] HB3_5.out (by simp only [lnC, lnN]; omega))
  have HB57_7 := hI (ap 57 [.slice sa4 sl4 sc4] HB57_5.out (by simp only [lnC, lnN]; omega))
  have HB2_7 : Hid (Has cB_7 2 [.string nm6]) := hh
  clear LB_6 X6 K6 HB0_5 HB3_5 HB57_5
  have LR_7 := vE (oo _ (by omega)) LR_6
  clear LR_6
  have P4_7 := hI (rw_to P4_6.out (fun k o hb h => (oo k (by omega)).trans h))
  clear P4_6
  clear hS bb hh ap zz oo kk xx
  refine (binds_any false br s c6 m6 w7 X7.out).mono ?_
  rintro e w8 ⟨sa8, sl8, sc8, rfl, hk, c8, m8, hx, ha, hp⟩
  have z8 : w7.heap.size ≤ w8.heap.size := hk.size
  have KK := hI hk
  have K8 : Hid (Kq br w w8) := K7.out.trans hk
  have X8 := hI hx
  have A8 := hI ha
  have P8_8 := hI (rw_born hp)
  clear hk hx ha hp
  have LR_8 := vK KK LR_7 (by omega)
  have LB_8 := vK KK LB_7 (by omega)
  clear LR_7 LB_7
  have P4_8 := hI (rw_to P4_7.out (fun k o hb h => KK.out.get (by omega) h))
  clear P4_7
  clear KK
  obtain ⟨vvB58, hvB58⟩ := LB_8.out.some 58 (by decide)
  obtain ⟨pcB58, pfB58⟩ := LB_8.out.cell hvB58
  clear hvB58
  go_wp2_with fail
  generalize hS : w8.setCell ⟨w.heap.size + 1, 58, none⟩ _ = w9
  clear pcB58 pfB58
  replace hS : setFrom w8 (w.heap.size + 1) 58 [.slice sa8 sl8 sc8] = w9 := hS
  obtain ⟨cB_9, bb, hh, ap, zz, oo, kk, xx⟩ := lb_set hS LB_8.out (by simp only [lnC, lnN]; omega) (one_list rfl)
  have z9 : w8.heap.size ≤ w9.heap.size := by omega
  have K9 : Hid (Kq br w w9) := kk br w K8.out (by omega)
  have X9 : Hid (Sx br s w9 c8 m8) := xx br s c8 m8 X8.out (by omega)
  have LB_9 := hI bb
  have HB0_9 := hI (ap 0 [.int .i64 7] HB0_7.out (by simp only [lnC, lnN]; omega))
  have HB3_9 := hI (ap 3 [.string nm1] HB3_7.out (by simp only [lnC, lnN]; omega))
  have HB57_9 := hI (ap 57 [.slice sa4 sl4 sc4] HB57_7.out (by simp only [lnC, lnN]; omega))
  have HB2_9 := hI (ap 2 [.string nm6] HB2_7.out (by simp only [lnC, lnN]; omega))
  have HB58_9 : Hid (Has cB_9 58 [.slice sa8 sl8 sc8]) := hh
  clear LB_8 X8 K8 HB0_7 HB3_7 HB57_7 HB2_7
  have LR_9 := vE (oo _ (by omega)) LR_8
  clear LR_8
  have P4_9 := hI (rw_to P4_8.out (fun k o hb h => (oo k (by omega)).trans h))
  have P8_9 := hI (rw_to P8_8.out (fun k o hb h => (oo k (by omega)).trans h))
  clear P4_8 P8_8
  clear hS bb hh ap zz oo kk xx
  refine (must_any X9.out _).mono ?_
  rintro e w10 ⟨rfl, hk, c10, m10, hx, ha⟩
  have z10 : w9.heap.size ≤ w10.heap.size := hk.size
  have KK := hI hk
  have K10 : Hid (Kq br w w10) := K9.out.trans hk
  have X10 := hI hx
  have A10 := hI ha
  clear hk hx ha
  have LR_10 := vK KK LR_9 (by omega)
  have LB_10 := vK KK LB_9 (by omega)
  clear LR_9 LB_9
  have P4_10 := hI (rw_to P4_9.out (fun k o hb h => KK.out.get (by omega) h))
  have P8_10 := hI (rw_to P8_9.out (fun k o hb h => KK.out.get (by omega) h))
  clear P4_9 P8_9
  clear KK
  have hcz : cB_9.size = 65 := LB_10.out.size
  go_wp2_with (first | (refine wpList_load_mid rfl 95 (.tmp 3) rfl (w.heap.size + 1) 0 rfl cB_9.toList _ LB_10.out.whole Tryz.underlying95 rfl (info95.trans (congrArg some (by rw [Array.length_toList, hcz]))) ?_) | (refine wpList_store_mid rfl 95 (.tmp 2) (.tmp 28) rfl (w.heap.size) 0 cB_9 rfl rfl (LR_10.out.there 0 _ (by rw [hcz]; decide)) (info95.trans (congrArg some hcz.symm)) LB_10.out.all ?_))
  generalize hS : w10.setCells (w.heap.size) 0 _ = w11
  replace hS : setFrom w10 (w.heap.size) 0 cB_9.toList = w11 := (setCells_from _ _ _ _).symm.trans hS
  obtain ⟨hr, zz, oo, kk, xx⟩ := lb_copy hS LR_10.out hcz
  have z11 : w10.heap.size ≤ w11.heap.size := by omega
  have K11 : Hid (Kq br w w11) := kk br w K10.out (by omega)
  have X11 : Hid (Sx br s w11 c10 m10) := xx br s c10 m10 X10.out (by omega)
  have LB_11 := vE (oo _ (by omega)) LB_10
  clear LB_10
  have P4_11 := hI (rw_to P4_10.out (fun k o hb h => (oo k (by omega)).trans h))
  have P8_11 := hI (rw_to P8_10.out (fun k o hb h => (oo k (by omega)).trans h))
  clear P4_10 P8_10
  refine bodyPost_ret (v := .agg cB_9) (results_cell_row (Tryz.results60) _ _ (w.heap.size) 95 cB_9 _ _ rfl hr Tryz.underlying95 rfl (info95.trans (congrArg some hcz.symm))) rfl ?_
  refine ⟨_, rfl, hcz, LB_11.out.one, K11.out, c10, m10, X11.out, Adv.trans (A1.out) (Adv.trans (⟨Nat.le_of_lt hm3, fun _ => ⟨rfl, hm3⟩⟩) (Adv.trans (A4.out) (Adv.trans (A6.out) (Adv.trans (A8.out) (A10.out))))), fun hc => ?_⟩
  obtain ⟨hc8, hm10⟩ := A10.out.2 hc
  obtain ⟨hc6, hm8⟩ := A8.out.2 hc8
  obtain ⟨hc4, hm6⟩ := A6.out.2 hc6
  obtain ⟨_, hm4⟩ := A4.out.2 hc4
  obtain ⟨_, hm1⟩ := A1.out.2 rfl
  obtain ⟨qs, hq, hlq⟩ := P8_11.out hc8
  have rq := (hq.sub (S' := fun b => w.heap.size ≤ b) fun b hb => by show _ ≤ _; omega).row
  obtain ⟨ps, hp, hlp⟩ := P4_11.out hc4
  have rp := (hp.sub (S' := fun b => w.heap.size ≤ b) fun b hb => by show _ ≤ _; omega).row
  refine ⟨_, PI.use _ LB_11.out.big nm1.data.toList nm6.data.toList _ _ ps qs HB0_9.out.l (by rw [bs_of]; exact HB2_9.out.l) (by rw [bs_of]; exact HB3_9.out.l) HB57_9.out.l HB58_9.out.l rp.1 rp.2 rq.1 rq.2, ?_⟩
  refine Nat.le_trans (useTxt_len _ _ _ _) ?_
  rw [len_of, len_of]
  omega
 go_wp2_with fail
 refine (name_any X2.out).mono ?_
 rintro e w6 ⟨nm6, rfl, hnm6, hk, c6, m6, hx, ha⟩
 have z6 : w2.heap.size ≤ w6.heap.size := hk.size
 have KK := hI hk
 have K6 : Hid (Kq br w w6) := K2.out.trans hk
 have X6 := hI hx
 have A6 := hI ha
 clear hk hx ha
 have LR_6 := vK KK LR_2 (by omega)
 have LB_6 := vK KK LB_2 (by omega)
 clear LR_2 LB_2
 clear KK
 obtain ⟨vvB2, hvB2⟩ := LB_6.out.some 2 (by decide)
 obtain ⟨pcB2, pfB2⟩ := LB_6.out.cell hvB2
 clear hvB2
 go_wp2_with fail
 generalize hS : w6.setCell ⟨w.heap.size + 1, 2, none⟩ _ = w7
 clear pcB2 pfB2
 replace hS : setFrom w6 (w.heap.size + 1) 2 [.string nm6] = w7 := hS
 obtain ⟨cB_7, bb, hh, ap, zz, oo, kk, xx⟩ := lb_set hS LB_6.out (by simp only [lnC, lnN]; omega) (one_list rfl)
 have z7 : w6.heap.size ≤ w7.heap.size := by omega
 have K7 : Hid (Kq br w w7) := kk br w K6.out (by omega)
 have X7 : Hid (Sx br s w7 c6 m6) := xx br s c6 m6 X6.out (by omega)
 have LB_7 := hI bb
 have HB0_7 := hI (ap 0 [.int .i64 7] HB0_2.out (by simp only [lnC, lnN]; omega))
 have HB57_7 := hI (ap 57 [.slice none 0 0] HB57_2.out (by simp only [lnC, lnN]; omega))
 have HB3_7 := hI (ap 3 [.string nm1] HB3_2.out (by simp only [lnC, lnN]; omega))
 have HB2_7 : Hid (Has cB_7 2 [.string nm6]) := hh
 clear LB_6 X6 K6 HB0_2 HB57_2 HB3_2
 have LR_7 := vE (oo _ (by omega)) LR_6
 clear LR_6
 clear hS bb hh ap zz oo kk xx
 refine (binds_any false br s c6 m6 w7 X7.out).mono ?_
 rintro e w8 ⟨sa8, sl8, sc8, rfl, hk, c8, m8, hx, ha, hp⟩
 have z8 : w7.heap.size ≤ w8.heap.size := hk.size
 have KK := hI hk
 have K8 : Hid (Kq br w w8) := K7.out.trans hk
 have X8 := hI hx
 have A8 := hI ha
 have P8_8 := hI (rw_born hp)
 clear hk hx ha hp
 have LR_8 := vK KK LR_7 (by omega)
 have LB_8 := vK KK LB_7 (by omega)
 clear LR_7 LB_7
 clear KK
 obtain ⟨vvB58, hvB58⟩ := LB_8.out.some 58 (by decide)
 obtain ⟨pcB58, pfB58⟩ := LB_8.out.cell hvB58
 clear hvB58
 go_wp2_with fail
 generalize hS : w8.setCell ⟨w.heap.size + 1, 58, none⟩ _ = w9
 clear pcB58 pfB58
 replace hS : setFrom w8 (w.heap.size + 1) 58 [.slice sa8 sl8 sc8] = w9 := hS
 obtain ⟨cB_9, bb, hh, ap, zz, oo, kk, xx⟩ := lb_set hS LB_8.out (by simp only [lnC, lnN]; omega) (one_list rfl)
 have z9 : w8.heap.size ≤ w9.heap.size := by omega
 have K9 : Hid (Kq br w w9) := kk br w K8.out (by omega)
 have X9 : Hid (Sx br s w9 c8 m8) := xx br s c8 m8 X8.out (by omega)
 have LB_9 := hI bb
 have HB0_9 := hI (ap 0 [.int .i64 7] HB0_7.out (by simp only [lnC, lnN]; omega))
 have HB57_9 := hI (ap 57 [.slice none 0 0] HB57_7.out (by simp only [lnC, lnN]; omega))
 have HB3_9 := hI (ap 3 [.string nm1] HB3_7.out (by simp only [lnC, lnN]; omega))
 have HB2_9 := hI (ap 2 [.string nm6] HB2_7.out (by simp only [lnC, lnN]; omega))
 have HB58_9 : Hid (Has cB_9 58 [.slice sa8 sl8 sc8]) := hh
 clear LB_8 X8 K8 HB0_7 HB57_7 HB3_7 HB2_7
 have LR_9 := vE (oo _ (by omega)) LR_8
 clear LR_8
 have P8_9 := hI (rw_to P8_8.out (fun k o hb h => (oo k (by omega)).trans h))
 clear P8_8
 clear hS bb hh ap zz oo kk xx
 refine (must_any X9.out _).mono ?_
 rintro e w10 ⟨rfl, hk, c10, m10, hx, ha⟩
 have z10 : w9.heap.size ≤ w10.heap.size := hk.size
 have KK := hI hk
 have K10 : Hid (Kq br w w10) := K9.out.trans hk
 have X10 := hI hx
 have A10 := hI ha
 clear hk hx ha
 have LR_10 := vK KK LR_9 (by omega)
 have LB_10 := vK KK LB_9 (by omega)
 clear LR_9 LB_9
 have P8_10 := hI (rw_to P8_9.out (fun k o hb h => KK.out.get (by omega) h))
 clear P8_9
 clear KK
 have hcz : cB_9.size = 65 := LB_10.out.size
 go_wp2_with (first | (refine wpList_load_mid rfl 95 (.tmp 3) rfl (w.heap.size + 1) 0 rfl cB_9.toList _ LB_10.out.whole Tryz.underlying95 rfl (info95.trans (congrArg some (by rw [Array.length_toList, hcz]))) ?_) | (refine wpList_store_mid rfl 95 (.tmp 2) (.tmp 28) rfl (w.heap.size) 0 cB_9 rfl rfl (LR_10.out.there 0 _ (by rw [hcz]; decide)) (info95.trans (congrArg some hcz.symm)) LB_10.out.all ?_))
 generalize hS : w10.setCells (w.heap.size) 0 _ = w11
 replace hS : setFrom w10 (w.heap.size) 0 cB_9.toList = w11 := (setCells_from _ _ _ _).symm.trans hS
 obtain ⟨hr, zz, oo, kk, xx⟩ := lb_copy hS LR_10.out hcz
 have z11 : w10.heap.size ≤ w11.heap.size := by omega
 have K11 : Hid (Kq br w w11) := kk br w K10.out (by omega)
 have X11 : Hid (Sx br s w11 c10 m10) := xx br s c10 m10 X10.out (by omega)
 have LB_11 := vE (oo _ (by omega)) LB_10
 clear LB_10
 have P8_11 := hI (rw_to P8_10.out (fun k o hb h => (oo k (by omega)).trans h))
 clear P8_10
 refine bodyPost_ret (v := .agg cB_9) (results_cell_row (Tryz.results60) _ _ (w.heap.size) 95 cB_9 _ _ rfl hr Tryz.underlying95 rfl (info95.trans (congrArg some hcz.symm))) rfl ?_
 refine ⟨_, rfl, hcz, LB_11.out.one, K11.out, c10, m10, X11.out, Adv.trans (A1.out) (Adv.trans (A6.out) (Adv.trans (A8.out) (A10.out))), fun hc => ?_⟩
 obtain ⟨hc8, hm10⟩ := A10.out.2 hc
 obtain ⟨hc6, hm8⟩ := A8.out.2 hc8
 obtain ⟨hc4, hm6⟩ := A6.out.2 hc6
 obtain ⟨_, hm1⟩ := A1.out.2 hc4
 obtain ⟨qs, hq, hlq⟩ := P8_11.out hc8
 have rq := (hq.sub (S' := fun b => w.heap.size ≤ b) fun b hb => by show _ ≤ _; omega).row
 refine ⟨_, PI.use _ LB_11.out.big nm1.data.toList nm6.data.toList _ _ [] qs HB0_9.out.l (by rw [bs_of]; exact HB2_9.out.l) (by rw [bs_of]; exact HB3_9.out.l) HB57_9.out.l HB58_9.out.l row_nil (fun d hd => by cases hd) rq.1 rq.2, ?_⟩
 refine Nat.le_trans (useTxt_len _ _ _ _) ?_
 rw [len_of, len_of]
 simp only [List.map_nil, commaTxt, lnN]
 omega
def RyPost (br : Nat) (s : ByteArray) (m : Nat) (w : World) (e : Ending) (w' : World) : Prop :=
 ∃ cs : Array Value, e = .returned (.agg cs) ∧ cs.size = 15 ∧ (∀ v ∈ cs.toList, v.oneCell' = true) ∧ Kq br w w' ∧ ∃ (c' : Int) (m' : Nat), Sx br s w' c' m' ∧ Adv 0 m c' m' ∧
  (c' = 0 → ∃ (k1 k2 : Int) (c1 c2 : List Value) (t1 t2 : List UInt8), cs.toList = .bool true :: (c1 ++ c2) ∧ PE (fun b => w.heap.size ≤ b) w' k1 c1 t1 ∧ PE (fun b => w.heap.size ≤ b) w' k2 c2 t2 ∧ t1.length + t2.length + 4 ≤ 64 * (m - m'))
theorem span_yes (br : Nat) (s : ByteArray) (m : Nat) (w : World) (wd n : Int) (T : ByteArray) (h : St br s w 0 m 3 wd n T) (hT : (T.toList == (⟨#[91]⟩ : ByteArray).toList) = true) :
  Calls Tryz.prog 40 #[.pointer (some ⟨br, 0, none⟩)] w (RyPost br s m w) := by
 have HS := hI h
 have HT := hI hT
 have hlt := h.lt
 clear h hT
 go_enter Tryz.func40, Tryz.ntmps40
 go_wp2_with fail
 generalize hW : w.alloc (.cells _ 60) = wa
 obtain ⟨zz, bb, oo, kk⟩ := one_box hW
 have Ka := kk br
 have HSa : Hid (St br s wa 0 m 3 wd n T) := HS.out.to (oo br hlt)
 have Xa : Hid (Sx br s wa 0 m) := HSa.out.sx
 have za : w.heap.size + 1 = wa.heap.size := zz.symm
 obtain ⟨cR_a, LR_a⟩ : ∃ cs, Hid (Lb wa (w.heap.size) 15 60 cs) := ⟨_, ⟨bb, rfl, one_of rfl⟩⟩
 clear hW oo kk bb HS zz
 refine (accept_yes HSa.out _ HT.out).mono ?_
 rintro e w1 ⟨rfl, hk, m1, hm1, hx⟩
 have z1 : wa.heap.size ≤ w1.heap.size := hk.size
 have KK := hI hk
 have K1 : Hid (Kq br w w1) := Ka.out.trans hk
 have X1 := hI hx
 clear hk hx
 have LR_1 := vK KK LR_a (by omega)
 clear LR_a
 clear KK
 clear HSa HT
 have HTO : Hid ((#[.bool true, .int .i64 0, .int .i64 0, .int .i64 0, .int .i64 0, .int .u64 0, .string ⟨#[]⟩, .slice none 0 0, .int .i64 0, .int .i64 0, .int .i64 0, .int .i64 0, .int .u64 0, .string ⟨#[]⟩, .slice none 0 0] : Array Value).all (·.oneCell') = true) := arr_one rfl
 go_upto_region 5 with ((with_reducible refine wpList_id ?_); refine wpList_store_mid rfl 60 (.tmp 4) (.tmp 10) rfl w1.heap.size 0 #[.bool true, .int .i64 0, .int .i64 0, .int .i64 0, .int .i64 0, .int .u64 0, .string ⟨#[]⟩, .slice none 0 0, .int .i64 0, .int .i64 0, .int .i64 0, .int .i64 0, .int .u64 0, .string ⟨#[]⟩, .slice none 0 0] rfl rfl (there_new1 _ _ _ _ rfl) info60s HTO.out ?_)
 generalize hWW : w1.alloc (.cells _ 60) = w2
 clear HTO
 obtain ⟨zz, bb, oo, kk⟩ := one_box hWW
 have z2 : w1.heap.size < w2.heap.size := by omega
 have K2 : Hid (Kq br w w2) := K1.out.trans (kk br).out
 have X2 : Hid (Sx br s w2 0 m1) := X1.out.to (oo br X1.out.lt)
 clear X1 K1
 have LR_2 := hI (LR_1.out.via (fun e => (oo _ (heap_lt (hI e).out)).trans (hI e).out))
 clear LR_1
 obtain ⟨cB_2, LB_2⟩ : ∃ cs, Hid (Lb w2 (w1.heap.size) 15 60 cs) := ⟨_, ⟨bb, rfl, one_of rfl⟩⟩
 clear hWW zz oo kk bb
 generalize hS : w2.setCells (w1.heap.size) 0 _ = w3
 replace hS : setFrom w2 (w1.heap.size) 0 [.bool true, .int .i64 0, .int .i64 0, .int .i64 0, .int .i64 0, .int .u64 0, .string ⟨#[]⟩, .slice none 0 0, .int .i64 0, .int .i64 0, .int .i64 0, .int .i64 0, .int .u64 0, .string ⟨#[]⟩, .slice none 0 0] = w3 := (setCells_from _ _ _ _).symm.trans hS
 obtain ⟨cB_3, bb, hh, ap, zz, oo, kk, xx⟩ := lb_set hS LB_2.out (by simp only [lnC, lnN]; omega) (one_list rfl)
 have z3 : w2.heap.size ≤ w3.heap.size := by omega
 have K3 : Hid (Kq br w w3) := kk br w K2.out (by omega)
 have X3 : Hid (Sx br s w3 0 m1) := xx br s 0 m1 X2.out (by omega)
 have LB_3 := hI bb
 have HB0_3 : Hid (Has cB_3 0 [.bool true, .int .i64 0, .int .i64 0, .int .i64 0, .int .i64 0, .int .u64 0, .string ⟨#[]⟩, .slice none 0 0, .int .i64 0, .int .i64 0, .int .i64 0, .int .i64 0, .int .u64 0, .string ⟨#[]⟩, .slice none 0 0]) := hh
 clear LB_2 X2 K2
 have LR_3 := vE (oo _ (by omega)) LR_2
 clear LR_2
 clear hS bb hh ap zz oo kk xx
 have hsp := HB0_3.out
 clear HB0_3
 replace hsp : Has cB_3 0 ([.bool true] ++ [.int .i64 0, .int .i64 0, .int .i64 0, .int .i64 0, .int .u64 0, .string ⟨#[]⟩, .slice none 0 0, .int .i64 0, .int .i64 0, .int .i64 0, .int .i64 0, .int .u64 0, .string ⟨#[]⟩, .slice none 0 0]) := hsp
 obtain ⟨h1, hsp⟩ := hsp.sub
 have HB0_3s := hI h1
 clear h1
 replace hsp : Has cB_3 1 ([.int .i64 0, .int .i64 0, .int .i64 0, .int .i64 0, .int .u64 0, .string ⟨#[]⟩, .slice none 0 0] ++ [.int .i64 0, .int .i64 0, .int .i64 0, .int .i64 0, .int .u64 0, .string ⟨#[]⟩, .slice none 0 0]) := hsp
 obtain ⟨h1, hsp⟩ := hsp.sub
 have HB1_3s := hI h1
 clear h1
 have HB8_3s : Hid (Has cB_3 8 [.int .i64 0, .int .i64 0, .int .i64 0, .int .i64 0, .int .u64 0, .string ⟨#[]⟩, .slice none 0 0]) := hsp
 clear hsp
 go_wp2_with fail
 refine (expr_read X3.out).mono ?_
 rintro e w4 ⟨k4, a4, op4, wd4, n4, nm4, sa4, sl4, sc4, rfl, hk, c4, m4, hx, ha, hp⟩
 have z4 : w3.heap.size ≤ w4.heap.size := hk.size
 have KK := hI hk
 have K4 : Hid (Kq br w w4) := K3.out.trans hk
 have X4 := hI hx
 have A4 := hI ha
 have P4_4 := hI (pe_born hp)
 clear hk hx ha hp
 have LR_4 := vK KK LR_3 (by omega)
 have LB_4 := vK KK LB_3 (by omega)
 clear LR_3 LB_3
 clear KK
 have HTT : Hid (w4.there (w1.heap.size) 1 (#[.int .i64 k4, .int .i64 a4, .int .i64 op4, .int .i64 wd4, .int .u64 n4, .string nm4, .slice sa4 sl4 sc4] : Array Value).size) := LB_4.out.there 1 7 (by decide)
 have HTI : Hid ((Tryz.prog.info? 55).map (·.size) = some (#[.int .i64 k4, .int .i64 a4, .int .i64 op4, .int .i64 wd4, .int .u64 n4, .string nm4, .slice sa4 sl4 sc4] : Array Value).size) := info55s
 have HTO : Hid ((#[.int .i64 k4, .int .i64 a4, .int .i64 op4, .int .i64 wd4, .int .u64 n4, .string nm4, .slice sa4 sl4 sc4] : Array Value).all (·.oneCell') = true) := arr_one rfl
 go_upto_region 6 with ((with_reducible refine wpList_id ?_); (refine wpList_store_mid rfl 55 (.tmp 13) (.tmp 12) rfl (w1.heap.size) 1 #[.int .i64 k4, .int .i64 a4, .int .i64 op4, .int .i64 wd4, .int .u64 n4, .string nm4, .slice sa4 sl4 sc4] rfl rfl HTT.out HTI.out HTO.out ?_))
 generalize hS : w4.setCells (w1.heap.size) 1 _ = w5
 clear HTT HTI HTO
 replace hS : setFrom w4 (w1.heap.size) 1 [.int .i64 k4, .int .i64 a4, .int .i64 op4, .int .i64 wd4, .int .u64 n4, .string nm4, .slice sa4 sl4 sc4] = w5 := (setCells_from _ _ _ _).symm.trans hS
 obtain ⟨cB_5, bb, hh, ap, zz, oo, kk, xx⟩ := lb_set hS LB_4.out (by simp only [lnC, lnN]; omega) (one_list rfl)
 have z5 : w4.heap.size ≤ w5.heap.size := by omega
 have K5 : Hid (Kq br w w5) := kk br w K4.out (by omega)
 have X5 : Hid (Sx br s w5 c4 m4) := xx br s c4 m4 X4.out (by omega)
 have LB_5 := hI bb
 have HB0_5 := hI (ap 0 [.bool true] HB0_3s.out (by simp only [lnC, lnN]; omega))
 have HB8_5 := hI (ap 8 [.int .i64 0, .int .i64 0, .int .i64 0, .int .i64 0, .int .u64 0, .string ⟨#[]⟩, .slice none 0 0] HB8_3s.out (by simp only [lnC, lnN]; omega))
 have HB1_5 : Hid (Has cB_5 1 [.int .i64 k4, .int .i64 a4, .int .i64 op4, .int .i64 wd4, .int .u64 n4, .string nm4, .slice sa4 sl4 sc4]) := hh
 clear LB_4 X4 K4 HB0_3s HB1_3s HB8_3s
 have LR_5 := vE (oo _ (by omega)) LR_4
 clear LR_4
 have P4_5 := hI (pe_to P4_4.out (fun k o hb h => (oo k (by omega)).trans h))
 clear P4_4
 clear hS bb hh ap zz oo kk xx
 go_wp2_with fail
 refine (must_any X5.out _).mono ?_
 rintro e w6 ⟨rfl, hk, c6, m6, hx, ha⟩
 have z6 : w5.heap.size ≤ w6.heap.size := hk.size
 have KK := hI hk
 have K6 : Hid (Kq br w w6) := K5.out.trans hk
 have X6 := hI hx
 have A6 := hI ha
 clear hk hx ha
 have LR_6 := vK KK LR_5 (by omega)
 have LB_6 := vK KK LB_5 (by omega)
 clear LR_5 LB_5
 have P4_6 := hI (pe_to P4_5.out (fun k o hb h => KK.out.get (by omega) h))
 clear P4_5
 clear KK
 go_wp2_with fail
 refine (expr_read X6.out).mono ?_
 rintro e w7 ⟨k7, a7, op7, wd7, n7, nm7, sa7, sl7, sc7, rfl, hk, c7, m7, hx, ha, hp⟩
 have z7 : w6.heap.size ≤ w7.heap.size := hk.size
 have KK := hI hk
 have K7 : Hid (Kq br w w7) := K6.out.trans hk
 have X7 := hI hx
 have A7 := hI ha
 have P7_7 := hI (pe_born hp)
 clear hk hx ha hp
 have LR_7 := vK KK LR_6 (by omega)
 have LB_7 := vK KK LB_6 (by omega)
 clear LR_6 LB_6
 have P4_7 := hI (pe_to P4_6.out (fun k o hb h => KK.out.get (by omega) h))
 clear P4_6
 clear KK
 have HTT : Hid (w7.there (w1.heap.size) 8 (#[.int .i64 k7, .int .i64 a7, .int .i64 op7, .int .i64 wd7, .int .u64 n7, .string nm7, .slice sa7 sl7 sc7] : Array Value).size) := LB_7.out.there 8 7 (by decide)
 have HTI : Hid ((Tryz.prog.info? 55).map (·.size) = some (#[.int .i64 k7, .int .i64 a7, .int .i64 op7, .int .i64 wd7, .int .u64 n7, .string nm7, .slice sa7 sl7 sc7] : Array Value).size) := info55s
 have HTO : Hid ((#[.int .i64 k7, .int .i64 a7, .int .i64 op7, .int .i64 wd7, .int .u64 n7, .string nm7, .slice sa7 sl7 sc7] : Array Value).all (·.oneCell') = true) := arr_one rfl
 go_upto_region 8 with ((with_reducible refine wpList_id ?_); (refine wpList_store_mid rfl 55 (.tmp 18) (.tmp 17) rfl (w1.heap.size) 8 #[.int .i64 k7, .int .i64 a7, .int .i64 op7, .int .i64 wd7, .int .u64 n7, .string nm7, .slice sa7 sl7 sc7] rfl rfl HTT.out HTI.out HTO.out ?_))
 generalize hS : w7.setCells (w1.heap.size) 8 _ = w8
 clear HTT HTI HTO
 replace hS : setFrom w7 (w1.heap.size) 8 [.int .i64 k7, .int .i64 a7, .int .i64 op7, .int .i64 wd7, .int .u64 n7, .string nm7, .slice sa7 sl7 sc7] = w8 := (setCells_from _ _ _ _).symm.trans hS
 obtain ⟨cB_8, bb, hh, ap, zz, oo, kk, xx⟩ := lb_set hS LB_7.out (by simp only [lnC, lnN]; omega) (one_list rfl)
 have z8 : w7.heap.size ≤ w8.heap.size := by omega
 have K8 : Hid (Kq br w w8) := kk br w K7.out (by omega)
 have X8 : Hid (Sx br s w8 c7 m7) := xx br s c7 m7 X7.out (by omega)
 have LB_8 := hI bb
 have HB0_8 := hI (ap 0 [.bool true] HB0_5.out (by simp only [lnC, lnN]; omega))
 have HB1_8 := hI (ap 1 [.int .i64 k4, .int .i64 a4, .int .i64 op4, .int .i64 wd4, .int .u64 n4, .string nm4, .slice sa4 sl4 sc4] HB1_5.out (by simp only [lnC, lnN]; omega))
 have HB8_8 : Hid (Has cB_8 8 [.int .i64 k7, .int .i64 a7, .int .i64 op7, .int .i64 wd7, .int .u64 n7, .string nm7, .slice sa7 sl7 sc7]) := hh
 clear LB_7 X7 K7 HB0_5 HB8_5 HB1_5
 have LR_8 := vE (oo _ (by omega)) LR_7
 clear LR_7
 have P4_8 := hI (pe_to P4_7.out (fun k o hb h => (oo k (by omega)).trans h))
 have P7_8 := hI (pe_to P7_7.out (fun k o hb h => (oo k (by omega)).trans h))
 clear P4_7 P7_7
 clear hS bb hh ap zz oo kk xx
 go_wp2_with fail
 refine (must_any X8.out _).mono ?_
 rintro e w9 ⟨rfl, hk, c9, m9, hx, ha⟩
 have z9 : w8.heap.size ≤ w9.heap.size := hk.size
 have KK := hI hk
 have K9 : Hid (Kq br w w9) := K8.out.trans hk
 have X9 := hI hx
 have A9 := hI ha
 clear hk hx ha
 have LR_9 := vK KK LR_8 (by omega)
 have LB_9 := vK KK LB_8 (by omega)
 clear LR_8 LB_8
 have P4_9 := hI (pe_to P4_8.out (fun k o hb h => KK.out.get (by omega) h))
 have P7_9 := hI (pe_to P7_8.out (fun k o hb h => KK.out.get (by omega) h))
 clear P4_8 P7_8
 clear KK
 have hcz : cB_8.size = 15 := LB_9.out.size
 go_wp2_with (first | (refine wpList_load_mid rfl 60 (.tmp 4) rfl (w1.heap.size) 0 rfl cB_8.toList _ LB_9.out.whole Tryz.underlying60 rfl (info60s.trans (congrArg some (by rw [Array.length_toList, hcz]))) ?_) | (refine wpList_store_mid rfl 60 (.tmp 2) (.tmp 21) rfl (w.heap.size) 0 cB_8 rfl rfl (LR_9.out.there 0 _ (by rw [hcz]; decide)) (info60s.trans (congrArg some hcz.symm)) LB_9.out.all ?_))
 generalize hS : w9.setCells (w.heap.size) 0 _ = w10
 replace hS : setFrom w9 (w.heap.size) 0 cB_8.toList = w10 := (setCells_from _ _ _ _).symm.trans hS
 obtain ⟨hr, zz, oo, kk, xx⟩ := lb_copy hS LR_9.out hcz
 have z10 : w9.heap.size ≤ w10.heap.size := by omega
 have K10 : Hid (Kq br w w10) := kk br w K9.out (by omega)
 have X10 : Hid (Sx br s w10 c9 m9) := xx br s c9 m9 X9.out (by omega)
 have LB_10 := vE (oo _ (by omega)) LB_9
 clear LB_9
 have P4_10 := hI (pe_to P4_9.out (fun k o hb h => (oo k (by omega)).trans h))
 have P7_10 := hI (pe_to P7_9.out (fun k o hb h => (oo k (by omega)).trans h))
 clear P4_9 P7_9
 refine bodyPost_ret (v := .agg cB_8) (results_cell_row (Tryz.results40) _ _ (w.heap.size) 60 cB_8 _ _ rfl hr Tryz.underlying60 rfl (info60s.trans (congrArg some hcz.symm))) rfl ?_
 refine ⟨_, rfl, hcz, LB_10.out.one, K10.out, c9, m9, X10.out, Adv.trans (⟨Nat.le_of_lt hm1, fun _ => ⟨rfl, hm1⟩⟩) (Adv.trans (A4.out) (Adv.trans (A6.out) (Adv.trans (A7.out) (A9.out)))), fun hc => ?_⟩
 obtain ⟨hc7, hm9⟩ := A9.out.2 hc
 obtain ⟨hc6, hm7⟩ := A7.out.2 hc7
 obtain ⟨hc4, hm6⟩ := A6.out.2 hc6
 obtain ⟨_, hm4⟩ := A4.out.2 hc4
 have he := ((HB0_8.out.app HB1_8.out).app HB8_8.out).eq (by rw [hcz]; rfl)
 obtain ⟨t1, hp1, hl1⟩ := P4_10.out hc4
 obtain ⟨t2, hp2, hl2⟩ := P7_10.out hc7
 refine ⟨k4, k7, [.int .i64 k4, .int .i64 a4, .int .i64 op4, .int .i64 wd4, .int .u64 n4, .string nm4, .slice sa4 sl4 sc4], [.int .i64 k7, .int .i64 a7, .int .i64 op7, .int .i64 wd7, .int .u64 n7, .string nm7, .slice sa7 sl7 sc7], t1, t2, he, hp1.mono (fun b hb => by show _ ≤ _; omega) (fun _ _ _ _ hu => hu), hp2.mono (fun b hb => by show _ ≤ _; omega) (fun _ _ _ _ hu => hu), by omega⟩
end Go.Proofs.YtimmmlnememjiaaGreatDoor
