import Derived.Test.YtimmmlnememjiaaGreatDoorX
import Derived.Test.YtimmmlnememjiaaGreatDoorX24
import Derived.Test.YtimmmlnememjiaaGreatDoorX25
import Derived.Test.YtimmmlnememjiaaGreatDoorX26
set_option maxRecDepth 100000
set_option maxHeartbeats 16000000
namespace Go.Proofs.YtimmmlnememjiaaGreatDoor
open Go.RowKit
theorem single_row {W w' : World} {S : Nat → Prop} {L : Nat} {cs : Array Value} (h : W.alloc (.cells cs 95) = w') (hb : Big cs.toList) (hS : S W.heap.size) (hL : L ≤ W.heap.size) : Rw elR S L w' (.slice (some ⟨W.heap.size, 0, none⟩) 1 1) [cs.toList] := by
 subst h
 refine ⟨⟨?_, .inr ⟨W.heap.size, 1, cs, rfl, hL, heap_alloc_self _ _, Nat.le_refl _, by decide, ?_, ?_⟩⟩, fun g hg => ?_, fun x hx => ?_, fun e => by cases e⟩
 ·have := hb.1; simp [elR] at this ⊢; exact this
 ·have := hb.1; simp [elR] at this ⊢; exact this
 ·have h1 : cs.toList.length = 65 := hb.1
  show cs.toList.take (1 * 65) = [cs.toList].flatMap elR.cells
  rw [List.take_of_length_le (by omega)]; simp [elR]
 ·have : W.heap.size = g := Option.some.inj hg
  rw [← this]; exact hS
 ·rw [List.mem_singleton] at hx; subst hx; exact hb.1
theorem its_single {C : Prop} {W w' : World} {S : Nat → Prop} {L K : Nat} {cs : Array Value} {F : List ItemD → Prop} (h : W.alloc (.cells cs 95) = w') (hb : Big cs.toList) (hS : S W.heap.size) (hL : L ≤ W.heap.size) (hK : 1 ≤ K)
  (hp : C → ∃ t, PI (fun b => S b ∧ b < W.heap.size) W cs.toList t ∧ F [(cs.toList, t)]) : Its C S L w' (.slice (some ⟨W.heap.size, 0, none⟩) 1 1) K F := by
 have hr := single_row (S := S) (L := L) h hb hS hL
 refine ⟨[cs.toList], hr, fun x hx => ?_, by simpa using hK, fun hc => ?_⟩
 ·rw [List.mem_singleton] at hx; subst hx; exact hb.2
 ·obtain ⟨t, h1, h2⟩ := hp hc
  refine ⟨[(cs.toList, t)], hr.join rfl ?_, rfl, h2⟩
  intro x hx
  rw [List.mem_singleton] at hx; subst hx
  have hs : ∀ b, (S b ∧ b < W.heap.size) → (S b ∧ some b ≠ (Value.slice (some ⟨W.heap.size, 0, none⟩) 1 1).ownBlock) := fun b hb => ⟨hb.1, fun e => by
   have : b = W.heap.size := Option.some.inj e
   have := hb.2; omega⟩
  refine h1.mono hs ?_
  intro b o v hb hv
  subst h
  rw [World.cell?_of_block (a := ⟨b, o, none⟩) (Below.heap_alloc _ _ _ hb.2)]; exact hv
theorem ui_born {C : Prop} {lo K : Nat} {w : World} {cs : List Value} (h : C → ∃ t, PI (fun b => lo ≤ b) w cs t ∧ t.length ≤ K) : C → ∃ t, PI (fun b => lo ≤ b ∧ b < w.heap.size) w cs t ∧ t.length ≤ K := fun hc => by
 obtain ⟨t, h1, h2⟩ := h hc; exact ⟨t, h1.strong, h2⟩
theorem ui_to {C : Prop} {S : Nat → Prop} {K : Nat} {w w' : World} {cs : List Value} (h : C → ∃ t, PI S w cs t ∧ t.length ≤ K) (hb : ∀ k o, S k → w.heap[k]? = some o → w'.heap[k]? = some o) : C → ∃ t, PI S w' cs t ∧ t.length ≤ K := fun hc => by
 obtain ⟨t, h1, h2⟩ := h hc; exact ⟨t, elI.moved (x := (cs, t)) h1 hb, h2⟩
theorem item_any (M : Nat) (IP : ∀ M', M' < M → CPart M') : CItem M := by
 intro br s m w h hM
 have HX := hI h
 have hlt := h.lt
 have HI := hI IP
 clear IP
 obtain ⟨kq, wdq, nq, Tq, aa, qq, fa, hr, h'⟩ := h
 obtain ⟨f0, f1, f2, f3, f4, f5, f6, f7, f8, fz⟩ := hr.all
 clear hr h'
 go_enter Tryz.func41, Tryz.ntmps41
 have HTO : Hid ((y95 Tryz.zeroCells95 aa).all (·.oneCell') = true) := arr_all (y95_one aa)
 have HTI : Hid ((Tryz.prog.info? 95).map (·.size) = some (y95 Tryz.zeroCells95 aa).size) := info95.trans (congrArg some (y95_size aa).symm)
 go_upto_region 3 with ((with_reducible refine wpList_id ?_); refine wpList_store_mid rfl 95 (.tmp 3) (.tmp 9) rfl w.heap.size 0 (y95 Tryz.zeroCells95 aa) rfl rfl (there_new1 _ _ _ _ (zero95_size.trans (y95_size aa).symm)) HTI.out HTO.out ?_)
 clear HTO HTI f0 f1 f2 f3 f4 f5 f6 f7 f8 fz
 generalize hW : w.alloc (.cells _ 95) = wa
 obtain ⟨zz, bb, oo, kk⟩ := one_box hW
 have Ka := kk br
 have Xa : Hid (Sx br s wa 0 m) := HX.out.to (oo br hlt)
 have za : w.heap.size + 1 = wa.heap.size := zz.symm
 obtain ⟨cI_a, LI_a⟩ : ∃ cs, Hid (Lb wa (w.heap.size) 65 95 cs) := ⟨_, ⟨bb, zero95_size, zero95_one'⟩⟩
 clear hW oo kk bb HX zz
 have HSZ0 : Hid ((y95 Tryz.zeroCells95 aa).size = 65) := y95_size aa
 have HON0 : Hid (∀ v ∈ (y95 Tryz.zeroCells95 aa).toList, v.oneCell' = true) := y95_one aa
 generalize hS : wa.setCells (w.heap.size) 0 _ = w0
 try rw [← y95_list] at hS
 replace hS : setFrom wa (w.heap.size) 0 (y95 Tryz.zeroCells95 aa).toList = w0 := (setCells_from _ _ _ _).symm.trans hS
 obtain ⟨hr, zz, oo, kk, xx⟩ := lb_copy hS LI_a.out HSZ0.out
 have z0 : wa.heap.size ≤ w0.heap.size := by omega
 have K0 : Hid (Kq br w w0) := kk br w Ka.out (by omega)
 have X0 : Hid (Sx br s w0 0 m) := xx br s 0 m Xa.out (by omega)
 have LI_0 : Hid (Lb w0 (w.heap.size) 65 95 (y95 Tryz.zeroCells95 aa)) := ⟨hr, HSZ0.out, HON0.out⟩
 clear LI_a Xa Ka
 clear hS hr zz oo kk xx
 have HI62_0 := hI (y95_of aa zero95_h62 (Or.inl (by decide)))
 obtain ⟨cI, hcI⟩ : ∃ cI, cI = y95 Tryz.zeroCells95 aa := ⟨_, rfl⟩
 rw [← hcI] at HI62_0 LI_0
 clear hcI HSZ0 HON0
 go_wp2_with fail
 refine accept_alt X0.out _ ?_ ?_
 ·intro _ m1 w1 hm1 hk hx
  have z1 : w0.heap.size ≤ w1.heap.size := hk.size
  have KK := hI hk
  have K1 : Hid (Kq br w w1) := K0.out.trans hk
  have X1 := hI hx
  clear hk hx X0 K0
  have LI_1 := vK KK LI_0 (by omega)
  clear LI_0
  clear KK
  go_wp2_with fail
  refine (nets_wire br s m1 w1 X1.out).mono ?_
  rintro e w2 ⟨sa2, sl2, sc2, rfl, hk, c2, m2, hx, ha, hp⟩
  have z2 : w1.heap.size ≤ w2.heap.size := hk.size
  have KK := hI hk
  have K2 : Hid (Kq br w w2) := K1.out.trans hk
  have X2 := hI hx
  have A2 := hI ha
  have P2_2 := hI (its_born hp)
  clear hk hx ha hp
  have LI_2 := vK KK LI_1 (by omega)
  clear LI_1
  clear KK
  go_wp2_with fail
  go_ret
  have hA2 := A2.out.1
  exact ⟨_, _, _, rfl, K2.out, c2, m2, X2.out, Adv.trans (⟨Nat.le_of_lt hm1, fun _ => ⟨rfl, hm1⟩⟩) (A2.out), P2_2.out.mono (fun h => h) (fun b hb => by show _ ≤ _; omega) (by omega) (by omega) (fun es hc hF => ⟨by omega, by omega⟩)⟩
 go_wp2_with fail
 refine accept_alt X0.out _ ?_ ?_
 ·intro _ m1 w1 hm1 hk hx
  have z1 : w0.heap.size ≤ w1.heap.size := hk.size
  have KK := hI hk
  have K1 : Hid (Kq br w w1) := K0.out.trans hk
  have X1 := hI hx
  clear hk hx X0 K0
  have LI_1 := vK KK LI_0 (by omega)
  clear LI_0
  clear KK
  go_wp2_with fail
  refine (nets_reg br s m1 w1 X1.out).mono ?_
  rintro e w2 ⟨sa2, sl2, sc2, rfl, hk, c2, m2, hx, ha, hp⟩
  have z2 : w1.heap.size ≤ w2.heap.size := hk.size
  have KK := hI hk
  have K2 : Hid (Kq br w w2) := K1.out.trans hk
  have X2 := hI hx
  have A2 := hI ha
  have P2_2 := hI (its_born hp)
  clear hk hx ha hp
  have LI_2 := vK KK LI_1 (by omega)
  clear LI_1
  clear KK
  go_wp2_with fail
  go_ret
  have hA2 := A2.out.1
  exact ⟨_, _, _, rfl, K2.out, c2, m2, X2.out, Adv.trans (⟨Nat.le_of_lt hm1, fun _ => ⟨rfl, hm1⟩⟩) (A2.out), P2_2.out.mono (fun h => h) (fun b hb => by show _ ≤ _; omega) (by omega) (by omega) (fun es hc hF => ⟨by omega, by omega⟩)⟩
 go_wp2_with fail
 refine accept_alt X0.out _ ?_ ?_
 ·intro _ m1 w1 hm1 hk hx
  have z1 : w0.heap.size ≤ w1.heap.size := hk.size
  have KK := hI hk
  have K1 : Hid (Kq br w w1) := K0.out.trans hk
  have X1 := hI hx
  clear hk hx X0 K0
  have LI_1 := vK KK LI_0 (by omega)
  clear LI_0
  clear KK
  obtain ⟨vvI0, hvI0⟩ := LI_1.out.some 0 (by decide)
  obtain ⟨pcI0, pfI0⟩ := LI_1.out.cell hvI0
  clear hvI0
  go_wp2_with fail
  generalize hS : w1.setCell ⟨w.heap.size, 0, none⟩ _ = w2
  clear pcI0 pfI0
  replace hS : setFrom w1 (w.heap.size) 0 [.int .i64 4] = w2 := hS
  obtain ⟨cI_2, bb, hh, ap, zz, oo, kk, xx⟩ := lb_set hS LI_1.out (by simp only [lnC, lnN]; omega) (one_list rfl)
  have z2 : w1.heap.size ≤ w2.heap.size := by omega
  have K2 : Hid (Kq br w w2) := kk br w K1.out (by omega)
  have X2 : Hid (Sx br s w2 0 m1) := xx br s 0 m1 X1.out (by omega)
  have LI_2 := hI bb
  have HI62_2 := hI (ap 62 [.bool false] HI62_0.out (by simp only [lnC, lnN]; omega))
  have HI0_2 : Hid (Has cI_2 0 [.int .i64 4]) := hh
  clear LI_1 X1 K1 HI62_0
  clear hS bb hh ap zz oo kk xx
  refine (name_any X2.out).mono ?_
  rintro e w3 ⟨nm3, rfl, hnm3, hk, c3, m3, hx, ha⟩
  have z3 : w2.heap.size ≤ w3.heap.size := hk.size
  have KK := hI hk
  have K3 : Hid (Kq br w w3) := K2.out.trans hk
  have X3 := hI hx
  have A3 := hI ha
  clear hk hx ha
  have LI_3 := vK KK LI_2 (by omega)
  clear LI_2
  clear KK
  obtain ⟨vvI2, hvI2⟩ := LI_3.out.some 2 (by decide)
  obtain ⟨pcI2, pfI2⟩ := LI_3.out.cell hvI2
  clear hvI2
  go_wp2_with fail
  generalize hS : w3.setCell ⟨w.heap.size, 2, none⟩ _ = w4
  clear pcI2 pfI2
  replace hS : setFrom w3 (w.heap.size) 2 [.string nm3] = w4 := hS
  obtain ⟨cI_4, bb, hh, ap, zz, oo, kk, xx⟩ := lb_set hS LI_3.out (by simp only [lnC, lnN]; omega) (one_list rfl)
  have z4 : w3.heap.size ≤ w4.heap.size := by omega
  have K4 : Hid (Kq br w w4) := kk br w K3.out (by omega)
  have X4 : Hid (Sx br s w4 c3 m3) := xx br s c3 m3 X3.out (by omega)
  have LI_4 := hI bb
  have HI62_4 := hI (ap 62 [.bool false] HI62_2.out (by simp only [lnC, lnN]; omega))
  have HI0_4 := hI (ap 0 [.int .i64 4] HI0_2.out (by simp only [lnC, lnN]; omega))
  have HI2_4 : Hid (Has cI_4 2 [.string nm3]) := hh
  clear LI_3 X3 K3 HI62_2 HI0_2
  clear hS bb hh ap zz oo kk xx
  refine (must_any X4.out _).mono ?_
  rintro e w5 ⟨rfl, hk, c5, m5, hx, ha⟩
  have z5 : w4.heap.size ≤ w5.heap.size := hk.size
  have KK := hI hk
  have K5 : Hid (Kq br w w5) := K4.out.trans hk
  have X5 := hI hx
  have A5 := hI ha
  clear hk hx ha
  have LI_5 := vK KK LI_4 (by omega)
  clear LI_4
  clear KK
  go_wp2_with fail
  refine (expr_read X5.out).mono ?_
  rintro e w6 ⟨k6, a6, op6, wd6, n6, nm6, sa6, sl6, sc6, rfl, hk, c6, m6, hx, ha, hp⟩
  have z6 : w5.heap.size ≤ w6.heap.size := hk.size
  have KK := hI hk
  have K6 : Hid (Kq br w w6) := K5.out.trans hk
  have X6 := hI hx
  have A6 := hI ha
  have P6_6 := hI (pe_born hp)
  clear hk hx ha hp
  have LI_6 := vK KK LI_5 (by omega)
  clear LI_5
  clear KK
  have HTT : Hid (w6.there (w.heap.size) 35 (#[.int .i64 k6, .int .i64 a6, .int .i64 op6, .int .i64 wd6, .int .u64 n6, .string nm6, .slice sa6 sl6 sc6] : Array Value).size) := LI_6.out.there 35 7 (by decide)
  have HTI : Hid ((Tryz.prog.info? 55).map (·.size) = some (#[.int .i64 k6, .int .i64 a6, .int .i64 op6, .int .i64 wd6, .int .u64 n6, .string nm6, .slice sa6 sl6 sc6] : Array Value).size) := info55s
  have HTO : Hid ((#[.int .i64 k6, .int .i64 a6, .int .i64 op6, .int .i64 wd6, .int .u64 n6, .string nm6, .slice sa6 sl6 sc6] : Array Value).all (·.oneCell') = true) := arr_one rfl
  go_upto_region 12 with ((with_reducible refine wpList_id ?_); (refine wpList_store_mid rfl 55 (.tmp 33) (.tmp 32) rfl (w.heap.size) 35 #[.int .i64 k6, .int .i64 a6, .int .i64 op6, .int .i64 wd6, .int .u64 n6, .string nm6, .slice sa6 sl6 sc6] rfl rfl HTT.out HTI.out HTO.out ?_))
  generalize hS : w6.setCells (w.heap.size) 35 _ = w7
  clear HTT HTI HTO
  replace hS : setFrom w6 (w.heap.size) 35 [.int .i64 k6, .int .i64 a6, .int .i64 op6, .int .i64 wd6, .int .u64 n6, .string nm6, .slice sa6 sl6 sc6] = w7 := (setCells_from _ _ _ _).symm.trans hS
  obtain ⟨cI_7, bb, hh, ap, zz, oo, kk, xx⟩ := lb_set hS LI_6.out (by simp only [lnC, lnN]; omega) (one_list rfl)
  have z7 : w6.heap.size ≤ w7.heap.size := by omega
  have K7 : Hid (Kq br w w7) := kk br w K6.out (by omega)
  have X7 : Hid (Sx br s w7 c6 m6) := xx br s c6 m6 X6.out (by omega)
  have LI_7 := hI bb
  have HI62_7 := hI (ap 62 [.bool false] HI62_4.out (by simp only [lnC, lnN]; omega))
  have HI0_7 := hI (ap 0 [.int .i64 4] HI0_4.out (by simp only [lnC, lnN]; omega))
  have HI2_7 := hI (ap 2 [.string nm3] HI2_4.out (by simp only [lnC, lnN]; omega))
  have HI35_7 : Hid (Has cI_7 35 [.int .i64 k6, .int .i64 a6, .int .i64 op6, .int .i64 wd6, .int .u64 n6, .string nm6, .slice sa6 sl6 sc6]) := hh
  clear LI_6 X6 K6 HI62_4 HI0_4 HI2_4
  have P6_7 := hI (pe_to P6_6.out (fun k o hb h => (oo k (by omega)).trans h))
  clear P6_6
  clear hS bb hh ap zz oo kk xx
  go_wp2_with fail
  refine (must_any X7.out _).mono ?_
  rintro e w8 ⟨rfl, hk, c8, m8, hx, ha⟩
  have z8 : w7.heap.size ≤ w8.heap.size := hk.size
  have KK := hI hk
  have K8 : Hid (Kq br w w8) := K7.out.trans hk
  have X8 := hI hx
  have A8 := hI ha
  clear hk hx ha
  have LI_8 := vK KK LI_7 (by omega)
  clear LI_7
  have P6_8 := hI (pe_to P6_7.out (fun k o hb h => KK.out.get (by omega) h))
  clear P6_7
  clear KK
  obtain ⟨i5, hi, hzz, hsz, hby⟩ := info95'
  have HI5 := hI hi
  have HZ5 := hI hzz
  have HS5 := hI hsz
  have HB5 := hI hby
  clear hi hzz hsz hby
  have HSZ5 : Hid (cI_7.size = 65) := LI_8.out.size
  have HIN5 : Hid ((Tryz.prog.info? 95).map (·.size) = some cI_7.toList.length) := by show _ = _; rw [Array.length_toList, HSZ5.out]; exact info95
  have HWH5 : Hid (w8.rangeAt (w.heap.size) 0 cI_7.toList) := LI_8.out.whole
  go_wp2_with ((with_reducible refine wpList_id ?_); first | (refine wpList_load_mid rfl 95 (.tmp 3) rfl (w.heap.size) 0 rfl cI_7.toList _ HWH5.out Tryz.underlying95 rfl HIN5.out ?_) | (refine wpList_build_one rfl 38 (.tmp 116) rfl 95 cI_7 65 rfl Tryz.underlying38 i5 HI5.out _ HZ5.out HS5.out HSZ5.out (by decide) (by decide) ?_))
  go_ret
  have AX : Adv 0 m c8 m8 := Adv.trans (⟨Nat.le_of_lt hm1, fun _ => ⟨rfl, hm1⟩⟩) (Adv.trans (A3.out) (Adv.trans (A5.out) (Adv.trans (A6.out) (A8.out))))
  have hAX := AX.1
  refine ⟨_, _, _, rfl, K8.out.alloc _, c8, m8, X8.out.alloc _, AX, its_single rfl LI_8.out.big (by show w.heap.size ≤ _; omega) (by omega) (by omega) ?_⟩
  intro hc
  obtain ⟨hc6, hm8⟩ := A8.out.2 hc
  obtain ⟨hc5, hm6⟩ := A6.out.2 hc6
  obtain ⟨hc3, hm5⟩ := A5.out.2 hc5
  obtain ⟨_, hm3⟩ := A3.out.2 hc3
  obtain ⟨te, hp, hl⟩ := P6_8.out hc6
  refine ⟨_, PI.param _ LI_8.out.big nm3.data.toList k6 [.int .i64 k6, .int .i64 a6, .int .i64 op6, .int .i64 wd6, .int .u64 n6, .string nm6, .slice sa6 sl6 sc6] te HI0_7.out.l (by rw [bs_of]; exact HI2_7.out.l) HI35_7.out.l (hp.mono (fun b hb => by show _ ∧ _; omega) (fun _ _ _ _ hu => hu)), ?_⟩
  exact ⟨by simp only [lnC, lnN]; omega, by simp only [List.map_cons, List.map_nil, List.flatten_cons, List.flatten_nil, lnA, lnC, lnN, len_of]; omega⟩
 go_wp2_with fail
 refine accept_alt X0.out _ ?_ ?_
 ·intro _ m1 w1 hm1 hk hx
  have z1 : w0.heap.size ≤ w1.heap.size := hk.size
  have KK := hI hk
  have K1 : Hid (Kq br w w1) := K0.out.trans hk
  have X1 := hI hx
  clear hk hx X0 K0
  have LI_1 := vK KK LI_0 (by omega)
  clear LI_0
  clear KK
  obtain ⟨vvI0, hvI0⟩ := LI_1.out.some 0 (by decide)
  obtain ⟨pcI0, pfI0⟩ := LI_1.out.cell hvI0
  clear hvI0
  go_wp2_with fail
  generalize hS : w1.setCell ⟨w.heap.size, 0, none⟩ _ = w2
  clear pcI0 pfI0
  replace hS : setFrom w1 (w.heap.size) 0 [.int .i64 5] = w2 := hS
  obtain ⟨cI_2, bb, hh, ap, zz, oo, kk, xx⟩ := lb_set hS LI_1.out (by simp only [lnC, lnN]; omega) (one_list rfl)
  have z2 : w1.heap.size ≤ w2.heap.size := by omega
  have K2 : Hid (Kq br w w2) := kk br w K1.out (by omega)
  have X2 : Hid (Sx br s w2 0 m1) := xx br s 0 m1 X1.out (by omega)
  have LI_2 := hI bb
  have HI62_2 := hI (ap 62 [.bool false] HI62_0.out (by simp only [lnC, lnN]; omega))
  have HI0_2 : Hid (Has cI_2 0 [.int .i64 5]) := hh
  clear LI_1 X1 K1 HI62_0
  clear hS bb hh ap zz oo kk xx
  refine (target_read X2.out).mono ?_
  rintro e w3 ⟨k3, a3, op3, wd3, n3, nm3, sa3, sl3, sc3, rfl, hk, c3, m3, hx, ha, hp⟩
  have z3 : w2.heap.size ≤ w3.heap.size := hk.size
  have KK := hI hk
  have K3 : Hid (Kq br w w3) := K2.out.trans hk
  have X3 := hI hx
  have A3 := hI ha
  have P3_3 := hI (pe_born hp)
  clear hk hx ha hp
  have LI_3 := vK KK LI_2 (by omega)
  clear LI_2
  clear KK
  have HTT : Hid (w3.there (w.heap.size) 42 (#[.int .i64 k3, .int .i64 a3, .int .i64 op3, .int .i64 wd3, .int .u64 n3, .string nm3, .slice sa3 sl3 sc3] : Array Value).size) := LI_3.out.there 42 7 (by decide)
  have HTI : Hid ((Tryz.prog.info? 55).map (·.size) = some (#[.int .i64 k3, .int .i64 a3, .int .i64 op3, .int .i64 wd3, .int .u64 n3, .string nm3, .slice sa3 sl3 sc3] : Array Value).size) := info55s
  have HTO : Hid ((#[.int .i64 k3, .int .i64 a3, .int .i64 op3, .int .i64 wd3, .int .u64 n3, .string nm3, .slice sa3 sl3 sc3] : Array Value).all (·.oneCell') = true) := arr_one rfl
  go_upto_region 16 with ((with_reducible refine wpList_id ?_); (refine wpList_store_mid rfl 55 (.tmp 42) (.tmp 41) rfl (w.heap.size) 42 #[.int .i64 k3, .int .i64 a3, .int .i64 op3, .int .i64 wd3, .int .u64 n3, .string nm3, .slice sa3 sl3 sc3] rfl rfl HTT.out HTI.out HTO.out ?_))
  generalize hS : w3.setCells (w.heap.size) 42 _ = w4
  clear HTT HTI HTO
  replace hS : setFrom w3 (w.heap.size) 42 [.int .i64 k3, .int .i64 a3, .int .i64 op3, .int .i64 wd3, .int .u64 n3, .string nm3, .slice sa3 sl3 sc3] = w4 := (setCells_from _ _ _ _).symm.trans hS
  obtain ⟨cI_4, bb, hh, ap, zz, oo, kk, xx⟩ := lb_set hS LI_3.out (by simp only [lnC, lnN]; omega) (one_list rfl)
  have z4 : w3.heap.size ≤ w4.heap.size := by omega
  have K4 : Hid (Kq br w w4) := kk br w K3.out (by omega)
  have X4 : Hid (Sx br s w4 c3 m3) := xx br s c3 m3 X3.out (by omega)
  have LI_4 := hI bb
  have HI62_4 := hI (ap 62 [.bool false] HI62_2.out (by simp only [lnC, lnN]; omega))
  have HI0_4 := hI (ap 0 [.int .i64 5] HI0_2.out (by simp only [lnC, lnN]; omega))
  have HI42_4 : Hid (Has cI_4 42 [.int .i64 k3, .int .i64 a3, .int .i64 op3, .int .i64 wd3, .int .u64 n3, .string nm3, .slice sa3 sl3 sc3]) := hh
  clear LI_3 X3 K3 HI62_2 HI0_2
  have P3_4 := hI (pe_to P3_3.out (fun k o hb h => (oo k (by omega)).trans h))
  clear P3_3
  clear hS bb hh ap zz oo kk xx
  go_wp2_with fail
  refine (must_any X4.out _).mono ?_
  rintro e w5 ⟨rfl, hk, c5, m5, hx, ha⟩
  have z5 : w4.heap.size ≤ w5.heap.size := hk.size
  have KK := hI hk
  have K5 : Hid (Kq br w w5) := K4.out.trans hk
  have X5 := hI hx
  have A5 := hI ha
  clear hk hx ha
  have LI_5 := vK KK LI_4 (by omega)
  clear LI_4
  have P3_5 := hI (pe_to P3_4.out (fun k o hb h => KK.out.get (by omega) h))
  clear P3_4
  clear KK
  go_wp2_with fail
  refine (expr_read X5.out).mono ?_
  rintro e w6 ⟨k6, a6, op6, wd6, n6, nm6, sa6, sl6, sc6, rfl, hk, c6, m6, hx, ha, hp⟩
  have z6 : w5.heap.size ≤ w6.heap.size := hk.size
  have KK := hI hk
  have K6 : Hid (Kq br w w6) := K5.out.trans hk
  have X6 := hI hx
  have A6 := hI ha
  have P6_6 := hI (pe_born hp)
  clear hk hx ha hp
  have LI_6 := vK KK LI_5 (by omega)
  clear LI_5
  have P3_6 := hI (pe_to P3_5.out (fun k o hb h => KK.out.get (by omega) h))
  clear P3_5
  clear KK
  have HTT : Hid (w6.there (w.heap.size) 35 (#[.int .i64 k6, .int .i64 a6, .int .i64 op6, .int .i64 wd6, .int .u64 n6, .string nm6, .slice sa6 sl6 sc6] : Array Value).size) := LI_6.out.there 35 7 (by decide)
  have HTI : Hid ((Tryz.prog.info? 55).map (·.size) = some (#[.int .i64 k6, .int .i64 a6, .int .i64 op6, .int .i64 wd6, .int .u64 n6, .string nm6, .slice sa6 sl6 sc6] : Array Value).size) := info55s
  have HTO : Hid ((#[.int .i64 k6, .int .i64 a6, .int .i64 op6, .int .i64 wd6, .int .u64 n6, .string nm6, .slice sa6 sl6 sc6] : Array Value).all (·.oneCell') = true) := arr_one rfl
  go_upto_region 18 with ((with_reducible refine wpList_id ?_); (refine wpList_store_mid rfl 55 (.tmp 47) (.tmp 46) rfl (w.heap.size) 35 #[.int .i64 k6, .int .i64 a6, .int .i64 op6, .int .i64 wd6, .int .u64 n6, .string nm6, .slice sa6 sl6 sc6] rfl rfl HTT.out HTI.out HTO.out ?_))
  generalize hS : w6.setCells (w.heap.size) 35 _ = w7
  clear HTT HTI HTO
  replace hS : setFrom w6 (w.heap.size) 35 [.int .i64 k6, .int .i64 a6, .int .i64 op6, .int .i64 wd6, .int .u64 n6, .string nm6, .slice sa6 sl6 sc6] = w7 := (setCells_from _ _ _ _).symm.trans hS
  obtain ⟨cI_7, bb, hh, ap, zz, oo, kk, xx⟩ := lb_set hS LI_6.out (by simp only [lnC, lnN]; omega) (one_list rfl)
  have z7 : w6.heap.size ≤ w7.heap.size := by omega
  have K7 : Hid (Kq br w w7) := kk br w K6.out (by omega)
  have X7 : Hid (Sx br s w7 c6 m6) := xx br s c6 m6 X6.out (by omega)
  have LI_7 := hI bb
  have HI62_7 := hI (ap 62 [.bool false] HI62_4.out (by simp only [lnC, lnN]; omega))
  have HI0_7 := hI (ap 0 [.int .i64 5] HI0_4.out (by simp only [lnC, lnN]; omega))
  have HI42_7 := hI (ap 42 [.int .i64 k3, .int .i64 a3, .int .i64 op3, .int .i64 wd3, .int .u64 n3, .string nm3, .slice sa3 sl3 sc3] HI42_4.out (by simp only [lnC, lnN]; omega))
  have HI35_7 : Hid (Has cI_7 35 [.int .i64 k6, .int .i64 a6, .int .i64 op6, .int .i64 wd6, .int .u64 n6, .string nm6, .slice sa6 sl6 sc6]) := hh
  clear LI_6 X6 K6 HI62_4 HI0_4 HI42_4
  have P3_7 := hI (pe_to P3_6.out (fun k o hb h => (oo k (by omega)).trans h))
  have P6_7 := hI (pe_to P6_6.out (fun k o hb h => (oo k (by omega)).trans h))
  clear P3_6 P6_6
  clear hS bb hh ap zz oo kk xx
  go_wp2_with fail
  refine (must_any X7.out _).mono ?_
  rintro e w8 ⟨rfl, hk, c8, m8, hx, ha⟩
  have z8 : w7.heap.size ≤ w8.heap.size := hk.size
  have KK := hI hk
  have K8 : Hid (Kq br w w8) := K7.out.trans hk
  have X8 := hI hx
  have A8 := hI ha
  clear hk hx ha
  have LI_8 := vK KK LI_7 (by omega)
  clear LI_7
  have P3_8 := hI (pe_to P3_7.out (fun k o hb h => KK.out.get (by omega) h))
  have P6_8 := hI (pe_to P6_7.out (fun k o hb h => KK.out.get (by omega) h))
  clear P3_7 P6_7
  clear KK
  obtain ⟨i5, hi, hzz, hsz, hby⟩ := info95'
  have HI5 := hI hi
  have HZ5 := hI hzz
  have HS5 := hI hsz
  have HB5 := hI hby
  clear hi hzz hsz hby
  have HSZ5 : Hid (cI_7.size = 65) := LI_8.out.size
  have HIN5 : Hid ((Tryz.prog.info? 95).map (·.size) = some cI_7.toList.length) := by show _ = _; rw [Array.length_toList, HSZ5.out]; exact info95
  have HWH5 : Hid (w8.rangeAt (w.heap.size) 0 cI_7.toList) := LI_8.out.whole
  go_wp2_with ((with_reducible refine wpList_id ?_); first | (refine wpList_load_mid rfl 95 (.tmp 3) rfl (w.heap.size) 0 rfl cI_7.toList _ HWH5.out Tryz.underlying95 rfl HIN5.out ?_) | (refine wpList_build_one rfl 38 (.tmp 116) rfl 95 cI_7 65 rfl Tryz.underlying38 i5 HI5.out _ HZ5.out HS5.out HSZ5.out (by decide) (by decide) ?_))
  go_ret
  have AX : Adv 0 m c8 m8 := Adv.trans (⟨Nat.le_of_lt hm1, fun _ => ⟨rfl, hm1⟩⟩) (Adv.trans (A3.out) (Adv.trans (A5.out) (Adv.trans (A6.out) (A8.out))))
  have hAX := AX.1
  refine ⟨_, _, _, rfl, K8.out.alloc _, c8, m8, X8.out.alloc _, AX, its_single rfl LI_8.out.big (by show w.heap.size ≤ _; omega) (by omega) (by omega) ?_⟩
  intro hc
  obtain ⟨hc6, hm8⟩ := A8.out.2 hc
  obtain ⟨hc5, hm6⟩ := A6.out.2 hc6
  obtain ⟨hc3, hm5⟩ := A5.out.2 hc5
  obtain ⟨_, hm3⟩ := A3.out.2 hc3
  obtain ⟨te, hp, hl⟩ := P6_8.out hc6
  obtain ⟨tt, hpt, hlt2⟩ := P3_8.out hc3
  refine ⟨_, PI.assign _ LI_8.out.big k3 k6 [.int .i64 k3, .int .i64 a3, .int .i64 op3, .int .i64 wd3, .int .u64 n3, .string nm3, .slice sa3 sl3 sc3] [.int .i64 k6, .int .i64 a6, .int .i64 op6, .int .i64 wd6, .int .u64 n6, .string nm6, .slice sa6 sl6 sc6] tt te HI0_7.out.l HI42_7.out.l (hpt.mono (fun b hb => by show _ ∧ _; omega) (fun _ _ _ _ hu => hu)) HI35_7.out.l (hp.mono (fun b hb => by show _ ∧ _; omega) (fun _ _ _ _ hu => hu)), ?_⟩
  exact ⟨by simp only [lnC, lnN]; omega, by simp only [List.map_cons, List.map_nil, List.flatten_cons, List.flatten_nil, lnA, lnC, lnN]; omega⟩
 go_wp2_with fail
 refine accept_alt X0.out _ ?_ ?_
 ·intro _ m1 w1 hm1 hk hx
  have z1 : w0.heap.size ≤ w1.heap.size := hk.size
  have KK := hI hk
  have K1 : Hid (Kq br w w1) := K0.out.trans hk
  have X1 := hI hx
  clear hk hx X0 K0
  have LI_1 := vK KK LI_0 (by omega)
  clear LI_0
  clear KK
  obtain ⟨vvI0, hvI0⟩ := LI_1.out.some 0 (by decide)
  obtain ⟨pcI0, pfI0⟩ := LI_1.out.cell hvI0
  clear hvI0
  go_wp2_with fail
  generalize hS : w1.setCell ⟨w.heap.size, 0, none⟩ _ = w2
  clear pcI0 pfI0
  replace hS : setFrom w1 (w.heap.size) 0 [.int .i64 6] = w2 := hS
  obtain ⟨cI_2, bb, hh, ap, zz, oo, kk, xx⟩ := lb_set hS LI_1.out (by simp only [lnC, lnN]; omega) (one_list rfl)
  have z2 : w1.heap.size ≤ w2.heap.size := by omega
  have K2 : Hid (Kq br w w2) := kk br w K1.out (by omega)
  have X2 : Hid (Sx br s w2 0 m1) := xx br s 0 m1 X1.out (by omega)
  have LI_2 := hI bb
  have HI62_2 := hI (ap 62 [.bool false] HI62_0.out (by simp only [lnC, lnN]; omega))
  have HI0_2 : Hid (Has cI_2 0 [.int .i64 6]) := hh
  clear LI_1 X1 K1 HI62_0
  clear hS bb hh ap zz oo kk xx
  refine (must_any X2.out _).mono ?_
  rintro e w3 ⟨rfl, hk, c3, m3, hx, ha⟩
  have z3 : w2.heap.size ≤ w3.heap.size := hk.size
  have KK := hI hk
  have K3 : Hid (Kq br w w3) := K2.out.trans hk
  have X3 := hI hx
  have A3 := hI ha
  clear hk hx ha
  have LI_3 := vK KK LI_2 (by omega)
  clear LI_2
  clear KK
  go_wp2_with fail
  refine is_alt X3.out _ ?_ ?_
  ·intro hc3 wdt nt Tt hst
   subst hc3
   have HST := hI hst
   clear hst
   obtain ⟨vvI49, hvI49⟩ := LI_3.out.some 49 (by decide)
   obtain ⟨pcI49, pfI49⟩ := LI_3.out.cell hvI49
   clear hvI49
   go_wp2_with fail
   generalize hS : w3.setCell ⟨w.heap.size, 49, none⟩ _ = w4
   have HST4 : Hid (St br s w4 0 m3 3 wdt nt Tt) := HST.out.to (by rw [← hS]; exact Below.heap_setCell _ _ _ _ (show br ≠ w.heap.size by omega))
   clear HST
   clear pcI49 pfI49
   replace hS : setFrom w3 (w.heap.size) 49 [.bool true] = w4 := hS
   obtain ⟨cI_4, bb, hh, ap, zz, oo, kk, xx⟩ := lb_set hS LI_3.out (by simp only [lnC, lnN]; omega) (one_list rfl)
   have z4 : w3.heap.size ≤ w4.heap.size := by omega
   have K4 : Hid (Kq br w w4) := kk br w K3.out (by omega)
   have X4 : Hid (Sx br s w4 0 m3) := xx br s 0 m3 X3.out (by omega)
   have LI_4 := hI bb
   have HI62_4 := hI (ap 62 [.bool false] HI62_2.out (by simp only [lnC, lnN]; omega))
   have HI0_4 := hI (ap 0 [.int .i64 6] HI0_2.out (by simp only [lnC, lnN]; omega))
   have HI49_4 : Hid (Has cI_4 49 [.bool true]) := hh
   clear LI_3 X3 K3 HI62_2 HI0_2
   clear hS bb hh ap zz oo kk xx
   refine (step_st HST4.out (by decide) (by decide)).mono ?_
   rintro e w5 ⟨rfl, hk, m5, hm5, hx⟩
   have z5 : w4.heap.size ≤ w5.heap.size := hk.size
   have KK := hI hk
   have K5 : Hid (Kq br w w5) := K4.out.trans hk
   have X5 := hI hx
   clear hk hx
   have LI_5 := vK KK LI_4 (by omega)
   clear LI_4
   clear KK
   clear HST4
   go_wp2_with fail
   refine (stmt_read X5.out).mono ?_
   rintro e w7 ⟨k7, a7, lt7, nm7, xa7, xl7, xc7, sa7, sl7, sc7, aa7, al7, ac7, rfl, hk, c7, m7, hx, ha, hp⟩
   have z7 : w5.heap.size ≤ w7.heap.size := hk.size
   have KK := hI hk
   have K7 : Hid (Kq br w w7) := K5.out.trans hk
   have X7 := hI hx
   have A7 := hI ha
   have P7_7 := hI (ps_born hp)
   clear hk hx ha hp
   have LI_7 := vK KK LI_5 (by omega)
   clear LI_5
   clear KK
   have HTT : Hid (w7.there (w.heap.size) 50 (#[.int .i64 k7, .int .i64 a7, .bool lt7, .string nm7, .slice xa7 xl7 xc7, .slice sa7 sl7 sc7, .slice aa7 al7 ac7] : Array Value).size) := LI_7.out.there 50 7 (by decide)
   have HTI : Hid ((Tryz.prog.info? 93).map (·.size) = some (#[.int .i64 k7, .int .i64 a7, .bool lt7, .string nm7, .slice xa7 xl7 xc7, .slice sa7 sl7 sc7, .slice aa7 al7 ac7] : Array Value).size) := info93s
   have HTO : Hid ((#[.int .i64 k7, .int .i64 a7, .bool lt7, .string nm7, .slice xa7 xl7 xc7, .slice sa7 sl7 sc7, .slice aa7 al7 ac7] : Array Value).all (·.oneCell') = true) := arr_one rfl
   go_upto_region 40 with ((with_reducible refine wpList_id ?_); (refine wpList_store_mid rfl 93 (.tmp 67) (.tmp 66) rfl (w.heap.size) 50 #[.int .i64 k7, .int .i64 a7, .bool lt7, .string nm7, .slice xa7 xl7 xc7, .slice sa7 sl7 sc7, .slice aa7 al7 ac7] rfl rfl HTT.out HTI.out HTO.out ?_))
   generalize hS : w7.setCells (w.heap.size) 50 _ = w8
   clear HTT HTI HTO
   replace hS : setFrom w7 (w.heap.size) 50 [.int .i64 k7, .int .i64 a7, .bool lt7, .string nm7, .slice xa7 xl7 xc7, .slice sa7 sl7 sc7, .slice aa7 al7 ac7] = w8 := (setCells_from _ _ _ _).symm.trans hS
   obtain ⟨cI_8, bb, hh, ap, zz, oo, kk, xx⟩ := lb_set hS LI_7.out (by simp only [lnC, lnN]; omega) (one_list rfl)
   have z8 : w7.heap.size ≤ w8.heap.size := by omega
   have K8 : Hid (Kq br w w8) := kk br w K7.out (by omega)
   have X8 : Hid (Sx br s w8 c7 m7) := xx br s c7 m7 X7.out (by omega)
   have LI_8 := hI bb
   have HI62_8 := hI (ap 62 [.bool false] HI62_4.out (by simp only [lnC, lnN]; omega))
   have HI0_8 := hI (ap 0 [.int .i64 6] HI0_4.out (by simp only [lnC, lnN]; omega))
   have HI49_8 := hI (ap 49 [.bool true] HI49_4.out (by simp only [lnC, lnN]; omega))
   have HI50_8 : Hid (Has cI_8 50 [.int .i64 k7, .int .i64 a7, .bool lt7, .string nm7, .slice xa7 xl7 xc7, .slice sa7 sl7 sc7, .slice aa7 al7 ac7]) := hh
   clear LI_7 X7 K7 HI62_4 HI0_4 HI49_4
   have P7_8 := hI (ps_to P7_7.out (fun k o hb h => (oo k (by omega)).trans h))
   clear P7_7
   clear hS bb hh ap zz oo kk xx
   obtain ⟨i5, hi, hzz, hsz, hby⟩ := info95'
   have HI5 := hI hi
   have HZ5 := hI hzz
   have HS5 := hI hsz
   have HB5 := hI hby
   clear hi hzz hsz hby
   have HSZ5 : Hid (cI_8.size = 65) := LI_8.out.size
   have HIN5 : Hid ((Tryz.prog.info? 95).map (·.size) = some cI_8.toList.length) := by show _ = _; rw [Array.length_toList, HSZ5.out]; exact info95
   have HWH5 : Hid (w8.rangeAt (w.heap.size) 0 cI_8.toList) := LI_8.out.whole
   go_wp2_with ((with_reducible refine wpList_id ?_); first | (refine wpList_load_mid rfl 95 (.tmp 3) rfl (w.heap.size) 0 rfl cI_8.toList _ HWH5.out Tryz.underlying95 rfl HIN5.out ?_) | (refine wpList_build_one rfl 38 (.tmp 116) rfl 95 cI_8 65 rfl Tryz.underlying38 i5 HI5.out _ HZ5.out HS5.out HSZ5.out (by decide) (by decide) ?_))
   go_ret
   have AX : Adv 0 m c7 m7 := Adv.trans (⟨Nat.le_of_lt hm1, fun _ => ⟨rfl, hm1⟩⟩) (Adv.trans (A3.out) (Adv.trans (⟨Nat.le_of_lt hm5, fun _ => ⟨rfl, hm5⟩⟩) (A7.out)))
   have hAX := AX.1
   refine ⟨_, _, _, rfl, K8.out.alloc _, c7, m7, X8.out.alloc _, AX, its_single rfl LI_8.out.big (by show w.heap.size ≤ _; omega) (by omega) (by omega) ?_⟩
   intro hc
   obtain ⟨hc5, hm7⟩ := A7.out.2 hc
   obtain ⟨_, hm3⟩ := A3.out.2 (by trivial)
   obtain ⟨tb, hp, hl⟩ := P7_8.out hc
   refine ⟨_, PI.always _ LI_8.out.big true [.int .i64 k7, .int .i64 a7, .bool lt7, .string nm7, .slice xa7 xl7 xc7, .slice sa7 sl7 sc7, .slice aa7 al7 ac7] tb HI0_8.out.l HI49_8.out.l HI50_8.out.l (hp.mono (fun b hb => by show _ ∧ _; omega) (fun _ _ _ _ hu => hu)), ?_⟩
   exact ⟨by simp only [lnC, lnN]; omega, by simp only [List.map_cons, List.map_nil, List.flatten_cons, List.flatten_nil, lnA, lnC, lnN, if_true]; omega⟩
  ·obtain ⟨vvI49, hvI49⟩ := LI_3.out.some 49 (by decide)
   obtain ⟨pcI49, pfI49⟩ := LI_3.out.cell hvI49
   clear hvI49
   go_wp2_with fail
   generalize hS : w3.setCell ⟨w.heap.size, 49, none⟩ _ = w4
   clear pcI49 pfI49
   replace hS : setFrom w3 (w.heap.size) 49 [.bool false] = w4 := hS
   obtain ⟨cI_4, bb, hh, ap, zz, oo, kk, xx⟩ := lb_set hS LI_3.out (by simp only [lnC, lnN]; omega) (one_list rfl)
   have z4 : w3.heap.size ≤ w4.heap.size := by omega
   have K4 : Hid (Kq br w w4) := kk br w K3.out (by omega)
   have X4 : Hid (Sx br s w4 c3 m3) := xx br s c3 m3 X3.out (by omega)
   have LI_4 := hI bb
   have HI62_4 := hI (ap 62 [.bool false] HI62_2.out (by simp only [lnC, lnN]; omega))
   have HI0_4 := hI (ap 0 [.int .i64 6] HI0_2.out (by simp only [lnC, lnN]; omega))
   have HI49_4 : Hid (Has cI_4 49 [.bool false]) := hh
   clear LI_3 X3 K3 HI62_2 HI0_2
   clear hS bb hh ap zz oo kk xx
   refine (must_any X4.out _).mono ?_
   rintro e w5 ⟨rfl, hk, c5, m5, hx, ha⟩
   have z5 : w4.heap.size ≤ w5.heap.size := hk.size
   have KK := hI hk
   have K5 : Hid (Kq br w w5) := K4.out.trans hk
   have X5 := hI hx
   have A5 := hI ha
   clear hk hx ha
   have LI_5 := vK KK LI_4 (by omega)
   clear LI_4
   clear KK
   go_wp2_with fail
   refine (stmt_read X5.out).mono ?_
   rintro e w7 ⟨k7, a7, lt7, nm7, xa7, xl7, xc7, sa7, sl7, sc7, aa7, al7, ac7, rfl, hk, c7, m7, hx, ha, hp⟩
   have z7 : w5.heap.size ≤ w7.heap.size := hk.size
   have KK := hI hk
   have K7 : Hid (Kq br w w7) := K5.out.trans hk
   have X7 := hI hx
   have A7 := hI ha
   have P7_7 := hI (ps_born hp)
   clear hk hx ha hp
   have LI_7 := vK KK LI_5 (by omega)
   clear LI_5
   clear KK
   have HTT : Hid (w7.there (w.heap.size) 50 (#[.int .i64 k7, .int .i64 a7, .bool lt7, .string nm7, .slice xa7 xl7 xc7, .slice sa7 sl7 sc7, .slice aa7 al7 ac7] : Array Value).size) := LI_7.out.there 50 7 (by decide)
   have HTI : Hid ((Tryz.prog.info? 93).map (·.size) = some (#[.int .i64 k7, .int .i64 a7, .bool lt7, .string nm7, .slice xa7 xl7 xc7, .slice sa7 sl7 sc7, .slice aa7 al7 ac7] : Array Value).size) := info93s
   have HTO : Hid ((#[.int .i64 k7, .int .i64 a7, .bool lt7, .string nm7, .slice xa7 xl7 xc7, .slice sa7 sl7 sc7, .slice aa7 al7 ac7] : Array Value).all (·.oneCell') = true) := arr_one rfl
   go_upto_region 40 with ((with_reducible refine wpList_id ?_); (refine wpList_store_mid rfl 93 (.tmp 67) (.tmp 66) rfl (w.heap.size) 50 #[.int .i64 k7, .int .i64 a7, .bool lt7, .string nm7, .slice xa7 xl7 xc7, .slice sa7 sl7 sc7, .slice aa7 al7 ac7] rfl rfl HTT.out HTI.out HTO.out ?_))
   generalize hS : w7.setCells (w.heap.size) 50 _ = w8
   clear HTT HTI HTO
   replace hS : setFrom w7 (w.heap.size) 50 [.int .i64 k7, .int .i64 a7, .bool lt7, .string nm7, .slice xa7 xl7 xc7, .slice sa7 sl7 sc7, .slice aa7 al7 ac7] = w8 := (setCells_from _ _ _ _).symm.trans hS
   obtain ⟨cI_8, bb, hh, ap, zz, oo, kk, xx⟩ := lb_set hS LI_7.out (by simp only [lnC, lnN]; omega) (one_list rfl)
   have z8 : w7.heap.size ≤ w8.heap.size := by omega
   have K8 : Hid (Kq br w w8) := kk br w K7.out (by omega)
   have X8 : Hid (Sx br s w8 c7 m7) := xx br s c7 m7 X7.out (by omega)
   have LI_8 := hI bb
   have HI62_8 := hI (ap 62 [.bool false] HI62_4.out (by simp only [lnC, lnN]; omega))
   have HI0_8 := hI (ap 0 [.int .i64 6] HI0_4.out (by simp only [lnC, lnN]; omega))
   have HI49_8 := hI (ap 49 [.bool false] HI49_4.out (by simp only [lnC, lnN]; omega))
   have HI50_8 : Hid (Has cI_8 50 [.int .i64 k7, .int .i64 a7, .bool lt7, .string nm7, .slice xa7 xl7 xc7, .slice sa7 sl7 sc7, .slice aa7 al7 ac7]) := hh
   clear LI_7 X7 K7 HI62_4 HI0_4 HI49_4
   have P7_8 := hI (ps_to P7_7.out (fun k o hb h => (oo k (by omega)).trans h))
   clear P7_7
   clear hS bb hh ap zz oo kk xx
   obtain ⟨i5, hi, hzz, hsz, hby⟩ := info95'
   have HI5 := hI hi
   have HZ5 := hI hzz
   have HS5 := hI hsz
   have HB5 := hI hby
   clear hi hzz hsz hby
   have HSZ5 : Hid (cI_8.size = 65) := LI_8.out.size
   have HIN5 : Hid ((Tryz.prog.info? 95).map (·.size) = some cI_8.toList.length) := by show _ = _; rw [Array.length_toList, HSZ5.out]; exact info95
   have HWH5 : Hid (w8.rangeAt (w.heap.size) 0 cI_8.toList) := LI_8.out.whole
   go_wp2_with ((with_reducible refine wpList_id ?_); first | (refine wpList_load_mid rfl 95 (.tmp 3) rfl (w.heap.size) 0 rfl cI_8.toList _ HWH5.out Tryz.underlying95 rfl HIN5.out ?_) | (refine wpList_build_one rfl 38 (.tmp 116) rfl 95 cI_8 65 rfl Tryz.underlying38 i5 HI5.out _ HZ5.out HS5.out HSZ5.out (by decide) (by decide) ?_))
   go_ret
   have AX : Adv 0 m c7 m7 := Adv.trans (⟨Nat.le_of_lt hm1, fun _ => ⟨rfl, hm1⟩⟩) (Adv.trans (A3.out) (Adv.trans (A5.out) (A7.out)))
   have hAX := AX.1
   refine ⟨_, _, _, rfl, K8.out.alloc _, c7, m7, X8.out.alloc _, AX, its_single rfl LI_8.out.big (by show w.heap.size ≤ _; omega) (by omega) (by omega) ?_⟩
   intro hc
   obtain ⟨hc5, hm7⟩ := A7.out.2 hc
   obtain ⟨hc3, hm5⟩ := A5.out.2 hc5
   obtain ⟨_, hm3⟩ := A3.out.2 hc3
   obtain ⟨tb, hp, hl⟩ := P7_8.out hc
   refine ⟨_, PI.always _ LI_8.out.big false [.int .i64 k7, .int .i64 a7, .bool lt7, .string nm7, .slice xa7 xl7 xc7, .slice sa7 sl7 sc7, .slice aa7 al7 ac7] tb HI0_8.out.l HI49_8.out.l HI50_8.out.l (hp.mono (fun b hb => by show _ ∧ _; omega) (fun _ _ _ _ hu => hu)), ?_⟩
   exact ⟨by simp only [lnC, lnN]; omega, by simp only [List.map_cons, List.map_nil, List.flatten_cons, List.flatten_nil, lnA, lnC, lnN, Bool.false_eq_true, if_false]; omega⟩
 go_wp2_with fail
 refine accept_alt X0.out _ ?_ ?_
 ·intro _ m1 w1 hm1 hk hx
  have z1 : w0.heap.size ≤ w1.heap.size := hk.size
  have KK := hI hk
  have K1 : Hid (Kq br w w1) := K0.out.trans hk
  have X1 := hI hx
  clear hk hx X0 K0
  have LI_1 := vK KK LI_0 (by omega)
  clear LI_0
  clear KK
  obtain ⟨vvI0, hvI0⟩ := LI_1.out.some 0 (by decide)
  obtain ⟨pcI0, pfI0⟩ := LI_1.out.cell hvI0
  clear hvI0
  go_wp2_with fail
  generalize hS : w1.setCell ⟨w.heap.size, 0, none⟩ _ = w2
  clear pcI0 pfI0
  replace hS : setFrom w1 (w.heap.size) 0 [.int .i64 8] = w2 := hS
  obtain ⟨cI_2, bb, hh, ap, zz, oo, kk, xx⟩ := lb_set hS LI_1.out (by simp only [lnC, lnN]; omega) (one_list rfl)
  have z2 : w1.heap.size ≤ w2.heap.size := by omega
  have K2 : Hid (Kq br w w2) := kk br w K1.out (by omega)
  have X2 : Hid (Sx br s w2 0 m1) := xx br s 0 m1 X1.out (by omega)
  have LI_2 := hI bb
  have HI62_2 := hI (ap 62 [.bool false] HI62_0.out (by simp only [lnC, lnN]; omega))
  have HI0_2 : Hid (Has cI_2 0 [.int .i64 8]) := hh
  clear LI_1 X1 K1 HI62_0
  clear hS bb hh ap zz oo kk xx
  refine (loop_any br s 0 m1 w2 X2.out).mono ?_
  rintro e w3 ⟨nm3, sa3, sl3, sc3, rfl, hnm3, hk, c3, m3, hx, ha, hp⟩
  have z3 : w2.heap.size ≤ w3.heap.size := hk.size
  have KK := hI hk
  have K3 : Hid (Kq br w w3) := K2.out.trans hk
  have X3 := hI hx
  have A3 := hI ha
  have P3_3 := hI (lp_born hp)
  clear hk hx ha hp
  have LI_3 := vK KK LI_2 (by omega)
  clear LI_2
  clear KK
  obtain ⟨vvI2, hvI2⟩ := LI_3.out.some 2 (by decide)
  obtain ⟨pcI2, pfI2⟩ := LI_3.out.cell hvI2
  clear hvI2
  obtain ⟨vvI59, hvI59⟩ := LI_3.out.some 59 (by decide)
  obtain ⟨pcI59, pfI59⟩ := LI_3.out.cell hvI59
  clear hvI59
  go_wp2_with fail
  generalize hS : w3.setCell ⟨w.heap.size, 2, none⟩ _ = w4
  clear pcI2 pfI2 pcI59 pfI59
  replace hS : setFrom w3 (w.heap.size) 2 [.string nm3] = w4 := hS
  obtain ⟨cI_4, bb, hh, ap, zz, oo, kk, xx⟩ := lb_set hS LI_3.out (by simp only [lnC, lnN]; omega) (one_list rfl)
  have z4 : w3.heap.size ≤ w4.heap.size := by omega
  have K4 : Hid (Kq br w w4) := kk br w K3.out (by omega)
  have X4 : Hid (Sx br s w4 c3 m3) := xx br s c3 m3 X3.out (by omega)
  have LI_4 := hI bb
  have HI62_4 := hI (ap 62 [.bool false] HI62_2.out (by simp only [lnC, lnN]; omega))
  have HI0_4 := hI (ap 0 [.int .i64 8] HI0_2.out (by simp only [lnC, lnN]; omega))
  have HI2_4 : Hid (Has cI_4 2 [.string nm3]) := hh
  clear LI_3 X3 K3 HI62_2 HI0_2
  have P3_4 := hI (lp_to P3_3.out (fun k o hb h => (oo k (by omega)).trans h))
  clear P3_3
  clear hS bb hh ap zz oo kk xx
  generalize hS : w4.setCell ⟨w.heap.size, 59, none⟩ _ = w5
  replace hS : setFrom w4 (w.heap.size) 59 [.slice sa3 sl3 sc3] = w5 := hS
  obtain ⟨cI_5, bb, hh, ap, zz, oo, kk, xx⟩ := lb_set hS LI_4.out (by simp only [lnC, lnN]; omega) (one_list rfl)
  have z5 : w4.heap.size ≤ w5.heap.size := by omega
  have K5 : Hid (Kq br w w5) := kk br w K4.out (by omega)
  have X5 : Hid (Sx br s w5 c3 m3) := xx br s c3 m3 X4.out (by omega)
  have LI_5 := hI bb
  have HI62_5 := hI (ap 62 [.bool false] HI62_4.out (by simp only [lnC, lnN]; omega))
  have HI0_5 := hI (ap 0 [.int .i64 8] HI0_4.out (by simp only [lnC, lnN]; omega))
  have HI2_5 := hI (ap 2 [.string nm3] HI2_4.out (by simp only [lnC, lnN]; omega))
  have HI59_5 : Hid (Has cI_5 59 [.slice sa3 sl3 sc3]) := hh
  clear LI_4 X4 K4 HI62_4 HI0_4 HI2_4
  have P3_5 := hI (lp_to P3_4.out (fun k o hb h => (oo k (by omega)).trans h))
  clear P3_4
  clear hS bb hh ap zz oo kk xx
  have HL6 : Hid (meas c3 m3 ≤ m) := Nat.le_of_lt_succ (meas_next (Adv.trans (⟨Nat.le_of_lt hm1, fun _ => ⟨rfl, hm1⟩⟩) (A3.out)))
  refine (HI.out m (by omega) br s c3 m3 w5 X5.out HL6.out (by omega)).mono ?_
  rintro e w6 ⟨nm6, sa6, sl6, sc6, rfl, hk, c6, m6, hx, ha, hp⟩
  have z6 : w5.heap.size ≤ w6.heap.size := hk.size
  have KK := hI hk
  have K6 : Hid (Kq br w w6) := K5.out.trans hk
  have X6 := hI hx
  have A6 := hI ha
  have P6_6 := hI (rw_born hp)
  clear hk hx ha hp
  have LI_6 := vK KK LI_5 (by omega)
  clear LI_5
  have P3_6 := hI (lp_to P3_5.out (fun k o hb h => KK.out.get (by omega) h))
  clear P3_5
  clear KK
  clear HL6
  obtain ⟨vvI60, hvI60⟩ := LI_6.out.some 60 (by decide)
  obtain ⟨pcI60, pfI60⟩ := LI_6.out.cell hvI60
  clear hvI60
  obtain ⟨vvI61, hvI61⟩ := LI_6.out.some 61 (by decide)
  obtain ⟨pcI61, pfI61⟩ := LI_6.out.cell hvI61
  clear hvI61
  go_upto_region 40 with fail
  generalize hS : w6.setCell ⟨w.heap.size, 60, none⟩ _ = w7
  clear pcI60 pfI60 pcI61 pfI61
  replace hS : setFrom w6 (w.heap.size) 60 [.string nm6] = w7 := hS
  obtain ⟨cI_7, bb, hh, ap, zz, oo, kk, xx⟩ := lb_set hS LI_6.out (by simp only [lnC, lnN]; omega) (one_list rfl)
  have z7 : w6.heap.size ≤ w7.heap.size := by omega
  have K7 : Hid (Kq br w w7) := kk br w K6.out (by omega)
  have X7 : Hid (Sx br s w7 c6 m6) := xx br s c6 m6 X6.out (by omega)
  have LI_7 := hI bb
  have HI62_7 := hI (ap 62 [.bool false] HI62_5.out (by simp only [lnC, lnN]; omega))
  have HI0_7 := hI (ap 0 [.int .i64 8] HI0_5.out (by simp only [lnC, lnN]; omega))
  have HI2_7 := hI (ap 2 [.string nm3] HI2_5.out (by simp only [lnC, lnN]; omega))
  have HI59_7 := hI (ap 59 [.slice sa3 sl3 sc3] HI59_5.out (by simp only [lnC, lnN]; omega))
  have HI60_7 : Hid (Has cI_7 60 [.string nm6]) := hh
  clear LI_6 X6 K6 HI62_5 HI0_5 HI2_5 HI59_5
  have P3_7 := hI (lp_to P3_6.out (fun k o hb h => (oo k (by omega)).trans h))
  have P6_7 := hI (rw_to P6_6.out (fun k o hb h => (oo k (by omega)).trans h))
  clear P3_6 P6_6
  clear hS bb hh ap zz oo kk xx
  generalize hS : w7.setCell ⟨w.heap.size, 61, none⟩ _ = w8
  replace hS : setFrom w7 (w.heap.size) 61 [.slice sa6 sl6 sc6] = w8 := hS
  obtain ⟨cI_8, bb, hh, ap, zz, oo, kk, xx⟩ := lb_set hS LI_7.out (by simp only [lnC, lnN]; omega) (one_list rfl)
  have z8 : w7.heap.size ≤ w8.heap.size := by omega
  have K8 : Hid (Kq br w w8) := kk br w K7.out (by omega)
  have X8 : Hid (Sx br s w8 c6 m6) := xx br s c6 m6 X7.out (by omega)
  have LI_8 := hI bb
  have HI62_8 := hI (ap 62 [.bool false] HI62_7.out (by simp only [lnC, lnN]; omega))
  have HI0_8 := hI (ap 0 [.int .i64 8] HI0_7.out (by simp only [lnC, lnN]; omega))
  have HI2_8 := hI (ap 2 [.string nm3] HI2_7.out (by simp only [lnC, lnN]; omega))
  have HI59_8 := hI (ap 59 [.slice sa3 sl3 sc3] HI59_7.out (by simp only [lnC, lnN]; omega))
  have HI60_8 := hI (ap 60 [.string nm6] HI60_7.out (by simp only [lnC, lnN]; omega))
  have HI61_8 : Hid (Has cI_8 61 [.slice sa6 sl6 sc6]) := hh
  clear LI_7 X7 K7 HI62_7 HI0_7 HI2_7 HI59_7 HI60_7
  have P3_8 := hI (lp_to P3_7.out (fun k o hb h => (oo k (by omega)).trans h))
  have P6_8 := hI (rw_to P6_7.out (fun k o hb h => (oo k (by omega)).trans h))
  clear P3_7 P6_7
  clear hS bb hh ap zz oo kk xx
  obtain ⟨i5, hi, hzz, hsz, hby⟩ := info95'
  have HI5 := hI hi
  have HZ5 := hI hzz
  have HS5 := hI hsz
  have HB5 := hI hby
  clear hi hzz hsz hby
  have HSZ5 : Hid (cI_8.size = 65) := LI_8.out.size
  have HIN5 : Hid ((Tryz.prog.info? 95).map (·.size) = some cI_8.toList.length) := by show _ = _; rw [Array.length_toList, HSZ5.out]; exact info95
  have HWH5 : Hid (w8.rangeAt (w.heap.size) 0 cI_8.toList) := LI_8.out.whole
  go_wp2_with ((with_reducible refine wpList_id ?_); first | (refine wpList_load_mid rfl 95 (.tmp 3) rfl (w.heap.size) 0 rfl cI_8.toList _ HWH5.out Tryz.underlying95 rfl HIN5.out ?_) | (refine wpList_build_one rfl 38 (.tmp 116) rfl 95 cI_8 65 rfl Tryz.underlying38 i5 HI5.out _ HZ5.out HS5.out HSZ5.out (by decide) (by decide) ?_))
  go_ret
  have AX : Adv 0 m c6 m6 := Adv.trans (⟨Nat.le_of_lt hm1, fun _ => ⟨rfl, hm1⟩⟩) (Adv.trans (A3.out) (A6.out))
  have hAX := AX.1
  refine ⟨_, _, _, rfl, K8.out.alloc _, c6, m6, X8.out.alloc _, AX, its_single rfl LI_8.out.big (by show w.heap.size ≤ _; omega) (by omega) (by omega) ?_⟩
  intro hc
  obtain ⟨hc3, hm6⟩ := A6.out.2 hc
  obtain ⟨_, hm3⟩ := A3.out.2 hc3
  obtain ⟨xs, hX, hn3, hlx⟩ := P3_8.out hc3
  obtain ⟨es, hR, hl⟩ := P6_8.out hc
  have rx := (hX.sub (S' := fun b => w.heap.size ≤ b ∧ b < w8.heap.size) (fun b hb => by show _ ∧ _; omega)).row
  have ri := (hR.sub (S' := fun b => w.heap.size ≤ b ∧ b < w8.heap.size) (fun b hb => by show _ ∧ _; omega)).row
  match xs, hn3, hlx, rx with
  | [x, y, z], _, hlx, rx =>
   refine ⟨_, PI.loop _ LI_8.out.big nm3.data.toList nm6.data.toList _ _ x y z es HI0_8.out.l (by rw [bs_of]; exact HI2_8.out.l) HI59_8.out.l (by rw [bs_of]; exact HI60_8.out.l) HI61_8.out.l rx.1 (rx.2 x (by simp)) (rx.2 y (by simp)) (rx.2 z (by simp)) ri.1 (fun i d hd => ri.2 d (List.mem_of_getElem? hd)), ?_⟩
   simp only [List.map_cons, List.map_nil, List.flatten_cons, List.flatten_nil, lnA, lnN] at hlx
   simp only [partTxt_len, len_of] at hl
   exact ⟨by simp only [lnC, lnN]; omega, by simp only [List.map_cons, List.map_nil, List.flatten_cons, List.flatten_nil, lnA, lnC, lnN, len_of, partTxt_len, loopTxt]; omega⟩
 go_wp2_with fail
 refine accept_alt X0.out _ ?_ ?_
 ·intro _ m1 w1 hm1 hk hx
  have z1 : w0.heap.size ≤ w1.heap.size := hk.size
  have KK := hI hk
  have K1 : Hid (Kq br w w1) := K0.out.trans hk
  have X1 := hI hx
  clear hk hx X0 K0
  have LI_1 := vK KK LI_0 (by omega)
  clear LI_0
  clear KK
  obtain ⟨vvI0, hvI0⟩ := LI_1.out.some 0 (by decide)
  obtain ⟨pcI0, pfI0⟩ := LI_1.out.cell hvI0
  clear hvI0
  go_wp2_with fail
  generalize hS : w1.setCell ⟨w.heap.size, 0, none⟩ _ = w2
  clear pcI0 pfI0
  replace hS : setFrom w1 (w.heap.size) 0 [.int .i64 9] = w2 := hS
  obtain ⟨cI_2, bb, hh, ap, zz, oo, kk, xx⟩ := lb_set hS LI_1.out (by simp only [lnC, lnN]; omega) (one_list rfl)
  have z2 : w1.heap.size ≤ w2.heap.size := by omega
  have K2 : Hid (Kq br w w2) := kk br w K1.out (by omega)
  have X2 : Hid (Sx br s w2 0 m1) := xx br s 0 m1 X1.out (by omega)
  have LI_2 := hI bb
  have HI62_2 := hI (ap 62 [.bool false] HI62_0.out (by simp only [lnC, lnN]; omega))
  have HI0_2 : Hid (Has cI_2 0 [.int .i64 9]) := hh
  clear LI_1 X1 K1 HI62_0
  clear hS bb hh ap zz oo kk xx
  refine (must_any X2.out _).mono ?_
  rintro e w3 ⟨rfl, hk, c3, m3, hx, ha⟩
  have z3 : w2.heap.size ≤ w3.heap.size := hk.size
  have KK := hI hk
  have K3 : Hid (Kq br w w3) := K2.out.trans hk
  have X3 := hI hx
  have A3 := hI ha
  clear hk hx ha
  have LI_3 := vK KK LI_2 (by omega)
  clear LI_2
  clear KK
  go_wp2_with fail
  refine (expr_read X3.out).mono ?_
  rintro e w4 ⟨k4, a4, op4, wd4, n4, nm4, sa4, sl4, sc4, rfl, hk, c4, m4, hx, ha, hp⟩
  have z4 : w3.heap.size ≤ w4.heap.size := hk.size
  have KK := hI hk
  have K4 : Hid (Kq br w w4) := K3.out.trans hk
  have X4 := hI hx
  have A4 := hI ha
  have P4_4 := hI (pe_born hp)
  clear hk hx ha hp
  have LI_4 := vK KK LI_3 (by omega)
  clear LI_3
  clear KK
  have HTT : Hid (w4.there (w.heap.size) 35 (#[.int .i64 k4, .int .i64 a4, .int .i64 op4, .int .i64 wd4, .int .u64 n4, .string nm4, .slice sa4 sl4 sc4] : Array Value).size) := LI_4.out.there 35 7 (by decide)
  have HTI : Hid ((Tryz.prog.info? 55).map (·.size) = some (#[.int .i64 k4, .int .i64 a4, .int .i64 op4, .int .i64 wd4, .int .u64 n4, .string nm4, .slice sa4 sl4 sc4] : Array Value).size) := info55s
  have HTO : Hid ((#[.int .i64 k4, .int .i64 a4, .int .i64 op4, .int .i64 wd4, .int .u64 n4, .string nm4, .slice sa4 sl4 sc4] : Array Value).all (·.oneCell') = true) := arr_one rfl
  go_upto_region 35 with ((with_reducible refine wpList_id ?_); (refine wpList_store_mid rfl 55 (.tmp 94) (.tmp 93) rfl (w.heap.size) 35 #[.int .i64 k4, .int .i64 a4, .int .i64 op4, .int .i64 wd4, .int .u64 n4, .string nm4, .slice sa4 sl4 sc4] rfl rfl HTT.out HTI.out HTO.out ?_))
  generalize hS : w4.setCells (w.heap.size) 35 _ = w5
  clear HTT HTI HTO
  replace hS : setFrom w4 (w.heap.size) 35 [.int .i64 k4, .int .i64 a4, .int .i64 op4, .int .i64 wd4, .int .u64 n4, .string nm4, .slice sa4 sl4 sc4] = w5 := (setCells_from _ _ _ _).symm.trans hS
  obtain ⟨cI_5, bb, hh, ap, zz, oo, kk, xx⟩ := lb_set hS LI_4.out (by simp only [lnC, lnN]; omega) (one_list rfl)
  have z5 : w4.heap.size ≤ w5.heap.size := by omega
  have K5 : Hid (Kq br w w5) := kk br w K4.out (by omega)
  have X5 : Hid (Sx br s w5 c4 m4) := xx br s c4 m4 X4.out (by omega)
  have LI_5 := hI bb
  have HI62_5 := hI (ap 62 [.bool false] HI62_2.out (by simp only [lnC, lnN]; omega))
  have HI0_5 := hI (ap 0 [.int .i64 9] HI0_2.out (by simp only [lnC, lnN]; omega))
  have HI35_5 : Hid (Has cI_5 35 [.int .i64 k4, .int .i64 a4, .int .i64 op4, .int .i64 wd4, .int .u64 n4, .string nm4, .slice sa4 sl4 sc4]) := hh
  clear LI_4 X4 K4 HI62_2 HI0_2
  have P4_5 := hI (pe_to P4_4.out (fun k o hb h => (oo k (by omega)).trans h))
  clear P4_4
  clear hS bb hh ap zz oo kk xx
  go_wp2_with fail
  refine (must_any X5.out _).mono ?_
  rintro e w6 ⟨rfl, hk, c6, m6, hx, ha⟩
  have z6 : w5.heap.size ≤ w6.heap.size := hk.size
  have KK := hI hk
  have K6 : Hid (Kq br w w6) := K5.out.trans hk
  have X6 := hI hx
  have A6 := hI ha
  clear hk hx ha
  have LI_6 := vK KK LI_5 (by omega)
  clear LI_5
  have P4_6 := hI (pe_to P4_5.out (fun k o hb h => KK.out.get (by omega) h))
  clear P4_5
  clear KK
  go_wp2_with fail
  have HL7 : Hid (meas c6 m6 ≤ m) := Nat.le_of_lt_succ (meas_next (Adv.trans (⟨Nat.le_of_lt hm1, fun _ => ⟨rfl, hm1⟩⟩) (Adv.trans (A3.out) (Adv.trans (A4.out) (A6.out)))))
  refine (HI.out m (by omega) br s c6 m6 w6 X6.out HL7.out (by omega)).mono ?_
  rintro e w7 ⟨nm7, sa7, sl7, sc7, rfl, hk, c7, m7, hx, ha, hp⟩
  have z7 : w6.heap.size ≤ w7.heap.size := hk.size
  have KK := hI hk
  have K7 : Hid (Kq br w w7) := K6.out.trans hk
  have X7 := hI hx
  have A7 := hI ha
  have P7_7 := hI (rw_born hp)
  clear hk hx ha hp
  have LI_7 := vK KK LI_6 (by omega)
  clear LI_6
  have P4_7 := hI (pe_to P4_6.out (fun k o hb h => KK.out.get (by omega) h))
  clear P4_6
  clear KK
  clear HL7
  obtain ⟨vvI60, hvI60⟩ := LI_7.out.some 60 (by decide)
  obtain ⟨pcI60, pfI60⟩ := LI_7.out.cell hvI60
  clear hvI60
  obtain ⟨vvI61, hvI61⟩ := LI_7.out.some 61 (by decide)
  obtain ⟨pcI61, pfI61⟩ := LI_7.out.cell hvI61
  clear hvI61
  go_wp2_with fail
  generalize hS : w7.setCell ⟨w.heap.size, 60, none⟩ _ = w8
  clear pcI60 pfI60 pcI61 pfI61
  replace hS : setFrom w7 (w.heap.size) 60 [.string nm7] = w8 := hS
  obtain ⟨cI_8, bb, hh, ap, zz, oo, kk, xx⟩ := lb_set hS LI_7.out (by simp only [lnC, lnN]; omega) (one_list rfl)
  have z8 : w7.heap.size ≤ w8.heap.size := by omega
  have K8 : Hid (Kq br w w8) := kk br w K7.out (by omega)
  have X8 : Hid (Sx br s w8 c7 m7) := xx br s c7 m7 X7.out (by omega)
  have LI_8 := hI bb
  have HI62_8 := hI (ap 62 [.bool false] HI62_5.out (by simp only [lnC, lnN]; omega))
  have HI0_8 := hI (ap 0 [.int .i64 9] HI0_5.out (by simp only [lnC, lnN]; omega))
  have HI35_8 := hI (ap 35 [.int .i64 k4, .int .i64 a4, .int .i64 op4, .int .i64 wd4, .int .u64 n4, .string nm4, .slice sa4 sl4 sc4] HI35_5.out (by simp only [lnC, lnN]; omega))
  have HI60_8 : Hid (Has cI_8 60 [.string nm7]) := hh
  clear LI_7 X7 K7 HI62_5 HI0_5 HI35_5
  have P4_8 := hI (pe_to P4_7.out (fun k o hb h => (oo k (by omega)).trans h))
  have P7_8 := hI (rw_to P7_7.out (fun k o hb h => (oo k (by omega)).trans h))
  clear P4_7 P7_7
  clear hS bb hh ap zz oo kk xx
  generalize hS : w8.setCell ⟨w.heap.size, 61, none⟩ _ = w9
  replace hS : setFrom w8 (w.heap.size) 61 [.slice sa7 sl7 sc7] = w9 := hS
  obtain ⟨cI_9, bb, hh, ap, zz, oo, kk, xx⟩ := lb_set hS LI_8.out (by simp only [lnC, lnN]; omega) (one_list rfl)
  have z9 : w8.heap.size ≤ w9.heap.size := by omega
  have K9 : Hid (Kq br w w9) := kk br w K8.out (by omega)
  have X9 : Hid (Sx br s w9 c7 m7) := xx br s c7 m7 X8.out (by omega)
  have LI_9 := hI bb
  have HI62_9 := hI (ap 62 [.bool false] HI62_8.out (by simp only [lnC, lnN]; omega))
  have HI0_9 := hI (ap 0 [.int .i64 9] HI0_8.out (by simp only [lnC, lnN]; omega))
  have HI35_9 := hI (ap 35 [.int .i64 k4, .int .i64 a4, .int .i64 op4, .int .i64 wd4, .int .u64 n4, .string nm4, .slice sa4 sl4 sc4] HI35_8.out (by simp only [lnC, lnN]; omega))
  have HI60_9 := hI (ap 60 [.string nm7] HI60_8.out (by simp only [lnC, lnN]; omega))
  have HI61_9 : Hid (Has cI_9 61 [.slice sa7 sl7 sc7]) := hh
  clear LI_8 X8 K8 HI62_8 HI0_8 HI35_8 HI60_8
  have P4_9 := hI (pe_to P4_8.out (fun k o hb h => (oo k (by omega)).trans h))
  have P7_9 := hI (rw_to P7_8.out (fun k o hb h => (oo k (by omega)).trans h))
  clear P4_8 P7_8
  clear hS bb hh ap zz oo kk xx
  refine accept_alt X9.out _ ?_ ?_
  ·intro hc0 m10 w10 hm10 hk hx
   subst hc0
   have z10 : w9.heap.size ≤ w10.heap.size := hk.size
   have KK := hI hk
   have K10 : Hid (Kq br w w10) := K9.out.trans hk
   have X10 := hI hx
   clear hk hx X9 K9
   have LI_10 := vK KK LI_9 (by omega)
   clear LI_9
   have P4_10 := hI (pe_to P4_9.out (fun k o hb h => KK.out.get (by omega) h))
   have P7_10 := hI (rw_to P7_9.out (fun k o hb h => KK.out.get (by omega) h))
   clear P4_9 P7_9
   clear KK
   obtain ⟨pcI62, pfI62⟩ := LI_10.out.cell HI62_9.out.head
   go_wp2_with fail
   generalize hS : w10.setCell ⟨w.heap.size, 62, none⟩ _ = w11
   clear pcI62 pfI62
   replace hS : setFrom w10 (w.heap.size) 62 [.bool true] = w11 := hS
   obtain ⟨cI_11, bb, hh, ap, zz, oo, kk, xx⟩ := lb_set hS LI_10.out (by simp only [lnC, lnN]; omega) (one_list rfl)
   have z11 : w10.heap.size ≤ w11.heap.size := by omega
   have K11 : Hid (Kq br w w11) := kk br w K10.out (by omega)
   have X11 : Hid (Sx br s w11 0 m10) := xx br s 0 m10 X10.out (by omega)
   have LI_11 := hI bb
   have HI0_11 := hI (ap 0 [.int .i64 9] HI0_9.out (by simp only [lnC, lnN]; omega))
   have HI35_11 := hI (ap 35 [.int .i64 k4, .int .i64 a4, .int .i64 op4, .int .i64 wd4, .int .u64 n4, .string nm4, .slice sa4 sl4 sc4] HI35_9.out (by simp only [lnC, lnN]; omega))
   have HI60_11 := hI (ap 60 [.string nm7] HI60_9.out (by simp only [lnC, lnN]; omega))
   have HI61_11 := hI (ap 61 [.slice sa7 sl7 sc7] HI61_9.out (by simp only [lnC, lnN]; omega))
   have HI62_11 : Hid (Has cI_11 62 [.bool true]) := hh
   clear LI_10 X10 K10 HI62_9 HI0_9 HI35_9 HI60_9 HI61_9
   have P4_11 := hI (pe_to P4_10.out (fun k o hb h => (oo k (by omega)).trans h))
   have P7_11 := hI (rw_to P7_10.out (fun k o hb h => (oo k (by omega)).trans h))
   clear P4_10 P7_10
   clear hS bb hh ap zz oo kk xx
   have HL12 : Hid (meas 0 m10 ≤ m) := Nat.le_of_lt_succ (meas_next (Adv.trans (⟨Nat.le_of_lt hm1, fun _ => ⟨rfl, hm1⟩⟩) (Adv.trans (A3.out) (Adv.trans (A4.out) (Adv.trans (A6.out) (Adv.trans (A7.out) (⟨Nat.le_of_lt hm10, fun _ => ⟨rfl, hm10⟩⟩)))))))
   refine (HI.out m (by omega) br s 0 m10 w11 X11.out HL12.out (by omega)).mono ?_
   rintro e w12 ⟨nm12, sa12, sl12, sc12, rfl, hk, c12, m12, hx, ha, hp⟩
   have z12 : w11.heap.size ≤ w12.heap.size := hk.size
   have KK := hI hk
   have K12 : Hid (Kq br w w12) := K11.out.trans hk
   have X12 := hI hx
   have A12 := hI ha
   have P12_12 := hI (rw_born hp)
   clear hk hx ha hp
   have LI_12 := vK KK LI_11 (by omega)
   clear LI_11
   have P4_12 := hI (pe_to P4_11.out (fun k o hb h => KK.out.get (by omega) h))
   have P7_12 := hI (rw_to P7_11.out (fun k o hb h => KK.out.get (by omega) h))
   clear P4_11 P7_11
   clear KK
   clear HL12
   obtain ⟨vvI63, hvI63⟩ := LI_12.out.some 63 (by decide)
   obtain ⟨pcI63, pfI63⟩ := LI_12.out.cell hvI63
   clear hvI63
   obtain ⟨vvI64, hvI64⟩ := LI_12.out.some 64 (by decide)
   obtain ⟨pcI64, pfI64⟩ := LI_12.out.cell hvI64
   clear hvI64
   go_upto_region 40 with fail
   generalize hS : w12.setCell ⟨w.heap.size, 63, none⟩ _ = w13
   clear pcI63 pfI63 pcI64 pfI64
   replace hS : setFrom w12 (w.heap.size) 63 [.string nm12] = w13 := hS
   obtain ⟨cI_13, bb, hh, ap, zz, oo, kk, xx⟩ := lb_set hS LI_12.out (by simp only [lnC, lnN]; omega) (one_list rfl)
   have z13 : w12.heap.size ≤ w13.heap.size := by omega
   have K13 : Hid (Kq br w w13) := kk br w K12.out (by omega)
   have X13 : Hid (Sx br s w13 c12 m12) := xx br s c12 m12 X12.out (by omega)
   have LI_13 := hI bb
   have HI0_13 := hI (ap 0 [.int .i64 9] HI0_11.out (by simp only [lnC, lnN]; omega))
   have HI35_13 := hI (ap 35 [.int .i64 k4, .int .i64 a4, .int .i64 op4, .int .i64 wd4, .int .u64 n4, .string nm4, .slice sa4 sl4 sc4] HI35_11.out (by simp only [lnC, lnN]; omega))
   have HI60_13 := hI (ap 60 [.string nm7] HI60_11.out (by simp only [lnC, lnN]; omega))
   have HI61_13 := hI (ap 61 [.slice sa7 sl7 sc7] HI61_11.out (by simp only [lnC, lnN]; omega))
   have HI62_13 := hI (ap 62 [.bool true] HI62_11.out (by simp only [lnC, lnN]; omega))
   have HI63_13 : Hid (Has cI_13 63 [.string nm12]) := hh
   clear LI_12 X12 K12 HI0_11 HI35_11 HI60_11 HI61_11 HI62_11
   have P4_13 := hI (pe_to P4_12.out (fun k o hb h => (oo k (by omega)).trans h))
   have P7_13 := hI (rw_to P7_12.out (fun k o hb h => (oo k (by omega)).trans h))
   have P12_13 := hI (rw_to P12_12.out (fun k o hb h => (oo k (by omega)).trans h))
   clear P4_12 P7_12 P12_12
   clear hS bb hh ap zz oo kk xx
   generalize hS : w13.setCell ⟨w.heap.size, 64, none⟩ _ = w14
   replace hS : setFrom w13 (w.heap.size) 64 [.slice sa12 sl12 sc12] = w14 := hS
   obtain ⟨cI_14, bb, hh, ap, zz, oo, kk, xx⟩ := lb_set hS LI_13.out (by simp only [lnC, lnN]; omega) (one_list rfl)
   have z14 : w13.heap.size ≤ w14.heap.size := by omega
   have K14 : Hid (Kq br w w14) := kk br w K13.out (by omega)
   have X14 : Hid (Sx br s w14 c12 m12) := xx br s c12 m12 X13.out (by omega)
   have LI_14 := hI bb
   have HI0_14 := hI (ap 0 [.int .i64 9] HI0_13.out (by simp only [lnC, lnN]; omega))
   have HI35_14 := hI (ap 35 [.int .i64 k4, .int .i64 a4, .int .i64 op4, .int .i64 wd4, .int .u64 n4, .string nm4, .slice sa4 sl4 sc4] HI35_13.out (by simp only [lnC, lnN]; omega))
   have HI60_14 := hI (ap 60 [.string nm7] HI60_13.out (by simp only [lnC, lnN]; omega))
   have HI61_14 := hI (ap 61 [.slice sa7 sl7 sc7] HI61_13.out (by simp only [lnC, lnN]; omega))
   have HI62_14 := hI (ap 62 [.bool true] HI62_13.out (by simp only [lnC, lnN]; omega))
   have HI63_14 := hI (ap 63 [.string nm12] HI63_13.out (by simp only [lnC, lnN]; omega))
   have HI64_14 : Hid (Has cI_14 64 [.slice sa12 sl12 sc12]) := hh
   clear LI_13 X13 K13 HI0_13 HI35_13 HI60_13 HI61_13 HI62_13 HI63_13
   have P4_14 := hI (pe_to P4_13.out (fun k o hb h => (oo k (by omega)).trans h))
   have P7_14 := hI (rw_to P7_13.out (fun k o hb h => (oo k (by omega)).trans h))
   have P12_14 := hI (rw_to P12_13.out (fun k o hb h => (oo k (by omega)).trans h))
   clear P4_13 P7_13 P12_13
   clear hS bb hh ap zz oo kk xx
   obtain ⟨i5, hi, hzz, hsz, hby⟩ := info95'
   have HI5 := hI hi
   have HZ5 := hI hzz
   have HS5 := hI hsz
   have HB5 := hI hby
   clear hi hzz hsz hby
   have HSZ5 : Hid (cI_14.size = 65) := LI_14.out.size
   have HIN5 : Hid ((Tryz.prog.info? 95).map (·.size) = some cI_14.toList.length) := by show _ = _; rw [Array.length_toList, HSZ5.out]; exact info95
   have HWH5 : Hid (w14.rangeAt (w.heap.size) 0 cI_14.toList) := LI_14.out.whole
   go_wp2_with ((with_reducible refine wpList_id ?_); first | (refine wpList_load_mid rfl 95 (.tmp 3) rfl (w.heap.size) 0 rfl cI_14.toList _ HWH5.out Tryz.underlying95 rfl HIN5.out ?_) | (refine wpList_build_one rfl 38 (.tmp 116) rfl 95 cI_14 65 rfl Tryz.underlying38 i5 HI5.out _ HZ5.out HS5.out HSZ5.out (by decide) (by decide) ?_))
   go_ret
   have AX : Adv 0 m c12 m12 := Adv.trans (⟨Nat.le_of_lt hm1, fun _ => ⟨rfl, hm1⟩⟩) (Adv.trans (A3.out) (Adv.trans (A4.out) (Adv.trans (A6.out) (Adv.trans (A7.out) (Adv.trans (⟨Nat.le_of_lt hm10, fun _ => ⟨rfl, hm10⟩⟩) (A12.out))))))
   have hAX := AX.1
   refine ⟨_, _, _, rfl, K14.out.alloc _, c12, m12, X14.out.alloc _, AX, its_single rfl LI_14.out.big (by show w.heap.size ≤ _; omega) (by omega) (by omega) ?_⟩
   intro hc
   obtain ⟨hcA, hm11⟩ := A12.out.2 hc
   obtain ⟨hc6, hm7⟩ := A7.out.2 (by trivial)
   obtain ⟨hc4, hm6⟩ := A6.out.2 hc6
   obtain ⟨hc3, hm4⟩ := A4.out.2 hc4
   obtain ⟨_, hm3⟩ := A3.out.2 hc3
   obtain ⟨te, hp, hl⟩ := P4_14.out hc4
   obtain ⟨es, hR, hli⟩ := P7_14.out (by trivial)
   have ri := (hR.sub (S' := fun b => w.heap.size ≤ b ∧ b < w14.heap.size) (fun b hb => by show _ ∧ _; omega)).row
   simp only [partTxt_len, len_of] at hli
   obtain ⟨es2, hR2, hli2⟩ := P12_14.out hc
   have ri2 := (hR2.sub (S' := fun b => w.heap.size ≤ b ∧ b < w14.heap.size) (fun b hb => by show _ ∧ _; omega)).row
   simp only [partTxt_len, len_of] at hli2
   refine ⟨_, PI.cond _ LI_14.out.big nm7.data.toList _ k4 [.int .i64 k4, .int .i64 a4, .int .i64 op4, .int .i64 wd4, .int .u64 n4, .string nm4, .slice sa4 sl4 sc4] te es true nm12.data.toList _ es2 HI0_14.out.l HI35_14.out.l (hp.mono (fun b hb => by show _ ∧ _; omega) (fun _ _ _ _ hu => hu)) (by rw [bs_of]; exact HI60_14.out.l) HI61_14.out.l ri.1 (fun i d hd => ri.2 d (List.mem_of_getElem? hd)) HI62_14.out.l (fun _ => ⟨by rw [bs_of]; exact HI63_14.out.l, HI64_14.out.l, ri2.1⟩) (fun i d _ hd => ri2.2 d (List.mem_of_getElem? hd)), ?_⟩
   exact ⟨by simp only [lnC, lnN]; omega, by simp only [List.map_cons, List.map_nil, List.flatten_cons, List.flatten_nil, lnA, lnC, lnN, len_of, partTxt_len, if_true]; omega⟩
  obtain ⟨pcI62, pfI62⟩ := LI_9.out.cell HI62_9.out.head
  go_upto_region 40 with fail
  generalize hS : w9.setCell ⟨w.heap.size, 62, none⟩ _ = w11
  clear pcI62 pfI62
  replace hS : setFrom w9 (w.heap.size) 62 [.bool false] = w11 := hS
  obtain ⟨cI_11, bb, hh, ap, zz, oo, kk, xx⟩ := lb_set hS LI_9.out (by simp only [lnC, lnN]; omega) (one_list rfl)
  have z11 : w9.heap.size ≤ w11.heap.size := by omega
  have K11 : Hid (Kq br w w11) := kk br w K9.out (by omega)
  have X11 : Hid (Sx br s w11 c7 m7) := xx br s c7 m7 X9.out (by omega)
  have LI_11 := hI bb
  have HI0_11 := hI (ap 0 [.int .i64 9] HI0_9.out (by simp only [lnC, lnN]; omega))
  have HI35_11 := hI (ap 35 [.int .i64 k4, .int .i64 a4, .int .i64 op4, .int .i64 wd4, .int .u64 n4, .string nm4, .slice sa4 sl4 sc4] HI35_9.out (by simp only [lnC, lnN]; omega))
  have HI60_11 := hI (ap 60 [.string nm7] HI60_9.out (by simp only [lnC, lnN]; omega))
  have HI61_11 := hI (ap 61 [.slice sa7 sl7 sc7] HI61_9.out (by simp only [lnC, lnN]; omega))
  have HI62_11 : Hid (Has cI_11 62 [.bool false]) := hh
  clear LI_9 X9 K9 HI62_9 HI0_9 HI35_9 HI60_9 HI61_9
  have P4_11 := hI (pe_to P4_9.out (fun k o hb h => (oo k (by omega)).trans h))
  have P7_11 := hI (rw_to P7_9.out (fun k o hb h => (oo k (by omega)).trans h))
  clear P4_9 P7_9
  clear hS bb hh ap zz oo kk xx
  obtain ⟨i5, hi, hzz, hsz, hby⟩ := info95'
  have HI5 := hI hi
  have HZ5 := hI hzz
  have HS5 := hI hsz
  have HB5 := hI hby
  clear hi hzz hsz hby
  have HSZ5 : Hid (cI_11.size = 65) := LI_11.out.size
  have HIN5 : Hid ((Tryz.prog.info? 95).map (·.size) = some cI_11.toList.length) := by show _ = _; rw [Array.length_toList, HSZ5.out]; exact info95
  have HWH5 : Hid (w11.rangeAt (w.heap.size) 0 cI_11.toList) := LI_11.out.whole
  go_wp2_with ((with_reducible refine wpList_id ?_); first | (refine wpList_load_mid rfl 95 (.tmp 3) rfl (w.heap.size) 0 rfl cI_11.toList _ HWH5.out Tryz.underlying95 rfl HIN5.out ?_) | (refine wpList_build_one rfl 38 (.tmp 116) rfl 95 cI_11 65 rfl Tryz.underlying38 i5 HI5.out _ HZ5.out HS5.out HSZ5.out (by decide) (by decide) ?_))
  go_ret
  have AX : Adv 0 m c7 m7 := Adv.trans (⟨Nat.le_of_lt hm1, fun _ => ⟨rfl, hm1⟩⟩) (Adv.trans (A3.out) (Adv.trans (A4.out) (Adv.trans (A6.out) (A7.out))))
  have hAX := AX.1
  refine ⟨_, _, _, rfl, K11.out.alloc _, c7, m7, X11.out.alloc _, AX, its_single rfl LI_11.out.big (by show w.heap.size ≤ _; omega) (by omega) (by omega) ?_⟩
  intro hc
  obtain ⟨hc6, hm7⟩ := A7.out.2 hc
  obtain ⟨hc4, hm6⟩ := A6.out.2 hc6
  obtain ⟨hc3, hm4⟩ := A4.out.2 hc4
  obtain ⟨_, hm3⟩ := A3.out.2 hc3
  obtain ⟨te, hp, hl⟩ := P4_11.out hc4
  obtain ⟨es, hR, hli⟩ := P7_11.out hc
  have ri := (hR.sub (S' := fun b => w.heap.size ≤ b ∧ b < w11.heap.size) (fun b hb => by show _ ∧ _; omega)).row
  simp only [partTxt_len, len_of] at hli
  refine ⟨_, PI.cond _ LI_11.out.big nm7.data.toList _ k4 [.int .i64 k4, .int .i64 a4, .int .i64 op4, .int .i64 wd4, .int .u64 n4, .string nm4, .slice sa4 sl4 sc4] te es false [] (.slice none 0 0) [] HI0_11.out.l HI35_11.out.l (hp.mono (fun b hb => by show _ ∧ _; omega) (fun _ _ _ _ hu => hu)) (by rw [bs_of]; exact HI60_11.out.l) HI61_11.out.l ri.1 (fun i d hd => ri.2 d (List.mem_of_getElem? hd)) HI62_11.out.l (fun e => by cases e) (fun i d e => by cases e), ?_⟩
  exact ⟨by simp only [lnC, lnN]; omega, by simp only [List.map_cons, List.map_nil, List.flatten_cons, List.flatten_nil, lnA, lnC, lnN, len_of, partTxt_len, Bool.false_eq_true, if_false]; omega⟩
 go_wp2_with fail
 refine (use_any br s 0 m w0 X0.out).mono ?_
 rintro e w2 ⟨cs2, rfl, hsz2, hon2, hk, c2, m2, hx, ha, hp⟩
 have z2 : w0.heap.size ≤ w2.heap.size := hk.size
 have KK := hI hk
 have K2 : Hid (Kq br w w2) := K0.out.trans hk
 have X2 := hI hx
 have A2 := hI ha
 have P2_2 := hI (ui_born hp)
 clear hk hx ha hp
 have LI_2 := vK KK LI_0 (by omega)
 clear LI_0
 clear KK
 have HON2 := hI hon2
 clear hon2
 have HSZ2 := hI hsz2
 clear hsz2
 have HTT : Hid (w2.there (w.heap.size) 0 cs2.size) := LI_2.out.there 0 _ (by rw [HSZ2.out]; decide)
 have HTI : Hid ((Tryz.prog.info? 95).map (·.size) = some cs2.size) := info95.trans (congrArg some HSZ2.out.symm)
 have HTO : Hid (cs2.all (·.oneCell') = true) := arr_all HON2.out
 go_upto_region 40 with ((with_reducible refine wpList_id ?_); (refine wpList_store_mid rfl 95 (.tmp 3) (.tmp 11) rfl (w.heap.size) 0 cs2 rfl rfl HTT.out HTI.out HTO.out ?_))
 generalize hS : w2.setCells (w.heap.size) 0 _ = w3
 clear HTT HTI HTO
 replace hS : setFrom w2 (w.heap.size) 0 cs2.toList = w3 := (setCells_from _ _ _ _).symm.trans hS
 obtain ⟨hr, zz, oo, kk, xx⟩ := lb_copy hS LI_2.out HSZ2.out
 have z3 : w2.heap.size ≤ w3.heap.size := by omega
 have K3 : Hid (Kq br w w3) := kk br w K2.out (by omega)
 have X3 : Hid (Sx br s w3 c2 m2) := xx br s c2 m2 X2.out (by omega)
 have LI_3 : Hid (Lb w3 (w.heap.size) 65 95 cs2) := ⟨hr, HSZ2.out, HON2.out⟩
 clear LI_2 X2 K2
 have P2_3 := hI (ui_to P2_2.out (fun k o hb h => (oo k (by omega)).trans h))
 clear P2_2
 clear hS hr zz oo kk xx
 obtain ⟨i5, hi, hzz, hsz, hby⟩ := info95'
 have HI5 := hI hi
 have HZ5 := hI hzz
 have HS5 := hI hsz
 have HB5 := hI hby
 clear hi hzz hsz hby
 have HSZ5 : Hid (cs2.size = 65) := LI_3.out.size
 have HIN5 : Hid ((Tryz.prog.info? 95).map (·.size) = some cs2.toList.length) := by show _ = _; rw [Array.length_toList, HSZ5.out]; exact info95
 have HWH5 : Hid (w3.rangeAt (w.heap.size) 0 cs2.toList) := LI_3.out.whole
 go_wp2_with ((with_reducible refine wpList_id ?_); first | (refine wpList_load_mid rfl 95 (.tmp 3) rfl (w.heap.size) 0 rfl cs2.toList _ HWH5.out Tryz.underlying95 rfl HIN5.out ?_) | (refine wpList_build_one rfl 38 (.tmp 116) rfl 95 cs2 65 rfl Tryz.underlying38 i5 HI5.out _ HZ5.out HS5.out HSZ5.out (by decide) (by decide) ?_))
 go_ret
 have AX : Adv 0 m c2 m2 := A2.out
 have hAX := AX.1
 refine ⟨_, _, _, rfl, K3.out.alloc _, c2, m2, X3.out.alloc _, AX, its_single rfl LI_3.out.big (by show w.heap.size ≤ _; omega) (by omega) (by omega) ?_⟩
 intro hc
 obtain ⟨_, hm2⟩ := A2.out.2 hc
 obtain ⟨t, hp, hl⟩ := P2_3.out hc
 refine ⟨t, hp.mono (fun b hb => by show _ ∧ _; omega) (fun _ _ _ _ hu => hu), ?_⟩
 exact ⟨by simp only [lnC, lnN]; omega, by simp only [List.map_cons, List.map_nil, List.flatten_cons, List.flatten_nil, lnA, lnN]; omega⟩
end Go.Proofs.YtimmmlnememjiaaGreatDoor
