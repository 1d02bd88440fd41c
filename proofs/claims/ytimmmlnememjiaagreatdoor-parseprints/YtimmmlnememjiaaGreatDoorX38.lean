import Derived.Test.YtimmmlnememjiaaGreatDoorX
import Derived.Test.YtimmmlnememjiaaGreatDoorX32
import Derived.Test.YtimmmlnememjiaaGreatDoorX34
set_option maxRecDepth 100000
set_option maxHeartbeats 16000000
namespace Go.Proofs.YtimmmlnememjiaaGreatDoor
open Go.RowKit
theorem q_set1 {B bp : Nat} {w0 : World} (kk a nm vs va : Value) (b cap : Nat)(h0 h1 h2 h3 h4 h5 h6 l0 l1 l2 l3 l4 l5 l6 : Value)(t1 t2 : List UInt8)  (b_b : Hid (b < B)) (m0 : Hid (w0.cell? ⟨b, 0, none⟩ = some (h0))) (m1 : Hid (w0.cell? ⟨b, 1, none⟩ = some (h1))) (m2 : Hid (w0.cell? ⟨b, 2, none⟩ = some (h2))) (m3 : Hid (w0.cell? ⟨b, 3, none⟩ = some (h3))) (m4 : Hid (w0.cell? ⟨b, 4, none⟩ = some (h4))) (m5 : Hid (w0.cell? ⟨b, 5, none⟩ = some (h5))) (m6 : Hid (w0.cell? ⟨b, 6, none⟩ = some (h6))) (m7 : Hid (w0.cell? ⟨b, 7, none⟩ = some (l0))) (m8 : Hid (w0.cell? ⟨b, 8, none⟩ = some (l1))) (m9 : Hid (w0.cell? ⟨b, 9, none⟩ = some (l2))) (m10 : Hid (w0.cell? ⟨b, 10, none⟩ = some (l3))) (m11 : Hid (w0.cell? ⟨b, 11, none⟩ = some (l4))) (m12 : Hid (w0.cell? ⟨b, 12, none⟩ = some (l5))) (m13 : Hid (w0.cell? ⟨b, 13, none⟩ = some (l6))) (ih1 : Hid (Puts B bp w0 62 #[.pointer (some ⟨bp, 0, none⟩), .agg #[h0, h1, h2, h3, h4, h5, h6]] t1))(ih2 : Hid (Puts B bp w0 62 #[.pointer (some ⟨bp, 0, none⟩), .agg #[l0, l1, l2, l3, l4, l5, l6]] t2)) :
 Puts B bp w0 92 #[.pointer (some ⟨bp, 0, none⟩), .agg #[kk, a, .bool true, nm, .slice (some ⟨b, 0, none⟩) 2 cap, vs, va]] (t1 ++ [32, 60, 61, 32] ++ t2 ++ [59]) := by
 intro w tx hb hsz hp hlen
 have HL := hidp hlen
 have HB := hidp hb
 have HP0 := hidp hp
 clear hlen hb hp
 generalize hTT : (t1 ++ [32, 60, 61, 32] ++ t2 ++ [59] : List UInt8) = tt
 have HT := hidp hTT
 clear hTT
 have HQ0 : Hid (Qp B bp w (w.alloc (.cells #[kk, a, .bool true, nm, .slice (some ⟨b, 0, none⟩) 2 cap, vs, va] 93))) := (Qp.refl _ _ _).alloc hsz _
 have d0 := dl HB HQ0 b_b m0
 have d1 := dl HB HQ0 b_b m1
 have d2 := dl HB HQ0 b_b m2
 have d3 := dl HB HQ0 b_b m3
 have d4 := dl HB HQ0 b_b m4
 have d5 := dl HB HQ0 b_b m5
 have d6 := dl HB HQ0 b_b m6
 go_enter Tryz.func92, Tryz.ntmps92
 go_wp2_with fail
 clear HQ0 d0 d1 d2 d3 d4 d5 d6
 generalize hW : w.alloc (.cells #[kk, a, .bool true, nm, .slice (some ⟨b, 0, none⟩) 2 cap, vs, va] 93) = W at *
 obtain ⟨HP1, hzW, HQ1, HK1, HNE, HZZ⟩ := q_boxH HP0 hsz hW
 clear hW
 refine nxb HQ1 hzW HK1 HNE (by decide) (ih1.out W _ (HB.out.trans HQ1.out.1) hzW HP1.out (by have := HL.out; simp at this ⊢; omega)) fun w1 HP2 HQ2 z2 HK2 => ?_
 have c2_2 := cl HK2 2 (.bool true) rfl
 have c2_4 := cl HK2 4 (.slice (some ⟨b, 0, none⟩) 2 cap) rfl
 go_wp2_with fail
 refine nxb HQ2 z2 HK2 HNE (by decide) (put1 (w := w1) HP2.out z2 rfl (⟨#[32, 60, 61, 32]⟩) [32, 60, 61, 32] rfl (by have := HL.out; simp at this ⊢; omega)) fun w2 HP3 HQ3 z3 HK3 => ?_
 have c3_2 := cl HK3 2 (.bool true) rfl
 have c3_4 := cl HK3 4 (.slice (some ⟨b, 0, none⟩) 2 cap) rfl
 have d7_2 := dl HB HQ3 b_b m7
 have d8_2 := dl HB HQ3 b_b m8
 have d9_2 := dl HB HQ3 b_b m9
 have d10_2 := dl HB HQ3 b_b m10
 have d11_2 := dl HB HQ3 b_b m11
 have d12_2 := dl HB HQ3 b_b m12
 have d13_2 := dl HB HQ3 b_b m13
 clear c2_2 c2_4
 go_wp2_with fail
 refine nxb HQ3 z3 HK3 HNE (by decide) (ih2.out w2 _ (HB.out.trans HQ3.out.1) z3 HP3.out (by have := HL.out; simp at this ⊢; omega)) fun w3 HP4 HQ4 z4 HK4 => ?_
 have c4_2 := cl HK4 2 (.bool true) rfl
 have c4_4 := cl HK4 4 (.slice (some ⟨b, 0, none⟩) 2 cap) rfl
 clear c3_2 c3_4 d7_2 d8_2 d9_2 d10_2 d11_2 d12_2 d13_2
 go_wp2_with fail
 refine nx HQ4 z4 (put1 (w := w3) HP4.out z4 rfl ⟨#[59]⟩ [59] rfl (by have := HL.out; simp at this ⊢; omega)) fun w4 HP5 HQ5 z5 => ?_
 clear c4_2 c4_4
 go_wp2_with fail
 go_end0
 exact ⟨rfl, by rw [← HT.out]; have := HP5.out; simpa only [List.append_assoc] using this, HQ5.out⟩
theorem q_set0 {B bp : Nat} {w0 : World} (kk a nm vs va : Value) (b cap : Nat)(h0 h1 h2 h3 h4 h5 h6 l0 l1 l2 l3 l4 l5 l6 : Value)(t1 t2 : List UInt8)  (b_b : Hid (b < B)) (m0 : Hid (w0.cell? ⟨b, 0, none⟩ = some (h0))) (m1 : Hid (w0.cell? ⟨b, 1, none⟩ = some (h1))) (m2 : Hid (w0.cell? ⟨b, 2, none⟩ = some (h2))) (m3 : Hid (w0.cell? ⟨b, 3, none⟩ = some (h3))) (m4 : Hid (w0.cell? ⟨b, 4, none⟩ = some (h4))) (m5 : Hid (w0.cell? ⟨b, 5, none⟩ = some (h5))) (m6 : Hid (w0.cell? ⟨b, 6, none⟩ = some (h6))) (m7 : Hid (w0.cell? ⟨b, 7, none⟩ = some (l0))) (m8 : Hid (w0.cell? ⟨b, 8, none⟩ = some (l1))) (m9 : Hid (w0.cell? ⟨b, 9, none⟩ = some (l2))) (m10 : Hid (w0.cell? ⟨b, 10, none⟩ = some (l3))) (m11 : Hid (w0.cell? ⟨b, 11, none⟩ = some (l4))) (m12 : Hid (w0.cell? ⟨b, 12, none⟩ = some (l5))) (m13 : Hid (w0.cell? ⟨b, 13, none⟩ = some (l6))) (ih1 : Hid (Puts B bp w0 62 #[.pointer (some ⟨bp, 0, none⟩), .agg #[h0, h1, h2, h3, h4, h5, h6]] t1))(ih2 : Hid (Puts B bp w0 62 #[.pointer (some ⟨bp, 0, none⟩), .agg #[l0, l1, l2, l3, l4, l5, l6]] t2)) :
 Puts B bp w0 92 #[.pointer (some ⟨bp, 0, none⟩), .agg #[kk, a, .bool false, nm, .slice (some ⟨b, 0, none⟩) 2 cap, vs, va]] (t1 ++ [32, 61, 32] ++ t2 ++ [59]) := by
 intro w tx hb hsz hp hlen
 have HL := hidp hlen
 have HB := hidp hb
 have HP0 := hidp hp
 clear hlen hb hp
 generalize hTT : (t1 ++ [32, 61, 32] ++ t2 ++ [59] : List UInt8) = tt
 have HT := hidp hTT
 clear hTT
 have HQ0 : Hid (Qp B bp w (w.alloc (.cells #[kk, a, .bool false, nm, .slice (some ⟨b, 0, none⟩) 2 cap, vs, va] 93))) := (Qp.refl _ _ _).alloc hsz _
 have d0 := dl HB HQ0 b_b m0
 have d1 := dl HB HQ0 b_b m1
 have d2 := dl HB HQ0 b_b m2
 have d3 := dl HB HQ0 b_b m3
 have d4 := dl HB HQ0 b_b m4
 have d5 := dl HB HQ0 b_b m5
 have d6 := dl HB HQ0 b_b m6
 go_enter Tryz.func92, Tryz.ntmps92
 go_wp2_with fail
 clear HQ0 d0 d1 d2 d3 d4 d5 d6
 generalize hW : w.alloc (.cells #[kk, a, .bool false, nm, .slice (some ⟨b, 0, none⟩) 2 cap, vs, va] 93) = W at *
 obtain ⟨HP1, hzW, HQ1, HK1, HNE, HZZ⟩ := q_boxH HP0 hsz hW
 clear hW
 refine nxb HQ1 hzW HK1 HNE (by decide) (ih1.out W _ (HB.out.trans HQ1.out.1) hzW HP1.out (by have := HL.out; simp at this ⊢; omega)) fun w1 HP2 HQ2 z2 HK2 => ?_
 have c2_2 := cl HK2 2 (.bool false) rfl
 have c2_4 := cl HK2 4 (.slice (some ⟨b, 0, none⟩) 2 cap) rfl
 go_wp2_with fail
 refine nxb HQ2 z2 HK2 HNE (by decide) (put1 (w := w1) HP2.out z2 rfl (⟨#[32, 61, 32]⟩) [32, 61, 32] rfl (by have := HL.out; simp at this ⊢; omega)) fun w2 HP3 HQ3 z3 HK3 => ?_
 have c3_2 := cl HK3 2 (.bool false) rfl
 have c3_4 := cl HK3 4 (.slice (some ⟨b, 0, none⟩) 2 cap) rfl
 have d7_2 := dl HB HQ3 b_b m7
 have d8_2 := dl HB HQ3 b_b m8
 have d9_2 := dl HB HQ3 b_b m9
 have d10_2 := dl HB HQ3 b_b m10
 have d11_2 := dl HB HQ3 b_b m11
 have d12_2 := dl HB HQ3 b_b m12
 have d13_2 := dl HB HQ3 b_b m13
 clear c2_2 c2_4
 go_wp2_with fail
 refine nxb HQ3 z3 HK3 HNE (by decide) (ih2.out w2 _ (HB.out.trans HQ3.out.1) z3 HP3.out (by have := HL.out; simp at this ⊢; omega)) fun w3 HP4 HQ4 z4 HK4 => ?_
 have c4_2 := cl HK4 2 (.bool false) rfl
 have c4_4 := cl HK4 4 (.slice (some ⟨b, 0, none⟩) 2 cap) rfl
 clear c3_2 c3_4 d7_2 d8_2 d9_2 d10_2 d11_2 d12_2 d13_2
 go_wp2_with fail
 refine nx HQ4 z4 (put1 (w := w3) HP4.out z4 rfl ⟨#[59]⟩ [59] rfl (by have := HL.out; simp at this ⊢; omega)) fun w4 HP5 HQ5 z5 => ?_
 clear c4_2 c4_4
 go_wp2_with fail
 go_end0
 exact ⟨rfl, by rw [← HT.out]; have := HP5.out; simpa only [List.append_assoc] using this, HQ5.out⟩
theorem q_loop {B bp : Nat} {w0 : World} (nm t1 t2 t3 : List UInt8)(b cap : Nat)(h0 h1 h2 h3 h4 h5 h6 l0 l1 l2 l3 l4 l5 l6 u0 u1 u2 u3 u4 u5 u6 : Value)  (b_b : Hid (b < B)) (m0 : Hid (w0.cell? ⟨b, 0, none⟩ = some (h0))) (m1 : Hid (w0.cell? ⟨b, 1, none⟩ = some (h1))) (m2 : Hid (w0.cell? ⟨b, 2, none⟩ = some (h2))) (m3 : Hid (w0.cell? ⟨b, 3, none⟩ = some (h3))) (m4 : Hid (w0.cell? ⟨b, 4, none⟩ = some (h4))) (m5 : Hid (w0.cell? ⟨b, 5, none⟩ = some (h5))) (m6 : Hid (w0.cell? ⟨b, 6, none⟩ = some (h6))) (m7 : Hid (w0.cell? ⟨b, 7, none⟩ = some (l0))) (m8 : Hid (w0.cell? ⟨b, 8, none⟩ = some (l1))) (m9 : Hid (w0.cell? ⟨b, 9, none⟩ = some (l2))) (m10 : Hid (w0.cell? ⟨b, 10, none⟩ = some (l3))) (m11 : Hid (w0.cell? ⟨b, 11, none⟩ = some (l4))) (m12 : Hid (w0.cell? ⟨b, 12, none⟩ = some (l5))) (m13 : Hid (w0.cell? ⟨b, 13, none⟩ = some (l6))) (m14 : Hid (w0.cell? ⟨b, 14, none⟩ = some (u0))) (m15 : Hid (w0.cell? ⟨b, 15, none⟩ = some (u1))) (m16 : Hid (w0.cell? ⟨b, 16, none⟩ = some (u2))) (m17 : Hid (w0.cell? ⟨b, 17, none⟩ = some (u3))) (m18 : Hid (w0.cell? ⟨b, 18, none⟩ = some (u4))) (m19 : Hid (w0.cell? ⟨b, 19, none⟩ = some (u5))) (m20 : Hid (w0.cell? ⟨b, 20, none⟩ = some (u6))) (ih1 : Hid (Puts B bp w0 44 #[.pointer (some ⟨bp, 0, none⟩), .agg #[h0, h1, h2, h3, h4, h5, h6]] t1))(ih2 : Hid (Puts B bp w0 62 #[.pointer (some ⟨bp, 0, none⟩), .agg #[l0, l1, l2, l3, l4, l5, l6]] t2))(ih3 : Hid (Puts B bp w0 44 #[.pointer (some ⟨bp, 0, none⟩), .agg #[u0, u1, u2, u3, u4, u5, u6]] t3)) :
 Puts B bp w0 67 #[.pointer (some ⟨bp, 0, none⟩), .string (bs nm), .slice (some ⟨b, 0, none⟩) 3 cap] ([102, 111, 114, 32, 40] ++ nm ++ t1 ++ [59, 32] ++ t2 ++ [59, 32] ++ nm ++ t3 ++ [41]) := by
 intro w tx hb hsz hp hlen
 have HL := hidp hlen
 have HB := hidp hb
 have HP0 := hidp hp
 clear hlen hb hp
 generalize hTT : ([102, 111, 114, 32, 40] ++ nm ++ t1 ++ [59, 32] ++ t2 ++ [59, 32] ++ nm ++ t3 ++ [41] : List UInt8) = tt
 have HT := hidp hTT
 clear hTT
 go_enter Tryz.func67, Tryz.ntmps67
 go_wp2_with fail
 have HP1 := HP0
 have HQ1 := hidp (Qp.refl B bp w)
 refine nx HQ1 hsz (put2 (w := w) HP1.out hsz rfl (⟨#[102, 111, 114, 32, 40]⟩) (bs nm) [102, 111, 114, 32, 40] nm rfl rfl (by have := HL.out; simp at this ⊢; omega)) fun w1 HP2 HQ2 z2 => ?_
 have d0_1 := dl HB HQ2 b_b m0
 have d1_1 := dl HB HQ2 b_b m1
 have d2_1 := dl HB HQ2 b_b m2
 have d3_1 := dl HB HQ2 b_b m3
 have d4_1 := dl HB HQ2 b_b m4
 have d5_1 := dl HB HQ2 b_b m5
 have d6_1 := dl HB HQ2 b_b m6
 go_wp2_with fail
 refine nx HQ2 z2 (ih1.out w1 _ (HB.out.trans HQ2.out.1) z2 HP2.out (by have := HL.out; simp at this ⊢; omega)) fun w2 HP3 HQ3 z3 => ?_
 clear d0_1 d1_1 d2_1 d3_1 d4_1 d5_1 d6_1
 go_wp2_with fail
 refine nx HQ3 z3 (put1 (w := w2) HP3.out z3 rfl (⟨#[59, 32]⟩) [59, 32] rfl (by have := HL.out; simp at this ⊢; omega)) fun w3 HP4 HQ4 z4 => ?_
 have d7_3 := dl HB HQ4 b_b m7
 have d8_3 := dl HB HQ4 b_b m8
 have d9_3 := dl HB HQ4 b_b m9
 have d10_3 := dl HB HQ4 b_b m10
 have d11_3 := dl HB HQ4 b_b m11
 have d12_3 := dl HB HQ4 b_b m12
 have d13_3 := dl HB HQ4 b_b m13
 go_wp2_with fail
 refine nx HQ4 z4 (ih2.out w3 _ (HB.out.trans HQ4.out.1) z4 HP4.out (by have := HL.out; simp at this ⊢; omega)) fun w4 HP5 HQ5 z5 => ?_
 clear d7_3 d8_3 d9_3 d10_3 d11_3 d12_3 d13_3
 go_wp2_with fail
 refine nx HQ5 z5 (put2 (w := w4) HP5.out z5 rfl (⟨#[59, 32]⟩) (bs nm) [59, 32] nm rfl rfl (by have := HL.out; simp at this ⊢; omega)) fun w5 HP6 HQ6 z6 => ?_
 have d14_5 := dl HB HQ6 b_b m14
 have d15_5 := dl HB HQ6 b_b m15
 have d16_5 := dl HB HQ6 b_b m16
 have d17_5 := dl HB HQ6 b_b m17
 have d18_5 := dl HB HQ6 b_b m18
 have d19_5 := dl HB HQ6 b_b m19
 have d20_5 := dl HB HQ6 b_b m20
 go_wp2_with fail
 refine nx HQ6 z6 (ih3.out w5 _ (HB.out.trans HQ6.out.1) z6 HP6.out (by have := HL.out; simp at this ⊢; omega)) fun w6 HP7 HQ7 z7 => ?_
 clear d14_5 d15_5 d16_5 d17_5 d18_5 d19_5 d20_5
 go_wp2_with fail
 refine nx HQ7 z7 (put1 (w := w6) HP7.out z7 rfl ⟨#[41]⟩ [41] rfl (by have := HL.out; simp at this ⊢; omega)) fun w7 HP8 HQ8 z8 => ?_
 go_wp2_with fail
 go_end0
 exact ⟨rfl, by rw [← HT.out]; have := HP8.out; simpa only [List.append_assoc] using this, HQ8.out⟩
theorem q_hash {B bp : Nat} {w0 : World} (t1 : List UInt8)(f : Value) (pa : Option Addr) (n cap : Nat) (hn : ((n : Int) == 0) = false)    (ih1 : Hid (Puts B bp w0 43 #[.pointer (some ⟨bp, 0, none⟩), .slice pa n cap, f] t1)) :
 Puts B bp w0 24 #[.pointer (some ⟨bp, 0, none⟩), .slice pa n cap, f] ([35, 40] ++ t1 ++ [41, 32]) := by
 intro w tx hb hsz hp hlen
 have HL := hidp hlen
 have HB := hidp hb
 have HP0 := hidp hp
 clear hlen hb hp
 generalize hTT : ([35, 40] ++ t1 ++ [41, 32] : List UInt8) = tt
 have HT := hidp hTT
 clear hTT
 go_enter Tryz.func24, Tryz.ntmps24
 go_wp2_with fail
 have HP1 := HP0
 have HQ1 := hidp (Qp.refl B bp w)
 refine nx HQ1 hsz (put1 (w := w) HP1.out hsz rfl (⟨#[35, 40]⟩) [35, 40] rfl (by have := HL.out; simp at this ⊢; omega)) fun w1 HP2 HQ2 z2 => ?_
 go_wp2_with fail
 refine nx HQ2 z2 (ih1.out w1 _ (HB.out.trans HQ2.out.1) z2 HP2.out (by have := HL.out; simp at this ⊢; omega)) fun w2 HP3 HQ3 z3 => ?_
 go_wp2_with fail
 refine nx HQ3 z3 (put1 (w := w2) HP3.out z3 rfl (⟨#[41, 32]⟩) [41, 32] rfl (by have := HL.out; simp at this ⊢; omega)) fun w3 HP4 HQ4 z4 => ?_
 go_wp2_with fail
 go_end0
 exact ⟨rfl, by rw [← HT.out]; have := HP4.out; simpa only [List.append_assoc] using this, HQ4.out⟩
theorem q_hash_nil {B bp : Nat} {w0 : World} (f : Value) : Puts B bp w0 24 #[.pointer (some ⟨bp, 0, none⟩), .slice none 0 0, f] [] := by
 intro w tx hb hsz hp hlen
 have HP0 := hidp hp
 clear hlen hb hp
 go_enter Tryz.func24, Tryz.ntmps24
 go_wp2_with fail
 go_end0
 exact ⟨rfl, by rw [List.append_nil]; exact HP0.out, Qp.refl _ _ _⟩
theorem q_width0 {B bp : Nat} {w0 : World} (r0 r1 r2 r3 r4 r5 r6 r7 r8 r9 r10 r11 r12 r13 : Value) : Puts B bp w0 45 #[.pointer (some ⟨bp, 0, none⟩), .agg #[.bool false, r0, r1, r2, r3, r4, r5, r6, r7, r8, r9, r10, r11, r12, r13]] [] := by
 intro w tx hb hsz hp hlen
 have HP0 := hidp hp
 clear hlen hb hp
 go_enter Tryz.func45, Tryz.ntmps45
 go_wp2_with fail
 go_end0
 exact ⟨rfl, by rw [List.append_nil]; exact HP0.out.alloc _, (Qp.refl _ _ _).alloc hsz _⟩
theorem q_i1 {B bp : Nat} {w0 : World} (cs : List Value) (hcs : cs.length = 65) (t1 : List UInt8) (f0 : cs[0]? = some (.int .i64 1))   (ih1 : Hid (Puts B bp w0 64 #[.pointer (some ⟨bp, 0, none⟩), .agg cs.toArray] t1)) :
 Puts B bp w0 46 #[.pointer (some ⟨bp, 0, none⟩), .agg cs.toArray] (t1) := by
 intro w tx hb hsz hp hlen
 have HL := hidp hlen
 have HB := hidp hb
 have HP0 := hidp hp
 clear hlen hb hp
 have e0 : (w.alloc (.cells cs.toArray 95)).cell? ⟨w.heap.size, 0, none⟩ = some (.int .i64 1) := by simp [f0]
 go_enter Tryz.func46, Tryz.ntmps46
 have HLO : Hid ((w.alloc (.cells cs.toArray 95)).rangeAt w.heap.size 0 cs) := range_of (heap_new _ _)
 have HSL : Hid ((Tryz.prog.info? 95).map (·.size) = some cs.length) := by show _ = _; rw [hcs]; kernel_rfl
 have tok : True := trivial
 go_wp2_with (have _t := tok; refine wpList_load_mid rfl 95 (.tmp 3) rfl w.heap.size 0 rfl cs _ HLO.out Tryz.underlying95 rfl HSL.out ?_; clear tok)
 clear HLO
 clear e0
 generalize hW : w.alloc (.cells cs.toArray 95) = W at *
 obtain ⟨HP1, hzW, HQ1, HK1, HNE, HZZ⟩ := q_boxH HP0 hsz hW
 clear hW
 refine nx HQ1 hzW (ih1.out W _ (HB.out.trans HQ1.out.1) hzW HP1.out (HL.out)) fun w1 HP2 HQ2 z2 => ?_
 go_wp2_with fail
 go_end0
 exact ⟨rfl, by exact HP2.out, HQ2.out⟩
theorem q_i2 {B bp : Nat} {w0 : World} (cs : List Value) (hcs : cs.length = 65) (t1 : List UInt8) (f0 : cs[0]? = some (.int .i64 2))   (ih1 : Hid (Puts B bp w0 64 #[.pointer (some ⟨bp, 0, none⟩), .agg cs.toArray] t1)) :
 Puts B bp w0 46 #[.pointer (some ⟨bp, 0, none⟩), .agg cs.toArray] (t1) := by
 intro w tx hb hsz hp hlen
 have HL := hidp hlen
 have HB := hidp hb
 have HP0 := hidp hp
 clear hlen hb hp
 have e0 : (w.alloc (.cells cs.toArray 95)).cell? ⟨w.heap.size, 0, none⟩ = some (.int .i64 2) := by simp [f0]
 go_enter Tryz.func46, Tryz.ntmps46
 have HLO : Hid ((w.alloc (.cells cs.toArray 95)).rangeAt w.heap.size 0 cs) := range_of (heap_new _ _)
 have HSL : Hid ((Tryz.prog.info? 95).map (·.size) = some cs.length) := by show _ = _; rw [hcs]; kernel_rfl
 have tok : True := trivial
 go_wp2_with (have _t := tok; refine wpList_load_mid rfl 95 (.tmp 3) rfl w.heap.size 0 rfl cs _ HLO.out Tryz.underlying95 rfl HSL.out ?_; clear tok)
 clear HLO
 clear e0
 generalize hW : w.alloc (.cells cs.toArray 95) = W at *
 obtain ⟨HP1, hzW, HQ1, HK1, HNE, HZZ⟩ := q_boxH HP0 hsz hW
 clear hW
 refine nx HQ1 hzW (ih1.out W _ (HB.out.trans HQ1.out.1) hzW HP1.out (HL.out)) fun w1 HP2 HQ2 z2 => ?_
 go_wp2_with fail
 go_end0
 exact ⟨rfl, by exact HP2.out, HQ2.out⟩
theorem q_i3 {B bp : Nat} {w0 : World} (cs : List Value) (hcs : cs.length = 65) (t1 : List UInt8) (f0 : cs[0]? = some (.int .i64 3))   (ih1 : Hid (Puts B bp w0 64 #[.pointer (some ⟨bp, 0, none⟩), .agg cs.toArray] t1)) :
 Puts B bp w0 46 #[.pointer (some ⟨bp, 0, none⟩), .agg cs.toArray] (t1) := by
 intro w tx hb hsz hp hlen
 have HL := hidp hlen
 have HB := hidp hb
 have HP0 := hidp hp
 clear hlen hb hp
 have e0 : (w.alloc (.cells cs.toArray 95)).cell? ⟨w.heap.size, 0, none⟩ = some (.int .i64 3) := by simp [f0]
 go_enter Tryz.func46, Tryz.ntmps46
 have HLO : Hid ((w.alloc (.cells cs.toArray 95)).rangeAt w.heap.size 0 cs) := range_of (heap_new _ _)
 have HSL : Hid ((Tryz.prog.info? 95).map (·.size) = some cs.length) := by show _ = _; rw [hcs]; kernel_rfl
 have tok : True := trivial
 go_wp2_with (have _t := tok; refine wpList_load_mid rfl 95 (.tmp 3) rfl w.heap.size 0 rfl cs _ HLO.out Tryz.underlying95 rfl HSL.out ?_; clear tok)
 clear HLO
 clear e0
 generalize hW : w.alloc (.cells cs.toArray 95) = W at *
 obtain ⟨HP1, hzW, HQ1, HK1, HNE, HZZ⟩ := q_boxH HP0 hsz hW
 clear hW
 refine nx HQ1 hzW (ih1.out W _ (HB.out.trans HQ1.out.1) hzW HP1.out (HL.out)) fun w1 HP2 HQ2 z2 => ?_
 go_wp2_with fail
 go_end0
 exact ⟨rfl, by exact HP2.out, HQ2.out⟩
theorem q_i6 {B bp : Nat} {w0 : World} (cs : List Value) (hcs : cs.length = 65) (t1 : List UInt8) (f0 : cs[0]? = some (.int .i64 6))   (ih1 : Hid (Puts B bp w0 65 #[.pointer (some ⟨bp, 0, none⟩), .agg cs.toArray] t1)) :
 Puts B bp w0 46 #[.pointer (some ⟨bp, 0, none⟩), .agg cs.toArray] (t1) := by
 intro w tx hb hsz hp hlen
 have HL := hidp hlen
 have HB := hidp hb
 have HP0 := hidp hp
 clear hlen hb hp
 have e0 : (w.alloc (.cells cs.toArray 95)).cell? ⟨w.heap.size, 0, none⟩ = some (.int .i64 6) := by simp [f0]
 go_enter Tryz.func46, Tryz.ntmps46
 have HLO : Hid ((w.alloc (.cells cs.toArray 95)).rangeAt w.heap.size 0 cs) := range_of (heap_new _ _)
 have HSL : Hid ((Tryz.prog.info? 95).map (·.size) = some cs.length) := by show _ = _; rw [hcs]; kernel_rfl
 have tok : True := trivial
 go_wp2_with (have _t := tok; refine wpList_load_mid rfl 95 (.tmp 3) rfl w.heap.size 0 rfl cs _ HLO.out Tryz.underlying95 rfl HSL.out ?_; clear tok)
 clear HLO
 clear e0
 generalize hW : w.alloc (.cells cs.toArray 95) = W at *
 obtain ⟨HP1, hzW, HQ1, HK1, HNE, HZZ⟩ := q_boxH HP0 hsz hW
 clear hW
 refine nx HQ1 hzW (ih1.out W _ (HB.out.trans HQ1.out.1) hzW HP1.out (HL.out)) fun w1 HP2 HQ2 z2 => ?_
 go_wp2_with fail
 go_end0
 exact ⟨rfl, by exact HP2.out, HQ2.out⟩
theorem q_i7 {B bp : Nat} {w0 : World} (cs : List Value) (hcs : cs.length = 65) (t1 : List UInt8) (f0 : cs[0]? = some (.int .i64 7))   (ih1 : Hid (Puts B bp w0 66 #[.pointer (some ⟨bp, 0, none⟩), .agg cs.toArray] t1)) :
 Puts B bp w0 46 #[.pointer (some ⟨bp, 0, none⟩), .agg cs.toArray] (t1) := by
 intro w tx hb hsz hp hlen
 have HL := hidp hlen
 have HB := hidp hb
 have HP0 := hidp hp
 clear hlen hb hp
 have e0 : (w.alloc (.cells cs.toArray 95)).cell? ⟨w.heap.size, 0, none⟩ = some (.int .i64 7) := by simp [f0]
 go_enter Tryz.func46, Tryz.ntmps46
 have HLO : Hid ((w.alloc (.cells cs.toArray 95)).rangeAt w.heap.size 0 cs) := range_of (heap_new _ _)
 have HSL : Hid ((Tryz.prog.info? 95).map (·.size) = some cs.length) := by show _ = _; rw [hcs]; kernel_rfl
 have tok : True := trivial
 go_wp2_with (have _t := tok; refine wpList_load_mid rfl 95 (.tmp 3) rfl w.heap.size 0 rfl cs _ HLO.out Tryz.underlying95 rfl HSL.out ?_; clear tok)
 clear HLO
 clear e0
 generalize hW : w.alloc (.cells cs.toArray 95) = W at *
 obtain ⟨HP1, hzW, HQ1, HK1, HNE, HZZ⟩ := q_boxH HP0 hsz hW
 clear hW
 refine nx HQ1 hzW (ih1.out W _ (HB.out.trans HQ1.out.1) hzW HP1.out (HL.out)) fun w1 HP2 HQ2 z2 => ?_
 go_wp2_with fail
 go_end0
 exact ⟨rfl, by exact HP2.out, HQ2.out⟩
theorem q_i4 {B bp : Nat} {w0 : World} (cs : List Value) (nm t1 : List UInt8)(h0 h1 h2 h3 h4 h5 h6 : Value) (f0 : cs[0]? = some (.int .i64 4)) (f2 : cs[2]? = some (.string (bs nm))) (f35 : cs[35]? = some (h0)) (f36 : cs[36]? = some (h1)) (f37 : cs[37]? = some (h2)) (f38 : cs[38]? = some (h3)) (f39 : cs[39]? = some (h4)) (f40 : cs[40]? = some (h5)) (f41 : cs[41]? = some (h6))   (ih1 : Hid (Puts B bp w0 44 #[.pointer (some ⟨bp, 0, none⟩), .agg #[h0, h1, h2, h3, h4, h5, h6]] t1)) :
 Puts B bp w0 46 #[.pointer (some ⟨bp, 0, none⟩), .agg cs.toArray] ([108, 111, 99, 97, 108, 112, 97, 114, 97, 109, 32] ++ nm ++ t1 ++ [59]) := by
 intro w tx hb hsz hp hlen
 have HL := hidp hlen
 have HB := hidp hb
 have HP0 := hidp hp
 clear hlen hb hp
 generalize hTT : ([108, 111, 99, 97, 108, 112, 97, 114, 97, 109, 32] ++ nm ++ t1 ++ [59] : List UInt8) = tt
 have HT := hidp hTT
 clear hTT
 have e0 : (w.alloc (.cells cs.toArray 95)).cell? ⟨w.heap.size, 0, none⟩ = some (.int .i64 4) := by simp [f0]
 have e2 : (w.alloc (.cells cs.toArray 95)).cell? ⟨w.heap.size, 2, none⟩ = some (.string (bs nm)) := by simp [f2]
 go_enter Tryz.func46, Tryz.ntmps46
 go_wp2_with fail
 clear e0 e2
 generalize hW : w.alloc (.cells cs.toArray 95) = W at *
 obtain ⟨HP1, hzW, HQ1, HK1, HNE, HZZ⟩ := q_boxH HP0 hsz hW
 clear hW
 refine nxb HQ1 hzW HK1 HNE (by decide) (put2 (w := W) HP1.out hzW HZZ.out (⟨#[108, 111, 99, 97, 108, 112, 97, 114, 97, 109, 32]⟩) (bs nm) [108, 111, 99, 97, 108, 112, 97, 114, 97, 109, 32] nm rfl rfl (by have := HL.out; simp at this ⊢; omega)) fun w1 HP2 HQ2 z2 HK2 => ?_
 have c2_0 := cl HK2 0 (.int .i64 4) (by simpa using f0)
 have c2_2 := cl HK2 2 (.string (bs nm)) (by simpa using f2)
 have c2_35 := cl HK2 35 (h0) (by simpa using f35)
 have c2_36 := cl HK2 36 (h1) (by simpa using f36)
 have c2_37 := cl HK2 37 (h2) (by simpa using f37)
 have c2_38 := cl HK2 38 (h3) (by simpa using f38)
 have c2_39 := cl HK2 39 (h4) (by simpa using f39)
 have c2_40 := cl HK2 40 (h5) (by simpa using f40)
 have c2_41 := cl HK2 41 (h6) (by simpa using f41)
 go_wp2_with fail
 refine nxb HQ2 z2 HK2 HNE (by decide) (ih1.out w1 _ (HB.out.trans HQ2.out.1) z2 HP2.out (by have := HL.out; simp at this ⊢; omega)) fun w2 HP3 HQ3 z3 HK3 => ?_
 have c3_0 := cl HK3 0 (.int .i64 4) (by simpa using f0)
 have c3_2 := cl HK3 2 (.string (bs nm)) (by simpa using f2)
 clear c2_0 c2_2 c2_35 c2_36 c2_37 c2_38 c2_39 c2_40 c2_41
 go_wp2_with fail
 refine nx HQ3 z3 (put1 (w := w2) HP3.out z3 rfl ⟨#[59]⟩ [59] rfl (by have := HL.out; simp at this ⊢; omega)) fun w3 HP4 HQ4 z4 => ?_
 clear c3_0 c3_2
 go_wp2_with fail
 go_end0
 exact ⟨rfl, by rw [← HT.out]; have := HP4.out; simpa only [List.append_assoc] using this, HQ4.out⟩
theorem q_i5 {B bp : Nat} {w0 : World} (cs : List Value) (t1 t2 : List UInt8)(h0 h1 h2 h3 h4 h5 h6 l0 l1 l2 l3 l4 l5 l6 : Value) (f0 : cs[0]? = some (.int .i64 5)) (f35 : cs[35]? = some (l0)) (f36 : cs[36]? = some (l1)) (f37 : cs[37]? = some (l2)) (f38 : cs[38]? = some (l3)) (f39 : cs[39]? = some (l4)) (f40 : cs[40]? = some (l5)) (f41 : cs[41]? = some (l6)) (f42 : cs[42]? = some (h0)) (f43 : cs[43]? = some (h1)) (f44 : cs[44]? = some (h2)) (f45 : cs[45]? = some (h3)) (f46 : cs[46]? = some (h4)) (f47 : cs[47]? = some (h5)) (f48 : cs[48]? = some (h6))   (ih1 : Hid (Puts B bp w0 62 #[.pointer (some ⟨bp, 0, none⟩), .agg #[h0, h1, h2, h3, h4, h5, h6]] t1))(ih2 : Hid (Puts B bp w0 44 #[.pointer (some ⟨bp, 0, none⟩), .agg #[l0, l1, l2, l3, l4, l5, l6]] t2)) :
 Puts B bp w0 46 #[.pointer (some ⟨bp, 0, none⟩), .agg cs.toArray] ([97, 115, 115, 105, 103, 110, 32] ++ t1 ++ t2 ++ [59]) := by
 intro w tx hb hsz hp hlen
 have HL := hidp hlen
 have HB := hidp hb
 have HP0 := hidp hp
 clear hlen hb hp
 generalize hTT : ([97, 115, 115, 105, 103, 110, 32] ++ t1 ++ t2 ++ [59] : List UInt8) = tt
 have HT := hidp hTT
 clear hTT
 have e0 : (w.alloc (.cells cs.toArray 95)).cell? ⟨w.heap.size, 0, none⟩ = some (.int .i64 5) := by simp [f0]
 go_enter Tryz.func46, Tryz.ntmps46
 go_wp2_with fail
 clear e0
 generalize hW : w.alloc (.cells cs.toArray 95) = W at *
 obtain ⟨HP1, hzW, HQ1, HK1, HNE, HZZ⟩ := q_boxH HP0 hsz hW
 clear hW
 refine nxb HQ1 hzW HK1 HNE (by decide) (put1 (w := W) HP1.out hzW HZZ.out (⟨#[97, 115, 115, 105, 103, 110, 32]⟩) [97, 115, 115, 105, 103, 110, 32] rfl (by have := HL.out; simp at this ⊢; omega)) fun w1 HP2 HQ2 z2 HK2 => ?_
 have c2_0 := cl HK2 0 (.int .i64 5) (by simpa using f0)
 have c2_42 := cl HK2 42 (h0) (by simpa using f42)
 have c2_43 := cl HK2 43 (h1) (by simpa using f43)
 have c2_44 := cl HK2 44 (h2) (by simpa using f44)
 have c2_45 := cl HK2 45 (h3) (by simpa using f45)
 have c2_46 := cl HK2 46 (h4) (by simpa using f46)
 have c2_47 := cl HK2 47 (h5) (by simpa using f47)
 have c2_48 := cl HK2 48 (h6) (by simpa using f48)
 go_wp2_with fail
 refine nxb HQ2 z2 HK2 HNE (by decide) (ih1.out w1 _ (HB.out.trans HQ2.out.1) z2 HP2.out (by have := HL.out; simp at this ⊢; omega)) fun w2 HP3 HQ3 z3 HK3 => ?_
 have c3_0 := cl HK3 0 (.int .i64 5) (by simpa using f0)
 have c3_35 := cl HK3 35 (l0) (by simpa using f35)
 have c3_36 := cl HK3 36 (l1) (by simpa using f36)
 have c3_37 := cl HK3 37 (l2) (by simpa using f37)
 have c3_38 := cl HK3 38 (l3) (by simpa using f38)
 have c3_39 := cl HK3 39 (l4) (by simpa using f39)
 have c3_40 := cl HK3 40 (l5) (by simpa using f40)
 have c3_41 := cl HK3 41 (l6) (by simpa using f41)
 clear c2_0 c2_42 c2_43 c2_44 c2_45 c2_46 c2_47 c2_48
 go_wp2_with fail
 refine nxb HQ3 z3 HK3 HNE (by decide) (ih2.out w2 _ (HB.out.trans HQ3.out.1) z3 HP3.out (by have := HL.out; simp at this ⊢; omega)) fun w3 HP4 HQ4 z4 HK4 => ?_
 have c4_0 := cl HK4 0 (.int .i64 5) (by simpa using f0)
 clear c3_0 c3_35 c3_36 c3_37 c3_38 c3_39 c3_40 c3_41
 go_wp2_with fail
 refine nx HQ4 z4 (put1 (w := w3) HP4.out z4 rfl ⟨#[59]⟩ [59] rfl (by have := HL.out; simp at this ⊢; omega)) fun w4 HP5 HQ5 z5 => ?_
 clear c4_0
 go_wp2_with fail
 go_end0
 exact ⟨rfl, by rw [← HT.out]; have := HP5.out; simpa only [List.append_assoc] using this, HQ5.out⟩
theorem q_i8 {B bp : Nat} {w0 : World} (cs : List Value) (t1 t2 : List UInt8)(nm lb : ByteArray) (vx vi : Value) (f0 : cs[0]? = some (.int .i64 8)) (f2 : cs[2]? = some (.string nm)) (f59 : cs[59]? = some (vx)) (f60 : cs[60]? = some (.string lb)) (f61 : cs[61]? = some (vi))   (ih1 : Hid (Puts B bp w0 67 #[.pointer (some ⟨bp, 0, none⟩), .string nm, vx] t1)) (ih2 : Hid (Puts B bp w0 68 #[.pointer (some ⟨bp, 0, none⟩), .string lb, vi] t2)) :
 Puts B bp w0 46 #[.pointer (some ⟨bp, 0, none⟩), .agg cs.toArray] (t1 ++ [32] ++ t2) := by
 intro w tx hb hsz hp hlen
 have HL := hidp hlen
 have HB := hidp hb
 have HP0 := hidp hp
 clear hlen hb hp
 generalize hTT : (t1 ++ [32] ++ t2 : List UInt8) = tt
 have HT := hidp hTT
 clear hTT
 have e0 : (w.alloc (.cells cs.toArray 95)).cell? ⟨w.heap.size, 0, none⟩ = some (.int .i64 8) := by simp [f0]
 have e2 : (w.alloc (.cells cs.toArray 95)).cell? ⟨w.heap.size, 2, none⟩ = some (.string nm) := by simp [f2]
 have e59 : (w.alloc (.cells cs.toArray 95)).cell? ⟨w.heap.size, 59, none⟩ = some (vx) := by simp [f59]
 have e60 : (w.alloc (.cells cs.toArray 95)).cell? ⟨w.heap.size, 60, none⟩ = some (.string lb) := by simp [f60]
 go_enter Tryz.func46, Tryz.ntmps46
 go_wp2_with fail
 clear e0 e2 e59 e60
 generalize hW : w.alloc (.cells cs.toArray 95) = W at *
 obtain ⟨HP1, hzW, HQ1, HK1, HNE, HZZ⟩ := q_boxH HP0 hsz hW
 clear hW
 refine nxb HQ1 hzW HK1 HNE (by decide) (ih1.out W _ (HB.out.trans HQ1.out.1) hzW HP1.out (by have := HL.out; simp at this ⊢; omega)) fun w1 HP2 HQ2 z2 HK2 => ?_
 have c2_0 := cl HK2 0 (.int .i64 8) (by simpa using f0)
 have c2_2 := cl HK2 2 (.string nm) (by simpa using f2)
 have c2_60 := cl HK2 60 (.string lb) (by simpa using f60)
 go_wp2_with fail
 refine nxb HQ2 z2 HK2 HNE (by decide) (put1 (w := w1) HP2.out z2 rfl ⟨#[32]⟩ [32] rfl (by have := HL.out; simp at this ⊢; omega)) fun w2 HP3 HQ3 z3 HK3 => ?_
 have c3_0 := cl HK3 0 (.int .i64 8) (by simpa using f0)
 have c3_2 := cl HK3 2 (.string nm) (by simpa using f2)
 have c3_60 := cl HK3 60 (.string lb) (by simpa using f60)
 have c3_61 := cl HK3 61 (vi) (by simpa using f61)
 clear c2_0 c2_2 c2_60
 go_wp2_with fail
 refine nx HQ3 z3 (ih2.out w2 _ (HB.out.trans HQ3.out.1) z3 HP3.out (by have := HL.out; simp at this ⊢; omega)) fun w3 HP4 HQ4 z4 => ?_
 clear c3_0 c3_2 c3_60 c3_61
 go_wp2_with fail
 go_end0
 exact ⟨rfl, by rw [← HT.out]; have := HP4.out; simpa only [List.append_assoc] using this, HQ4.out⟩
theorem q_i9a {B bp : Nat} {w0 : World} (cs : List Value) (t1 t2 : List UInt8)(lb : ByteArray) (vi : Value)(h0 h1 h2 h3 h4 h5 h6 : Value) (f0 : cs[0]? = some (.int .i64 9)) (f35 : cs[35]? = some (h0)) (f36 : cs[36]? = some (h1)) (f37 : cs[37]? = some (h2)) (f38 : cs[38]? = some (h3)) (f39 : cs[39]? = some (h4)) (f40 : cs[40]? = some (h5)) (f41 : cs[41]? = some (h6)) (f60 : cs[60]? = some (.string lb)) (f61 : cs[61]? = some (vi)) (f62 : cs[62]? = some (.bool false))   (ih1 : Hid (Puts B bp w0 69 #[.pointer (some ⟨bp, 0, none⟩), .string ⟨#[105, 102]⟩, .agg #[h0, h1, h2, h3, h4, h5, h6]] t1)) (ih2 : Hid (Puts B bp w0 68 #[.pointer (some ⟨bp, 0, none⟩), .string lb, vi] t2)) :
 Puts B bp w0 46 #[.pointer (some ⟨bp, 0, none⟩), .agg cs.toArray] (t1 ++ [32] ++ t2) := by
 intro w tx hb hsz hp hlen
 have HL := hidp hlen
 have HB := hidp hb
 have HP0 := hidp hp
 clear hlen hb hp
 generalize hTT : (t1 ++ [32] ++ t2 : List UInt8) = tt
 have HT := hidp hTT
 clear hTT
 have e0 : (w.alloc (.cells cs.toArray 95)).cell? ⟨w.heap.size, 0, none⟩ = some (.int .i64 9) := by simp [f0]
 have e35 : (w.alloc (.cells cs.toArray 95)).cell? ⟨w.heap.size, 35, none⟩ = some (h0) := by simp [f35]
 have e36 : (w.alloc (.cells cs.toArray 95)).cell? ⟨w.heap.size, 36, none⟩ = some (h1) := by simp [f36]
 have e37 : (w.alloc (.cells cs.toArray 95)).cell? ⟨w.heap.size, 37, none⟩ = some (h2) := by simp [f37]
 have e38 : (w.alloc (.cells cs.toArray 95)).cell? ⟨w.heap.size, 38, none⟩ = some (h3) := by simp [f38]
 have e39 : (w.alloc (.cells cs.toArray 95)).cell? ⟨w.heap.size, 39, none⟩ = some (h4) := by simp [f39]
 have e40 : (w.alloc (.cells cs.toArray 95)).cell? ⟨w.heap.size, 40, none⟩ = some (h5) := by simp [f40]
 have e41 : (w.alloc (.cells cs.toArray 95)).cell? ⟨w.heap.size, 41, none⟩ = some (h6) := by simp [f41]
 have e60 : (w.alloc (.cells cs.toArray 95)).cell? ⟨w.heap.size, 60, none⟩ = some (.string lb) := by simp [f60]
 have e62 : (w.alloc (.cells cs.toArray 95)).cell? ⟨w.heap.size, 62, none⟩ = some (.bool false) := by simp [f62]
 go_enter Tryz.func46, Tryz.ntmps46
 go_wp2_with fail
 clear e0 e35 e36 e37 e38 e39 e40 e41 e60 e62
 generalize hW : w.alloc (.cells cs.toArray 95) = W at *
 obtain ⟨HP1, hzW, HQ1, HK1, HNE, HZZ⟩ := q_boxH HP0 hsz hW
 clear hW
 refine nxb HQ1 hzW HK1 HNE (by decide) (ih1.out W _ (HB.out.trans HQ1.out.1) hzW HP1.out (by have := HL.out; simp at this ⊢; omega)) fun w1 HP2 HQ2 z2 HK2 => ?_
 have c2_0 := cl HK2 0 (.int .i64 9) (by simpa using f0)
 have c2_60 := cl HK2 60 (.string lb) (by simpa using f60)
 have c2_62 := cl HK2 62 (.bool false) (by simpa using f62)
 go_wp2_with fail
 refine nxb HQ2 z2 HK2 HNE (by decide) (put1 (w := w1) HP2.out z2 rfl ⟨#[32]⟩ [32] rfl (by have := HL.out; simp at this ⊢; omega)) fun w2 HP3 HQ3 z3 HK3 => ?_
 have c3_0 := cl HK3 0 (.int .i64 9) (by simpa using f0)
 have c3_60 := cl HK3 60 (.string lb) (by simpa using f60)
 have c3_61 := cl HK3 61 (vi) (by simpa using f61)
 have c3_62 := cl HK3 62 (.bool false) (by simpa using f62)
 clear c2_0 c2_60 c2_62
 go_wp2_with fail
 refine nxb HQ3 z3 HK3 HNE (by decide) (ih2.out w2 _ (HB.out.trans HQ3.out.1) z3 HP3.out (by have := HL.out; simp at this ⊢; omega)) fun w3 HP4 HQ4 z4 HK4 => ?_
 have c4_0 := cl HK4 0 (.int .i64 9) (by simpa using f0)
 have c4_60 := cl HK4 60 (.string lb) (by simpa using f60)
 have c4_62 := cl HK4 62 (.bool false) (by simpa using f62)
 clear c3_0 c3_60 c3_61 c3_62
 go_wp2_with fail
 go_end0
 exact ⟨rfl, by rw [← HT.out]; have := HP4.out; simpa only [List.append_assoc] using this, HQ4.out⟩
theorem q_i9b {B bp : Nat} {w0 : World} (cs : List Value) (t1 t2 t3 : List UInt8)(lb le : ByteArray) (vi ve : Value)(h0 h1 h2 h3 h4 h5 h6 : Value) (f0 : cs[0]? = some (.int .i64 9)) (f35 : cs[35]? = some (h0)) (f36 : cs[36]? = some (h1)) (f37 : cs[37]? = some (h2)) (f38 : cs[38]? = some (h3)) (f39 : cs[39]? = some (h4)) (f40 : cs[40]? = some (h5)) (f41 : cs[41]? = some (h6)) (f60 : cs[60]? = some (.string lb)) (f61 : cs[61]? = some (vi)) (f62 : cs[62]? = some (.bool true)) (f63 : cs[63]? = some (.string le)) (f64 : cs[64]? = some (ve))   (ih1 : Hid (Puts B bp w0 69 #[.pointer (some ⟨bp, 0, none⟩), .string ⟨#[105, 102]⟩, .agg #[h0, h1, h2, h3, h4, h5, h6]] t1)) (ih2 : Hid (Puts B bp w0 68 #[.pointer (some ⟨bp, 0, none⟩), .string lb, vi] t2)) (ih3 : Hid (Puts B bp w0 68 #[.pointer (some ⟨bp, 0, none⟩), .string le, ve] t3)) :
 Puts B bp w0 46 #[.pointer (some ⟨bp, 0, none⟩), .agg cs.toArray] (t1 ++ [32] ++ t2 ++ [32, 101, 108, 115, 101, 32] ++ t3) := by
 intro w tx hb hsz hp hlen
 have HL := hidp hlen
 have HB := hidp hb
 have HP0 := hidp hp
 clear hlen hb hp
 generalize hTT : (t1 ++ [32] ++ t2 ++ [32, 101, 108, 115, 101, 32] ++ t3 : List UInt8) = tt
 have HT := hidp hTT
 clear hTT
 have e0 : (w.alloc (.cells cs.toArray 95)).cell? ⟨w.heap.size, 0, none⟩ = some (.int .i64 9) := by simp [f0]
 have e35 : (w.alloc (.cells cs.toArray 95)).cell? ⟨w.heap.size, 35, none⟩ = some (h0) := by simp [f35]
 have e36 : (w.alloc (.cells cs.toArray 95)).cell? ⟨w.heap.size, 36, none⟩ = some (h1) := by simp [f36]
 have e37 : (w.alloc (.cells cs.toArray 95)).cell? ⟨w.heap.size, 37, none⟩ = some (h2) := by simp [f37]
 have e38 : (w.alloc (.cells cs.toArray 95)).cell? ⟨w.heap.size, 38, none⟩ = some (h3) := by simp [f38]
 have e39 : (w.alloc (.cells cs.toArray 95)).cell? ⟨w.heap.size, 39, none⟩ = some (h4) := by simp [f39]
 have e40 : (w.alloc (.cells cs.toArray 95)).cell? ⟨w.heap.size, 40, none⟩ = some (h5) := by simp [f40]
 have e41 : (w.alloc (.cells cs.toArray 95)).cell? ⟨w.heap.size, 41, none⟩ = some (h6) := by simp [f41]
 have e60 : (w.alloc (.cells cs.toArray 95)).cell? ⟨w.heap.size, 60, none⟩ = some (.string lb) := by simp [f60]
 have e62 : (w.alloc (.cells cs.toArray 95)).cell? ⟨w.heap.size, 62, none⟩ = some (.bool true) := by simp [f62]
 have e63 : (w.alloc (.cells cs.toArray 95)).cell? ⟨w.heap.size, 63, none⟩ = some (.string le) := by simp [f63]
 go_enter Tryz.func46, Tryz.ntmps46
 go_wp2_with fail
 clear e0 e35 e36 e37 e38 e39 e40 e41 e60 e62 e63
 generalize hW : w.alloc (.cells cs.toArray 95) = W at *
 obtain ⟨HP1, hzW, HQ1, HK1, HNE, HZZ⟩ := q_boxH HP0 hsz hW
 clear hW
 refine nxb HQ1 hzW HK1 HNE (by decide) (ih1.out W _ (HB.out.trans HQ1.out.1) hzW HP1.out (by have := HL.out; simp at this ⊢; omega)) fun w1 HP2 HQ2 z2 HK2 => ?_
 have c2_0 := cl HK2 0 (.int .i64 9) (by simpa using f0)
 have c2_60 := cl HK2 60 (.string lb) (by simpa using f60)
 have c2_62 := cl HK2 62 (.bool true) (by simpa using f62)
 have c2_63 := cl HK2 63 (.string le) (by simpa using f63)
 go_wp2_with fail
 refine nxb HQ2 z2 HK2 HNE (by decide) (put1 (w := w1) HP2.out z2 rfl ⟨#[32]⟩ [32] rfl (by have := HL.out; simp at this ⊢; omega)) fun w2 HP3 HQ3 z3 HK3 => ?_
 have c3_0 := cl HK3 0 (.int .i64 9) (by simpa using f0)
 have c3_60 := cl HK3 60 (.string lb) (by simpa using f60)
 have c3_61 := cl HK3 61 (vi) (by simpa using f61)
 have c3_62 := cl HK3 62 (.bool true) (by simpa using f62)
 have c3_63 := cl HK3 63 (.string le) (by simpa using f63)
 clear c2_0 c2_60 c2_62 c2_63
 go_wp2_with fail
 refine nxb HQ3 z3 HK3 HNE (by decide) (ih2.out w2 _ (HB.out.trans HQ3.out.1) z3 HP3.out (by have := HL.out; simp at this ⊢; omega)) fun w3 HP4 HQ4 z4 HK4 => ?_
 have c4_0 := cl HK4 0 (.int .i64 9) (by simpa using f0)
 have c4_60 := cl HK4 60 (.string lb) (by simpa using f60)
 have c4_62 := cl HK4 62 (.bool true) (by simpa using f62)
 have c4_63 := cl HK4 63 (.string le) (by simpa using f63)
 clear c3_0 c3_60 c3_61 c3_62 c3_63
 go_wp2_with fail
 refine nxb HQ4 z4 HK4 HNE (by decide) (put1 (w := w3) HP4.out z4 rfl (⟨#[32, 101, 108, 115, 101, 32]⟩) [32, 101, 108, 115, 101, 32] rfl (by have := HL.out; simp at this ⊢; omega)) fun w4 HP5 HQ5 z5 HK5 => ?_
 have c5_0 := cl HK5 0 (.int .i64 9) (by simpa using f0)
 have c5_60 := cl HK5 60 (.string lb) (by simpa using f60)
 have c5_62 := cl HK5 62 (.bool true) (by simpa using f62)
 have c5_63 := cl HK5 63 (.string le) (by simpa using f63)
 have c5_64 := cl HK5 64 (ve) (by simpa using f64)
 clear c4_0 c4_60 c4_62 c4_63
 go_wp2_with fail
 refine nx HQ5 z5 (ih3.out w4 _ (HB.out.trans HQ5.out.1) z5 HP5.out (by have := HL.out; simp at this ⊢; omega)) fun w5 HP6 HQ6 z6 => ?_
 clear c5_0 c5_60 c5_62 c5_63 c5_64
 go_wp2_with fail
 go_end0
 exact ⟨rfl, by rw [← HT.out]; have := HP6.out; simpa only [List.append_assoc] using this, HQ6.out⟩
end Go.Proofs.YtimmmlnememjiaaGreatDoor
