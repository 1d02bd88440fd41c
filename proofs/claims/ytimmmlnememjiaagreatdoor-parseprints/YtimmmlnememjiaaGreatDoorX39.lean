import Derived.Test.YtimmmlnememjiaaGreatDoorX
import Derived.Test.YtimmmlnememjiaaGreatDoorX34
set_option maxRecDepth 100000
set_option maxHeartbeats 16000000
namespace Go.Proofs.YtimmmlnememjiaaGreatDoor
open Go.RowKit
theorem q_net1 {B bp : Nat} {w0 : World} (cs : List Value) (nm t1 : List UInt8)(r0 r1 r2 r3 r4 r5 r6 r7 r8 r9 r10 r11 r12 r13 r14 : Value) (f0 : cs[0]? = some (.int .i64 1)) (f2 : cs[2]? = some (.string (bs nm))) (f4 : cs[4]? = some (r0)) (f5 : cs[5]? = some (r1)) (f6 : cs[6]? = some (r2)) (f7 : cs[7]? = some (r3)) (f8 : cs[8]? = some (r4)) (f9 : cs[9]? = some (r5)) (f10 : cs[10]? = some (r6)) (f11 : cs[11]? = some (r7)) (f12 : cs[12]? = some (r8)) (f13 : cs[13]? = some (r9)) (f14 : cs[14]? = some (r10)) (f15 : cs[15]? = some (r11)) (f16 : cs[16]? = some (r12)) (f17 : cs[17]? = some (r13)) (f18 : cs[18]? = some (r14)) (f34 : cs[34]? = some (.bool false))   (ih1 : Hid (Puts B bp w0 45 #[.pointer (some ⟨bp, 0, none⟩), .agg #[r0, r1, r2, r3, r4, r5, r6, r7, r8, r9, r10, r11, r12, r13, r14]] t1)) :
 Puts B bp w0 64 #[.pointer (some ⟨bp, 0, none⟩), .agg cs.toArray] ([119, 105, 114, 101, 32] ++ t1 ++ nm ++ [59]) := by
 intro w tx hb hsz hp hlen
 have HL := hidp hlen
 have HB := hidp hb
 have HP0 := hidp hp
 clear hlen hb hp
 generalize hTT : ([119, 105, 114, 101, 32] ++ t1 ++ nm ++ [59] : List UInt8) = tt
 have HT := hidp hTT
 clear hTT
 have e0 : (w.alloc (.cells cs.toArray 95)).cell? ⟨w.heap.size, 0, none⟩ = some (.int .i64 1) := by simp [f0]
 have e2 : (w.alloc (.cells cs.toArray 95)).cell? ⟨w.heap.size, 2, none⟩ = some (.string (bs nm)) := by simp [f2]
 have e34 : (w.alloc (.cells cs.toArray 95)).cell? ⟨w.heap.size, 34, none⟩ = some (.bool false) := by simp [f34]
 go_enter Tryz.func64, Tryz.ntmps64
 go_wp2_with fail
 clear e0 e2 e34
 generalize hW : w.alloc (.cells cs.toArray 95) = W at *
 obtain ⟨HP1, hzW, HQ1, HK1, HNE, HZZ⟩ := q_boxH HP0 hsz hW
 clear hW
 refine nxb HQ1 hzW HK1 HNE (by decide) (put1 (w := W) HP1.out hzW HZZ.out (⟨#[119, 105, 114, 101, 32]⟩) [119, 105, 114, 101, 32] rfl (by have := HL.out; simp at this ⊢; omega)) fun w1 HP2 HQ2 z2 HK2 => ?_
 have c2_0 := cl HK2 0 (.int .i64 1) (by simpa using f0)
 have c2_2 := cl HK2 2 (.string (bs nm)) (by simpa using f2)
 have c2_4 := cl HK2 4 (r0) (by simpa using f4)
 have c2_5 := cl HK2 5 (r1) (by simpa using f5)
 have c2_6 := cl HK2 6 (r2) (by simpa using f6)
 have c2_7 := cl HK2 7 (r3) (by simpa using f7)
 have c2_8 := cl HK2 8 (r4) (by simpa using f8)
 have c2_9 := cl HK2 9 (r5) (by simpa using f9)
 have c2_10 := cl HK2 10 (r6) (by simpa using f10)
 have c2_11 := cl HK2 11 (r7) (by simpa using f11)
 have c2_12 := cl HK2 12 (r8) (by simpa using f12)
 have c2_13 := cl HK2 13 (r9) (by simpa using f13)
 have c2_14 := cl HK2 14 (r10) (by simpa using f14)
 have c2_15 := cl HK2 15 (r11) (by simpa using f15)
 have c2_16 := cl HK2 16 (r12) (by simpa using f16)
 have c2_17 := cl HK2 17 (r13) (by simpa using f17)
 have c2_18 := cl HK2 18 (r14) (by simpa using f18)
 have c2_34 := cl HK2 34 (.bool false) (by simpa using f34)
 go_wp2_with fail
 refine nxb HQ2 z2 HK2 HNE (by decide) (ih1.out w1 _ (HB.out.trans HQ2.out.1) z2 HP2.out (by have := HL.out; simp at this ⊢; omega)) fun w2 HP3 HQ3 z3 HK3 => ?_
 have c3_0 := cl HK3 0 (.int .i64 1) (by simpa using f0)
 have c3_2 := cl HK3 2 (.string (bs nm)) (by simpa using f2)
 have c3_34 := cl HK3 34 (.bool false) (by simpa using f34)
 clear c2_0 c2_2 c2_4 c2_5 c2_6 c2_7 c2_8 c2_9 c2_10 c2_11 c2_12 c2_13 c2_14 c2_15 c2_16 c2_17 c2_18 c2_34
 go_wp2_with fail
 refine nxb HQ3 z3 HK3 HNE (by decide) (put1 (w := w2) HP3.out z3 rfl (bs nm) nm rfl (by have := HL.out; simp at this ⊢; omega)) fun w3 HP4 HQ4 z4 HK4 => ?_
 have c4_0 := cl HK4 0 (.int .i64 1) (by simpa using f0)
 have c4_2 := cl HK4 2 (.string (bs nm)) (by simpa using f2)
 have c4_34 := cl HK4 34 (.bool false) (by simpa using f34)
 clear c3_0 c3_2 c3_34
 go_wp2_with fail
 refine nx HQ4 z4 (put1 (w := w3) HP4.out z4 rfl ⟨#[59]⟩ [59] rfl (by have := HL.out; simp at this ⊢; omega)) fun w4 HP5 HQ5 z5 => ?_
 clear c4_0 c4_2 c4_34
 go_wp2_with fail
 go_end0
 exact ⟨rfl, by rw [← HT.out]; have := HP5.out; simpa only [List.append_assoc] using this, HQ5.out⟩
theorem q_net2a {B bp : Nat} {w0 : World} (cs : List Value) (nm t1 : List UInt8)(r0 r1 r2 r3 r4 r5 r6 r7 r8 r9 r10 r11 r12 r13 r14 : Value) (f0 : cs[0]? = some (.int .i64 2)) (f2 : cs[2]? = some (.string (bs nm))) (f4 : cs[4]? = some (r0)) (f5 : cs[5]? = some (r1)) (f6 : cs[6]? = some (r2)) (f7 : cs[7]? = some (r3)) (f8 : cs[8]? = some (r4)) (f9 : cs[9]? = some (r5)) (f10 : cs[10]? = some (r6)) (f11 : cs[11]? = some (r7)) (f12 : cs[12]? = some (r8)) (f13 : cs[13]? = some (r9)) (f14 : cs[14]? = some (r10)) (f15 : cs[15]? = some (r11)) (f16 : cs[16]? = some (r12)) (f17 : cs[17]? = some (r13)) (f18 : cs[18]? = some (r14)) (f34 : cs[34]? = some (.bool false))   (ih1 : Hid (Puts B bp w0 45 #[.pointer (some ⟨bp, 0, none⟩), .agg #[r0, r1, r2, r3, r4, r5, r6, r7, r8, r9, r10, r11, r12, r13, r14]] t1)) :
 Puts B bp w0 64 #[.pointer (some ⟨bp, 0, none⟩), .agg cs.toArray] ([114, 101, 103, 32] ++ t1 ++ nm ++ [59]) := by
 intro w tx hb hsz hp hlen
 have HL := hidp hlen
 have HB := hidp hb
 have HP0 := hidp hp
 clear hlen hb hp
 generalize hTT : ([114, 101, 103, 32] ++ t1 ++ nm ++ [59] : List UInt8) = tt
 have HT := hidp hTT
 clear hTT
 have e0 : (w.alloc (.cells cs.toArray 95)).cell? ⟨w.heap.size, 0, none⟩ = some (.int .i64 2) := by simp [f0]
 have e2 : (w.alloc (.cells cs.toArray 95)).cell? ⟨w.heap.size, 2, none⟩ = some (.string (bs nm)) := by simp [f2]
 have e34 : (w.alloc (.cells cs.toArray 95)).cell? ⟨w.heap.size, 34, none⟩ = some (.bool false) := by simp [f34]
 go_enter Tryz.func64, Tryz.ntmps64
 go_wp2_with fail
 clear e0 e2 e34
 generalize hW : w.alloc (.cells cs.toArray 95) = W at *
 obtain ⟨HP1, hzW, HQ1, HK1, HNE, HZZ⟩ := q_boxH HP0 hsz hW
 clear hW
 refine nxb HQ1 hzW HK1 HNE (by decide) (put1 (w := W) HP1.out hzW HZZ.out (⟨#[114, 101, 103, 32]⟩) [114, 101, 103, 32] rfl (by have := HL.out; simp at this ⊢; omega)) fun w1 HP2 HQ2 z2 HK2 => ?_
 have c2_0 := cl HK2 0 (.int .i64 2) (by simpa using f0)
 have c2_2 := cl HK2 2 (.string (bs nm)) (by simpa using f2)
 have c2_4 := cl HK2 4 (r0) (by simpa using f4)
 have c2_5 := cl HK2 5 (r1) (by simpa using f5)
 have c2_6 := cl HK2 6 (r2) (by simpa using f6)
 have c2_7 := cl HK2 7 (r3) (by simpa using f7)
 have c2_8 := cl HK2 8 (r4) (by simpa using f8)
 have c2_9 := cl HK2 9 (r5) (by simpa using f9)
 have c2_10 := cl HK2 10 (r6) (by simpa using f10)
 have c2_11 := cl HK2 11 (r7) (by simpa using f11)
 have c2_12 := cl HK2 12 (r8) (by simpa using f12)
 have c2_13 := cl HK2 13 (r9) (by simpa using f13)
 have c2_14 := cl HK2 14 (r10) (by simpa using f14)
 have c2_15 := cl HK2 15 (r11) (by simpa using f15)
 have c2_16 := cl HK2 16 (r12) (by simpa using f16)
 have c2_17 := cl HK2 17 (r13) (by simpa using f17)
 have c2_18 := cl HK2 18 (r14) (by simpa using f18)
 have c2_34 := cl HK2 34 (.bool false) (by simpa using f34)
 go_wp2_with fail
 refine nxb HQ2 z2 HK2 HNE (by decide) (ih1.out w1 _ (HB.out.trans HQ2.out.1) z2 HP2.out (by have := HL.out; simp at this ⊢; omega)) fun w2 HP3 HQ3 z3 HK3 => ?_
 have c3_0 := cl HK3 0 (.int .i64 2) (by simpa using f0)
 have c3_2 := cl HK3 2 (.string (bs nm)) (by simpa using f2)
 have c3_34 := cl HK3 34 (.bool false) (by simpa using f34)
 clear c2_0 c2_2 c2_4 c2_5 c2_6 c2_7 c2_8 c2_9 c2_10 c2_11 c2_12 c2_13 c2_14 c2_15 c2_16 c2_17 c2_18 c2_34
 go_wp2_with fail
 refine nxb HQ3 z3 HK3 HNE (by decide) (put1 (w := w2) HP3.out z3 rfl (bs nm) nm rfl (by have := HL.out; simp at this ⊢; omega)) fun w3 HP4 HQ4 z4 HK4 => ?_
 have c4_0 := cl HK4 0 (.int .i64 2) (by simpa using f0)
 have c4_2 := cl HK4 2 (.string (bs nm)) (by simpa using f2)
 have c4_34 := cl HK4 34 (.bool false) (by simpa using f34)
 clear c3_0 c3_2 c3_34
 go_wp2_with fail
 refine nx HQ4 z4 (put1 (w := w3) HP4.out z4 rfl ⟨#[59]⟩ [59] rfl (by have := HL.out; simp at this ⊢; omega)) fun w4 HP5 HQ5 z5 => ?_
 clear c4_0 c4_2 c4_34
 go_wp2_with fail
 go_end0
 exact ⟨rfl, by rw [← HT.out]; have := HP5.out; simpa only [List.append_assoc] using this, HQ5.out⟩
theorem q_net2b {B bp : Nat} {w0 : World} (cs : List Value) (nm t1 t2 : List UInt8)(r0 r1 r2 r3 r4 r5 r6 r7 r8 r9 r10 r11 r12 r13 r14 h0 h1 h2 h3 h4 h5 h6 : Value) (f0 : cs[0]? = some (.int .i64 2)) (f2 : cs[2]? = some (.string (bs nm))) (f4 : cs[4]? = some (r0)) (f5 : cs[5]? = some (r1)) (f6 : cs[6]? = some (r2)) (f7 : cs[7]? = some (r3)) (f8 : cs[8]? = some (r4)) (f9 : cs[9]? = some (r5)) (f10 : cs[10]? = some (r6)) (f11 : cs[11]? = some (r7)) (f12 : cs[12]? = some (r8)) (f13 : cs[13]? = some (r9)) (f14 : cs[14]? = some (r10)) (f15 : cs[15]? = some (r11)) (f16 : cs[16]? = some (r12)) (f17 : cs[17]? = some (r13)) (f18 : cs[18]? = some (r14)) (f34 : cs[34]? = some (.bool true)) (f35 : cs[35]? = some (h0)) (f36 : cs[36]? = some (h1)) (f37 : cs[37]? = some (h2)) (f38 : cs[38]? = some (h3)) (f39 : cs[39]? = some (h4)) (f40 : cs[40]? = some (h5)) (f41 : cs[41]? = some (h6))   (ih1 : Hid (Puts B bp w0 45 #[.pointer (some ⟨bp, 0, none⟩), .agg #[r0, r1, r2, r3, r4, r5, r6, r7, r8, r9, r10, r11, r12, r13, r14]] t1))(ih2 : Hid (Puts B bp w0 44 #[.pointer (some ⟨bp, 0, none⟩), .agg #[h0, h1, h2, h3, h4, h5, h6]] t2)) :
 Puts B bp w0 64 #[.pointer (some ⟨bp, 0, none⟩), .agg cs.toArray] ([114, 101, 103, 32] ++ t1 ++ nm ++ t2 ++ [59]) := by
 intro w tx hb hsz hp hlen
 have HL := hidp hlen
 have HB := hidp hb
 have HP0 := hidp hp
 clear hlen hb hp
 generalize hTT : ([114, 101, 103, 32] ++ t1 ++ nm ++ t2 ++ [59] : List UInt8) = tt
 have HT := hidp hTT
 clear hTT
 have e0 : (w.alloc (.cells cs.toArray 95)).cell? ⟨w.heap.size, 0, none⟩ = some (.int .i64 2) := by simp [f0]
 have e2 : (w.alloc (.cells cs.toArray 95)).cell? ⟨w.heap.size, 2, none⟩ = some (.string (bs nm)) := by simp [f2]
 have e34 : (w.alloc (.cells cs.toArray 95)).cell? ⟨w.heap.size, 34, none⟩ = some (.bool true) := by simp [f34]
 go_enter Tryz.func64, Tryz.ntmps64
 go_wp2_with fail
 clear e0 e2 e34
 generalize hW : w.alloc (.cells cs.toArray 95) = W at *
 obtain ⟨HP1, hzW, HQ1, HK1, HNE, HZZ⟩ := q_boxH HP0 hsz hW
 clear hW
 refine nxb HQ1 hzW HK1 HNE (by decide) (put1 (w := W) HP1.out hzW HZZ.out (⟨#[114, 101, 103, 32]⟩) [114, 101, 103, 32] rfl (by have := HL.out; simp at this ⊢; omega)) fun w1 HP2 HQ2 z2 HK2 => ?_
 have c2_0 := cl HK2 0 (.int .i64 2) (by simpa using f0)
 have c2_2 := cl HK2 2 (.string (bs nm)) (by simpa using f2)
 have c2_4 := cl HK2 4 (r0) (by simpa using f4)
 have c2_5 := cl HK2 5 (r1) (by simpa using f5)
 have c2_6 := cl HK2 6 (r2) (by simpa using f6)
 have c2_7 := cl HK2 7 (r3) (by simpa using f7)
 have c2_8 := cl HK2 8 (r4) (by simpa using f8)
 have c2_9 := cl HK2 9 (r5) (by simpa using f9)
 have c2_10 := cl HK2 10 (r6) (by simpa using f10)
 have c2_11 := cl HK2 11 (r7) (by simpa using f11)
 have c2_12 := cl HK2 12 (r8) (by simpa using f12)
 have c2_13 := cl HK2 13 (r9) (by simpa using f13)
 have c2_14 := cl HK2 14 (r10) (by simpa using f14)
 have c2_15 := cl HK2 15 (r11) (by simpa using f15)
 have c2_16 := cl HK2 16 (r12) (by simpa using f16)
 have c2_17 := cl HK2 17 (r13) (by simpa using f17)
 have c2_18 := cl HK2 18 (r14) (by simpa using f18)
 have c2_34 := cl HK2 34 (.bool true) (by simpa using f34)
 go_wp2_with fail
 refine nxb HQ2 z2 HK2 HNE (by decide) (ih1.out w1 _ (HB.out.trans HQ2.out.1) z2 HP2.out (by have := HL.out; simp at this ⊢; omega)) fun w2 HP3 HQ3 z3 HK3 => ?_
 have c3_0 := cl HK3 0 (.int .i64 2) (by simpa using f0)
 have c3_2 := cl HK3 2 (.string (bs nm)) (by simpa using f2)
 have c3_34 := cl HK3 34 (.bool true) (by simpa using f34)
 clear c2_0 c2_2 c2_4 c2_5 c2_6 c2_7 c2_8 c2_9 c2_10 c2_11 c2_12 c2_13 c2_14 c2_15 c2_16 c2_17 c2_18 c2_34
 go_wp2_with fail
 refine nxb HQ3 z3 HK3 HNE (by decide) (put1 (w := w2) HP3.out z3 rfl (bs nm) nm rfl (by have := HL.out; simp at this ⊢; omega)) fun w3 HP4 HQ4 z4 HK4 => ?_
 have c4_0 := cl HK4 0 (.int .i64 2) (by simpa using f0)
 have c4_2 := cl HK4 2 (.string (bs nm)) (by simpa using f2)
 have c4_34 := cl HK4 34 (.bool true) (by simpa using f34)
 have c4_35 := cl HK4 35 (h0) (by simpa using f35)
 have c4_36 := cl HK4 36 (h1) (by simpa using f36)
 have c4_37 := cl HK4 37 (h2) (by simpa using f37)
 have c4_38 := cl HK4 38 (h3) (by simpa using f38)
 have c4_39 := cl HK4 39 (h4) (by simpa using f39)
 have c4_40 := cl HK4 40 (h5) (by simpa using f40)
 have c4_41 := cl HK4 41 (h6) (by simpa using f41)
 clear c3_0 c3_2 c3_34
 go_wp2_with fail
 refine nxb HQ4 z4 HK4 HNE (by decide) (ih2.out w3 _ (HB.out.trans HQ4.out.1) z4 HP4.out (by have := HL.out; simp at this ⊢; omega)) fun w4 HP5 HQ5 z5 HK5 => ?_
 have c5_0 := cl HK5 0 (.int .i64 2) (by simpa using f0)
 have c5_2 := cl HK5 2 (.string (bs nm)) (by simpa using f2)
 have c5_34 := cl HK5 34 (.bool true) (by simpa using f34)
 clear c4_0 c4_2 c4_34 c4_35 c4_36 c4_37 c4_38 c4_39 c4_40 c4_41
 go_wp2_with fail
 refine nx HQ5 z5 (put1 (w := w4) HP5.out z5 rfl ⟨#[59]⟩ [59] rfl (by have := HL.out; simp at this ⊢; omega)) fun w5 HP6 HQ6 z6 => ?_
 clear c5_0 c5_2 c5_34
 go_wp2_with fail
 go_end0
 exact ⟨rfl, by rw [← HT.out]; have := HP6.out; simpa only [List.append_assoc] using this, HQ6.out⟩
theorem q_net3 {B bp : Nat} {w0 : World} (cs : List Value) (nm t1 t2 : List UInt8)(r0 r1 r2 r3 r4 r5 r6 r7 r8 r9 r10 r11 r12 r13 r14 q0 q1 q2 q3 q4 q5 q6 q7 q8 q9 q10 q11 q12 q13 q14 : Value) (f0 : cs[0]? = some (.int .i64 3)) (f2 : cs[2]? = some (.string (bs nm))) (f4 : cs[4]? = some (r0)) (f5 : cs[5]? = some (r1)) (f6 : cs[6]? = some (r2)) (f7 : cs[7]? = some (r3)) (f8 : cs[8]? = some (r4)) (f9 : cs[9]? = some (r5)) (f10 : cs[10]? = some (r6)) (f11 : cs[11]? = some (r7)) (f12 : cs[12]? = some (r8)) (f13 : cs[13]? = some (r9)) (f14 : cs[14]? = some (r10)) (f15 : cs[15]? = some (r11)) (f16 : cs[16]? = some (r12)) (f17 : cs[17]? = some (r13)) (f18 : cs[18]? = some (r14)) (f19 : cs[19]? = some (q0)) (f20 : cs[20]? = some (q1)) (f21 : cs[21]? = some (q2)) (f22 : cs[22]? = some (q3)) (f23 : cs[23]? = some (q4)) (f24 : cs[24]? = some (q5)) (f25 : cs[25]? = some (q6)) (f26 : cs[26]? = some (q7)) (f27 : cs[27]? = some (q8)) (f28 : cs[28]? = some (q9)) (f29 : cs[29]? = some (q10)) (f30 : cs[30]? = some (q11)) (f31 : cs[31]? = some (q12)) (f32 : cs[32]? = some (q13)) (f33 : cs[33]? = some (q14))   (ih1 : Hid (Puts B bp w0 45 #[.pointer (some ⟨bp, 0, none⟩), .agg #[r0, r1, r2, r3, r4, r5, r6, r7, r8, r9, r10, r11, r12, r13, r14]] t1))(ih2 : Hid (Puts B bp w0 63 #[.pointer (some ⟨bp, 0, none⟩), .agg #[q0, q1, q2, q3, q4, q5, q6, q7, q8, q9, q10, q11, q12, q13, q14]] t2)) :
 Puts B bp w0 64 #[.pointer (some ⟨bp, 0, none⟩), .agg cs.toArray] ([114, 101, 103, 32] ++ t1 ++ nm ++ [32] ++ t2 ++ [59]) := by
 intro w tx hb hsz hp hlen
 have HL := hidp hlen
 have HB := hidp hb
 have HP0 := hidp hp
 clear hlen hb hp
 generalize hTT : ([114, 101, 103, 32] ++ t1 ++ nm ++ [32] ++ t2 ++ [59] : List UInt8) = tt
 have HT := hidp hTT
 clear hTT
 have e0 : (w.alloc (.cells cs.toArray 95)).cell? ⟨w.heap.size, 0, none⟩ = some (.int .i64 3) := by simp [f0]
 have e2 : (w.alloc (.cells cs.toArray 95)).cell? ⟨w.heap.size, 2, none⟩ = some (.string (bs nm)) := by simp [f2]
 go_enter Tryz.func64, Tryz.ntmps64
 go_wp2_with fail
 clear e0 e2
 generalize hW : w.alloc (.cells cs.toArray 95) = W at *
 obtain ⟨HP1, hzW, HQ1, HK1, HNE, HZZ⟩ := q_boxH HP0 hsz hW
 clear hW
 refine nxb HQ1 hzW HK1 HNE (by decide) (put1 (w := W) HP1.out hzW HZZ.out (⟨#[114, 101, 103, 32]⟩) [114, 101, 103, 32] rfl (by have := HL.out; simp at this ⊢; omega)) fun w1 HP2 HQ2 z2 HK2 => ?_
 have c2_0 := cl HK2 0 (.int .i64 3) (by simpa using f0)
 have c2_2 := cl HK2 2 (.string (bs nm)) (by simpa using f2)
 have c2_4 := cl HK2 4 (r0) (by simpa using f4)
 have c2_5 := cl HK2 5 (r1) (by simpa using f5)
 have c2_6 := cl HK2 6 (r2) (by simpa using f6)
 have c2_7 := cl HK2 7 (r3) (by simpa using f7)
 have c2_8 := cl HK2 8 (r4) (by simpa using f8)
 have c2_9 := cl HK2 9 (r5) (by simpa using f9)
 have c2_10 := cl HK2 10 (r6) (by simpa using f10)
 have c2_11 := cl HK2 11 (r7) (by simpa using f11)
 have c2_12 := cl HK2 12 (r8) (by simpa using f12)
 have c2_13 := cl HK2 13 (r9) (by simpa using f13)
 have c2_14 := cl HK2 14 (r10) (by simpa using f14)
 have c2_15 := cl HK2 15 (r11) (by simpa using f15)
 have c2_16 := cl HK2 16 (r12) (by simpa using f16)
 have c2_17 := cl HK2 17 (r13) (by simpa using f17)
 have c2_18 := cl HK2 18 (r14) (by simpa using f18)
 go_wp2_with fail
 refine nxb HQ2 z2 HK2 HNE (by decide) (ih1.out w1 _ (HB.out.trans HQ2.out.1) z2 HP2.out (by have := HL.out; simp at this ⊢; omega)) fun w2 HP3 HQ3 z3 HK3 => ?_
 have c3_0 := cl HK3 0 (.int .i64 3) (by simpa using f0)
 have c3_2 := cl HK3 2 (.string (bs nm)) (by simpa using f2)
 clear c2_0 c2_2 c2_4 c2_5 c2_6 c2_7 c2_8 c2_9 c2_10 c2_11 c2_12 c2_13 c2_14 c2_15 c2_16 c2_17 c2_18
 go_wp2_with fail
 refine nxb HQ3 z3 HK3 HNE (by decide) (put1 (w := w2) HP3.out z3 rfl (bs nm) nm rfl (by have := HL.out; simp at this ⊢; omega)) fun w3 HP4 HQ4 z4 HK4 => ?_
 have c4_0 := cl HK4 0 (.int .i64 3) (by simpa using f0)
 have c4_2 := cl HK4 2 (.string (bs nm)) (by simpa using f2)
 clear c3_0 c3_2
 go_wp2_with fail
 refine nxb HQ4 z4 HK4 HNE (by decide) (put1 (w := w3) HP4.out z4 rfl ⟨#[32]⟩ [32] rfl (by have := HL.out; simp at this ⊢; omega)) fun w4 HP5 HQ5 z5 HK5 => ?_
 have c5_0 := cl HK5 0 (.int .i64 3) (by simpa using f0)
 have c5_2 := cl HK5 2 (.string (bs nm)) (by simpa using f2)
 have c5_19 := cl HK5 19 (q0) (by simpa using f19)
 have c5_20 := cl HK5 20 (q1) (by simpa using f20)
 have c5_21 := cl HK5 21 (q2) (by simpa using f21)
 have c5_22 := cl HK5 22 (q3) (by simpa using f22)
 have c5_23 := cl HK5 23 (q4) (by simpa using f23)
 have c5_24 := cl HK5 24 (q5) (by simpa using f24)
 have c5_25 := cl HK5 25 (q6) (by simpa using f25)
 have c5_26 := cl HK5 26 (q7) (by simpa using f26)
 have c5_27 := cl HK5 27 (q8) (by simpa using f27)
 have c5_28 := cl HK5 28 (q9) (by simpa using f28)
 have c5_29 := cl HK5 29 (q10) (by simpa using f29)
 have c5_30 := cl HK5 30 (q11) (by simpa using f30)
 have c5_31 := cl HK5 31 (q12) (by simpa using f31)
 have c5_32 := cl HK5 32 (q13) (by simpa using f32)
 have c5_33 := cl HK5 33 (q14) (by simpa using f33)
 clear c4_0 c4_2
 go_wp2_with fail
 refine nxb HQ5 z5 HK5 HNE (by decide) (ih2.out w4 _ (HB.out.trans HQ5.out.1) z5 HP5.out (by have := HL.out; simp at this ⊢; omega)) fun w5 HP6 HQ6 z6 HK6 => ?_
 have c6_0 := cl HK6 0 (.int .i64 3) (by simpa using f0)
 have c6_2 := cl HK6 2 (.string (bs nm)) (by simpa using f2)
 clear c5_0 c5_2 c5_19 c5_20 c5_21 c5_22 c5_23 c5_24 c5_25 c5_26 c5_27 c5_28 c5_29 c5_30 c5_31 c5_32 c5_33
 go_wp2_with fail
 refine nx HQ6 z6 (put1 (w := w5) HP6.out z6 rfl ⟨#[59]⟩ [59] rfl (by have := HL.out; simp at this ⊢; omega)) fun w6 HP7 HQ7 z7 => ?_
 clear c6_0 c6_2
 go_wp2_with fail
 go_end0
 exact ⟨rfl, by rw [← HT.out]; have := HP7.out; simpa only [List.append_assoc] using this, HQ7.out⟩
theorem q_alw_true {B bp : Nat} {w0 : World} (cs : List Value) (t1 : List UInt8)(h0 h1 h2 h3 h4 h5 h6 : Value) (f49 : cs[49]? = some (.bool true)) (f50 : cs[50]? = some (h0)) (f51 : cs[51]? = some (h1)) (f52 : cs[52]? = some (h2)) (f53 : cs[53]? = some (h3)) (f54 : cs[54]? = some (h4)) (f55 : cs[55]? = some (h5)) (f56 : cs[56]? = some (h6))   (ih1 : Hid (Puts B bp w0 84 #[.pointer (some ⟨bp, 0, none⟩), .agg #[h0, h1, h2, h3, h4, h5, h6]] t1)) :
 Puts B bp w0 65 #[.pointer (some ⟨bp, 0, none⟩), .agg cs.toArray] ([97, 108, 119, 97, 121, 115, 32, 64, 99, 108, 107, 32] ++ t1) := by
 intro w tx hb hsz hp hlen
 have HL := hidp hlen
 have HB := hidp hb
 have HP0 := hidp hp
 clear hlen hb hp
 generalize hTT : ([97, 108, 119, 97, 121, 115, 32, 64, 99, 108, 107, 32] ++ t1 : List UInt8) = tt
 have HT := hidp hTT
 clear hTT
 have e49 : (w.alloc (.cells cs.toArray 95)).cell? ⟨w.heap.size, 49, none⟩ = some (.bool true) := by simp [f49]
 go_enter Tryz.func65, Tryz.ntmps65
 go_wp2_with fail
 clear e49
 generalize hW : w.alloc (.cells cs.toArray 95) = W at *
 obtain ⟨HP1, hzW, HQ1, HK1, HNE, HZZ⟩ := q_boxH HP0 hsz hW
 clear hW
 refine nxb HQ1 hzW HK1 HNE (by decide) (put1 (w := W) HP1.out hzW HZZ.out (⟨#[97, 108, 119, 97, 121, 115, 32, 64, 99, 108, 107, 32]⟩) [97, 108, 119, 97, 121, 115, 32, 64, 99, 108, 107, 32] rfl (by have := HL.out; simp at this ⊢; omega)) fun w1 HP2 HQ2 z2 HK2 => ?_
 have c2_49 := cl HK2 49 (.bool true) (by simpa using f49)
 have c2_50 := cl HK2 50 (h0) (by simpa using f50)
 have c2_51 := cl HK2 51 (h1) (by simpa using f51)
 have c2_52 := cl HK2 52 (h2) (by simpa using f52)
 have c2_53 := cl HK2 53 (h3) (by simpa using f53)
 have c2_54 := cl HK2 54 (h4) (by simpa using f54)
 have c2_55 := cl HK2 55 (h5) (by simpa using f55)
 have c2_56 := cl HK2 56 (h6) (by simpa using f56)
 go_wp2_with fail
 refine nx HQ2 z2 (ih1.out w1 _ (HB.out.trans HQ2.out.1) z2 HP2.out (by have := HL.out; simp at this ⊢; omega)) fun w2 HP3 HQ3 z3 => ?_
 clear c2_49 c2_50 c2_51 c2_52 c2_53 c2_54 c2_55 c2_56
 go_wp2_with fail
 go_end0
 exact ⟨rfl, by rw [← HT.out]; have := HP3.out; simpa only [List.append_assoc] using this, HQ3.out⟩
theorem q_alw_false {B bp : Nat} {w0 : World} (cs : List Value) (t1 : List UInt8)(h0 h1 h2 h3 h4 h5 h6 : Value) (f49 : cs[49]? = some (.bool false)) (f50 : cs[50]? = some (h0)) (f51 : cs[51]? = some (h1)) (f52 : cs[52]? = some (h2)) (f53 : cs[53]? = some (h3)) (f54 : cs[54]? = some (h4)) (f55 : cs[55]? = some (h5)) (f56 : cs[56]? = some (h6))   (ih1 : Hid (Puts B bp w0 84 #[.pointer (some ⟨bp, 0, none⟩), .agg #[h0, h1, h2, h3, h4, h5, h6]] t1)) :
 Puts B bp w0 65 #[.pointer (some ⟨bp, 0, none⟩), .agg cs.toArray] ([97, 108, 119, 97, 121, 115, 32, 64, 42, 32] ++ t1) := by
 intro w tx hb hsz hp hlen
 have HL := hidp hlen
 have HB := hidp hb
 have HP0 := hidp hp
 clear hlen hb hp
 generalize hTT : ([97, 108, 119, 97, 121, 115, 32, 64, 42, 32] ++ t1 : List UInt8) = tt
 have HT := hidp hTT
 clear hTT
 have e49 : (w.alloc (.cells cs.toArray 95)).cell? ⟨w.heap.size, 49, none⟩ = some (.bool false) := by simp [f49]
 go_enter Tryz.func65, Tryz.ntmps65
 go_wp2_with fail
 clear e49
 generalize hW : w.alloc (.cells cs.toArray 95) = W at *
 obtain ⟨HP1, hzW, HQ1, HK1, HNE, HZZ⟩ := q_boxH HP0 hsz hW
 clear hW
 refine nxb HQ1 hzW HK1 HNE (by decide) (put1 (w := W) HP1.out hzW HZZ.out (⟨#[97, 108, 119, 97, 121, 115, 32, 64, 42, 32]⟩) [97, 108, 119, 97, 121, 115, 32, 64, 42, 32] rfl (by have := HL.out; simp at this ⊢; omega)) fun w1 HP2 HQ2 z2 HK2 => ?_
 have c2_49 := cl HK2 49 (.bool false) (by simpa using f49)
 have c2_50 := cl HK2 50 (h0) (by simpa using f50)
 have c2_51 := cl HK2 51 (h1) (by simpa using f51)
 have c2_52 := cl HK2 52 (h2) (by simpa using f52)
 have c2_53 := cl HK2 53 (h3) (by simpa using f53)
 have c2_54 := cl HK2 54 (h4) (by simpa using f54)
 have c2_55 := cl HK2 55 (h5) (by simpa using f55)
 have c2_56 := cl HK2 56 (h6) (by simpa using f56)
 go_wp2_with fail
 refine nx HQ2 z2 (ih1.out w1 _ (HB.out.trans HQ2.out.1) z2 HP2.out (by have := HL.out; simp at this ⊢; omega)) fun w2 HP3 HQ3 z3 => ?_
 clear c2_49 c2_50 c2_51 c2_52 c2_53 c2_54 c2_55 c2_56
 go_wp2_with fail
 go_end0
 exact ⟨rfl, by rw [← HT.out]; have := HP3.out; simpa only [List.append_assoc] using this, HQ3.out⟩
theorem q_use {B bp : Nat} {w0 : World} (cs : List Value) (nm md t1 t2 : List UInt8)(vp vq : Value) (f2 : cs[2]? = some (.string (bs nm))) (f3 : cs[3]? = some (.string (bs md))) (f57 : cs[57]? = some (vp)) (f58 : cs[58]? = some (vq))   (ih1 : Hid (Puts B bp w0 24 #[.pointer (some ⟨bp, 0, none⟩), vp, .func (.func 85) #[.pointer (some ⟨bp, 0, none⟩)] #[]] t1)) (ih2 : Hid (Puts B bp w0 43 #[.pointer (some ⟨bp, 0, none⟩), vq, .func (.func 85) #[.pointer (some ⟨bp, 0, none⟩)] #[]] t2)) :
 Puts B bp w0 66 #[.pointer (some ⟨bp, 0, none⟩), .agg cs.toArray] (md ++ [32] ++ t1 ++ nm ++ [32, 40] ++ t2 ++ [41, 59]) := by
 intro w tx hb hsz hp hlen
 have HL := hidp hlen
 have HB := hidp hb
 have HP0 := hidp hp
 clear hlen hb hp
 generalize hTT : (md ++ [32] ++ t1 ++ nm ++ [32, 40] ++ t2 ++ [41, 59] : List UInt8) = tt
 have HT := hidp hTT
 clear hTT
 have e2 : (w.alloc (.cells cs.toArray 95)).cell? ⟨w.heap.size, 2, none⟩ = some (.string (bs nm)) := by simp [f2]
 have e3 : (w.alloc (.cells cs.toArray 95)).cell? ⟨w.heap.size, 3, none⟩ = some (.string (bs md)) := by simp [f3]
 go_enter Tryz.func66, Tryz.ntmps66
 go_wp2_with fail
 clear e2 e3
 generalize hW : w.alloc (.cells cs.toArray 95) = W at *
 obtain ⟨HP1, hzW, HQ1, HK1, HNE, HZZ⟩ := q_boxH HP0 hsz hW
 clear hW
 refine nxb HQ1 hzW HK1 HNE (by decide) (put2 (w := W) HP1.out hzW HZZ.out (bs md) ⟨#[32]⟩ md [32] rfl rfl (by have := HL.out; simp at this ⊢; omega)) fun w1 HP2 HQ2 z2 HK2 => ?_
 have c2_2 := cl HK2 2 (.string (bs nm)) (by simpa using f2)
 have c2_3 := cl HK2 3 (.string (bs md)) (by simpa using f3)
 have c2_57 := cl HK2 57 (vp) (by simpa using f57)
 go_wp2_with fail
 refine nxb HQ2 z2 HK2 HNE (by decide) (ih1.out w1 _ (HB.out.trans HQ2.out.1) z2 HP2.out (by have := HL.out; simp at this ⊢; omega)) fun w2 HP3 HQ3 z3 HK3 => ?_
 have c3_2 := cl HK3 2 (.string (bs nm)) (by simpa using f2)
 have c3_3 := cl HK3 3 (.string (bs md)) (by simpa using f3)
 clear c2_2 c2_3 c2_57
 go_wp2_with fail
 refine nxb HQ3 z3 HK3 HNE (by decide) (put2 (w := w2) HP3.out z3 rfl (bs nm) (⟨#[32, 40]⟩) nm [32, 40] rfl rfl (by have := HL.out; simp at this ⊢; omega)) fun w3 HP4 HQ4 z4 HK4 => ?_
 have c4_2 := cl HK4 2 (.string (bs nm)) (by simpa using f2)
 have c4_3 := cl HK4 3 (.string (bs md)) (by simpa using f3)
 have c4_58 := cl HK4 58 (vq) (by simpa using f58)
 clear c3_2 c3_3
 go_wp2_with fail
 refine nxb HQ4 z4 HK4 HNE (by decide) (ih2.out w3 _ (HB.out.trans HQ4.out.1) z4 HP4.out (by have := HL.out; simp at this ⊢; omega)) fun w4 HP5 HQ5 z5 HK5 => ?_
 have c5_2 := cl HK5 2 (.string (bs nm)) (by simpa using f2)
 have c5_3 := cl HK5 3 (.string (bs md)) (by simpa using f3)
 clear c4_2 c4_3 c4_58
 go_wp2_with fail
 refine nx HQ5 z5 (put1 (w := w4) HP5.out z5 rfl (⟨#[41, 59]⟩) [41, 59] rfl (by have := HL.out; simp at this ⊢; omega)) fun w5 HP6 HQ6 z6 => ?_
 clear c5_2 c5_3
 go_wp2_with fail
 go_end0
 exact ⟨rfl, by rw [← HT.out]; have := HP6.out; simpa only [List.append_assoc] using this, HQ6.out⟩
theorem q_mod {B bp : Nat} {w0 : World} (nm t1 t2 t3 : List UInt8)(a vp vq vi : Value)    (ih1 : Hid (Puts B bp w0 24 #[.pointer (some ⟨bp, 0, none⟩), vp, .func (.func 25) #[.pointer (some ⟨bp, 0, none⟩)] #[]] t1)) (ih2 : Hid (Puts B bp w0 26 #[.pointer (some ⟨bp, 0, none⟩), vq, .func (.func 27) #[.pointer (some ⟨bp, 0, none⟩)] #[]] t2)) (ih3 : Hid (Puts B bp w0 28 #[.pointer (some ⟨bp, 0, none⟩), vi] t3)) :
 Puts B bp w0 12 #[.pointer (some ⟨bp, 0, none⟩), .agg #[.string (bs nm), a, vp, vq, vi]] ([109, 111, 100, 117, 108, 101, 32] ++ nm ++ [32] ++ t1 ++ [40] ++ t2 ++ [41, 59, 10] ++ t3 ++ [101, 110, 100, 109, 111, 100, 117, 108, 101, 10]) := by
 intro w tx hb hsz hp hlen
 have HL := hidp hlen
 have HB := hidp hb
 have HP0 := hidp hp
 clear hlen hb hp
 generalize hTT : ([109, 111, 100, 117, 108, 101, 32] ++ nm ++ [32] ++ t1 ++ [40] ++ t2 ++ [41, 59, 10] ++ t3 ++ [101, 110, 100, 109, 111, 100, 117, 108, 101, 10] : List UInt8) = tt
 have HT := hidp hTT
 clear hTT
 go_enter Tryz.func12, Tryz.ntmps12
 go_wp2_with fail
 generalize hW : w.alloc (.cells #[.string (bs nm), a, vp, vq, vi] 40) = W at *
 obtain ⟨HP1, hzW, HQ1, HK1, HNE, HZZ⟩ := q_boxH HP0 hsz hW
 clear hW
 refine nxb HQ1 hzW HK1 HNE (by decide) (put3 (w := W) HP1.out hzW HZZ.out (⟨#[109, 111, 100, 117, 108, 101, 32]⟩) (bs nm) ⟨#[32]⟩ [109, 111, 100, 117, 108, 101, 32] nm [32] rfl rfl rfl (by have := HL.out; simp at this ⊢; omega)) fun w1 HP2 HQ2 z2 HK2 => ?_
 have c2_0 := cl HK2 0 (.string (bs nm)) rfl
 have c2_2 := cl HK2 2 (vp) rfl
 go_wp2_with fail
 refine nxb HQ2 z2 HK2 HNE (by decide) (ih1.out w1 _ (HB.out.trans HQ2.out.1) z2 HP2.out (by have := HL.out; simp at this ⊢; omega)) fun w2 HP3 HQ3 z3 HK3 => ?_
 have c3_0 := cl HK3 0 (.string (bs nm)) rfl
 clear c2_0 c2_2
 go_wp2_with fail
 refine nxb HQ3 z3 HK3 HNE (by decide) (put1 (w := w2) HP3.out z3 rfl ⟨#[40]⟩ [40] rfl (by have := HL.out; simp at this ⊢; omega)) fun w3 HP4 HQ4 z4 HK4 => ?_
 have c4_0 := cl HK4 0 (.string (bs nm)) rfl
 have c4_3 := cl HK4 3 (vq) rfl
 clear c3_0
 go_wp2_with fail
 refine nxb HQ4 z4 HK4 HNE (by decide) (ih2.out w3 _ (HB.out.trans HQ4.out.1) z4 HP4.out (by have := HL.out; simp at this ⊢; omega)) fun w4 HP5 HQ5 z5 HK5 => ?_
 have c5_0 := cl HK5 0 (.string (bs nm)) rfl
 clear c4_0 c4_3
 go_wp2_with fail
 refine nxb HQ5 z5 HK5 HNE (by decide) (put1 (w := w4) HP5.out z5 rfl (⟨#[41, 59, 10]⟩) [41, 59, 10] rfl (by have := HL.out; simp at this ⊢; omega)) fun w5 HP6 HQ6 z6 HK6 => ?_
 have c6_0 := cl HK6 0 (.string (bs nm)) rfl
 have c6_4 := cl HK6 4 (vi) rfl
 clear c5_0
 go_wp2_with fail
 refine nxb HQ6 z6 HK6 HNE (by decide) (ih3.out w5 _ (HB.out.trans HQ6.out.1) z6 HP6.out (by have := HL.out; simp at this ⊢; omega)) fun w6 HP7 HQ7 z7 HK7 => ?_
 have c7_0 := cl HK7 0 (.string (bs nm)) rfl
 clear c6_0 c6_4
 go_wp2_with fail
 refine nx HQ7 z7 (put1 (w := w6) HP7.out z7 rfl (⟨#[101, 110, 100, 109, 111, 100, 117, 108, 101, 10]⟩) [101, 110, 100, 109, 111, 100, 117, 108, 101, 10] rfl (by have := HL.out; simp at this ⊢; omega)) fun w7 HP8 HQ8 z8 => ?_
 clear c7_0
 go_wp2_with fail
 go_end0
 exact ⟨rfl, by rw [← HT.out]; have := HP8.out; simpa only [List.append_assoc] using this, HQ8.out⟩
theorem q_e8 {B bp : Nat} {w0 : World} (a op wd n nmv sl : Value)(t1 : List UInt8)    (ih1 : Hid (Puts B bp w0 83 #[.pointer (some ⟨bp, 0, none⟩), sl, .func (.func 62) #[.pointer (some ⟨bp, 0, none⟩)] #[]] t1)) :
 Puts B bp w0 62 #[.pointer (some ⟨bp, 0, none⟩), .agg #[.int .i64 8, a, op, wd, n, nmv, sl]] ([123] ++ t1 ++ [125]) := by
 intro w tx hb hsz hp hlen
 have HL := hidp hlen
 have HB := hidp hb
 have HP0 := hidp hp
 clear hlen hb hp
 generalize hTT : ([123] ++ t1 ++ [125] : List UInt8) = tt
 have HT := hidp hTT
 clear hTT
 go_enter Tryz.func62, Tryz.ntmps62
 go_wp2_with fail
 generalize hW : w.alloc (.cells #[.int .i64 8, a, op, wd, n, nmv, sl] 55) = W at *
 obtain ⟨HP1, hzW, HQ1, HK1, HNE, HZZ⟩ := q_boxH HP0 hsz hW
 clear hW
 refine nxb HQ1 hzW HK1 HNE (by decide) (put1 (w := W) HP1.out hzW HZZ.out ⟨#[123]⟩ [123] rfl (by have := HL.out; simp at this ⊢; omega)) fun w1 HP2 HQ2 z2 HK2 => ?_
 have c2_0 := cl HK2 0 (.int .i64 8) rfl
 have c2_6 := cl HK2 6 (sl) rfl
 go_wp2_with fail
 refine nxb HQ2 z2 HK2 HNE (by decide) (ih1.out w1 _ (HB.out.trans HQ2.out.1) z2 HP2.out (by have := HL.out; simp at this ⊢; omega)) fun w2 HP3 HQ3 z3 HK3 => ?_
 have c3_0 := cl HK3 0 (.int .i64 8) rfl
 clear c2_0 c2_6
 go_wp2_with fail
 refine nx HQ3 z3 (put1 (w := w2) HP3.out z3 rfl ⟨#[125]⟩ [125] rfl (by have := HL.out; simp at this ⊢; omega)) fun w3 HP4 HQ4 z4 => ?_
 clear c3_0
 go_wp2_with fail
 go_end0
 exact ⟨rfl, by rw [← HT.out]; have := HP4.out; simpa only [List.append_assoc] using this, HQ4.out⟩
end Go.Proofs.YtimmmlnememjiaaGreatDoor
