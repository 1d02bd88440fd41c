import Derived.Test.YtimmmlnememjiaaGreatDoorX
import Derived.Test.YtimmmlnememjiaaGreatDoorX32
set_option maxRecDepth 100000
set_option maxHeartbeats 16000000
namespace Go.Proofs.YtimmmlnememjiaaGreatDoor
open Go.RowKit
theorem q_op5 {B bp : Nat} {w0 : World} (a op wd n nmv sl : Value)(t1 : List UInt8)    (ih1 : Hid (Puts B bp w0 62 #[.pointer (some ⟨bp, 0, none⟩), .agg #[.int .i64 5, a, op, wd, n, nmv, sl]] t1)) :
 Puts B bp w0 82 #[.pointer (some ⟨bp, 0, none⟩), .agg #[.int .i64 5, a, op, wd, n, nmv, sl]] ([40] ++ t1 ++ [41]) := by
 intro w tx hb hsz hp hlen
 have HL := hidp hlen
 have HB := hidp hb
 have HP0 := hidp hp
 clear hlen hb hp
 generalize hTT : ([40] ++ t1 ++ [41] : List UInt8) = tt
 have HT := hidp hTT
 clear hTT
 go_enter Tryz.func82, Tryz.ntmps82
 go_wp2_with fail
 generalize hW : w.alloc (.cells #[.int .i64 5, a, op, wd, n, nmv, sl] 55) = W at *
 obtain ⟨HP1, hzW, HQ1, HK1, HNE, HZZ⟩ := q_boxH HP0 hsz hW
 clear hW
 refine nxb HQ1 hzW HK1 HNE (by decide) (put1 (w := W) HP1.out hzW HZZ.out ⟨#[40]⟩ [40] rfl (by have := HL.out; simp at this ⊢; omega)) fun w1 HP2 HQ2 z2 HK2 => ?_
 have c2_0 := cl HK2 0 (.int .i64 5) rfl
 have c2_1 := cl HK2 1 (a) rfl
 have c2_2 := cl HK2 2 (op) rfl
 have c2_3 := cl HK2 3 (wd) rfl
 have c2_4 := cl HK2 4 (n) rfl
 have c2_5 := cl HK2 5 (nmv) rfl
 have c2_6 := cl HK2 6 (sl) rfl
 go_wp2_with fail
 refine nxb HQ2 z2 HK2 HNE (by decide) (ih1.out w1 _ (HB.out.trans HQ2.out.1) z2 HP2.out (by have := HL.out; simp at this ⊢; omega)) fun w2 HP3 HQ3 z3 HK3 => ?_
 have c3_0 := cl HK3 0 (.int .i64 5) rfl
 clear c2_0 c2_1 c2_2 c2_3 c2_4 c2_5 c2_6
 go_wp2_with fail
 refine nx HQ3 z3 (put1 (w := w2) HP3.out z3 rfl ⟨#[41]⟩ [41] rfl (by have := HL.out; simp at this ⊢; omega)) fun w3 HP4 HQ4 z4 => ?_
 clear c3_0
 go_wp2_with fail
 go_end0
 exact ⟨rfl, by rw [← HT.out]; have := HP4.out; simpa only [List.append_assoc] using this, HQ4.out⟩
theorem q_op6 {B bp : Nat} {w0 : World} (a op wd n nmv sl : Value)(t1 : List UInt8)    (ih1 : Hid (Puts B bp w0 62 #[.pointer (some ⟨bp, 0, none⟩), .agg #[.int .i64 6, a, op, wd, n, nmv, sl]] t1)) :
 Puts B bp w0 82 #[.pointer (some ⟨bp, 0, none⟩), .agg #[.int .i64 6, a, op, wd, n, nmv, sl]] ([40] ++ t1 ++ [41]) := by
 intro w tx hb hsz hp hlen
 have HL := hidp hlen
 have HB := hidp hb
 have HP0 := hidp hp
 clear hlen hb hp
 generalize hTT : ([40] ++ t1 ++ [41] : List UInt8) = tt
 have HT := hidp hTT
 clear hTT
 go_enter Tryz.func82, Tryz.ntmps82
 go_wp2_with fail
 generalize hW : w.alloc (.cells #[.int .i64 6, a, op, wd, n, nmv, sl] 55) = W at *
 obtain ⟨HP1, hzW, HQ1, HK1, HNE, HZZ⟩ := q_boxH HP0 hsz hW
 clear hW
 refine nxb HQ1 hzW HK1 HNE (by decide) (put1 (w := W) HP1.out hzW HZZ.out ⟨#[40]⟩ [40] rfl (by have := HL.out; simp at this ⊢; omega)) fun w1 HP2 HQ2 z2 HK2 => ?_
 have c2_0 := cl HK2 0 (.int .i64 6) rfl
 have c2_1 := cl HK2 1 (a) rfl
 have c2_2 := cl HK2 2 (op) rfl
 have c2_3 := cl HK2 3 (wd) rfl
 have c2_4 := cl HK2 4 (n) rfl
 have c2_5 := cl HK2 5 (nmv) rfl
 have c2_6 := cl HK2 6 (sl) rfl
 go_wp2_with fail
 refine nxb HQ2 z2 HK2 HNE (by decide) (ih1.out w1 _ (HB.out.trans HQ2.out.1) z2 HP2.out (by have := HL.out; simp at this ⊢; omega)) fun w2 HP3 HQ3 z3 HK3 => ?_
 have c3_0 := cl HK3 0 (.int .i64 6) rfl
 clear c2_0 c2_1 c2_2 c2_3 c2_4 c2_5 c2_6
 go_wp2_with fail
 refine nx HQ3 z3 (put1 (w := w2) HP3.out z3 rfl ⟨#[41]⟩ [41] rfl (by have := HL.out; simp at this ⊢; omega)) fun w3 HP4 HQ4 z4 => ?_
 clear c3_0
 go_wp2_with fail
 go_end0
 exact ⟨rfl, by rw [← HT.out]; have := HP4.out; simpa only [List.append_assoc] using this, HQ4.out⟩
theorem q_op7 {B bp : Nat} {w0 : World} (a op wd n nmv sl : Value)(t1 : List UInt8)    (ih1 : Hid (Puts B bp w0 62 #[.pointer (some ⟨bp, 0, none⟩), .agg #[.int .i64 7, a, op, wd, n, nmv, sl]] t1)) :
 Puts B bp w0 82 #[.pointer (some ⟨bp, 0, none⟩), .agg #[.int .i64 7, a, op, wd, n, nmv, sl]] ([40] ++ t1 ++ [41]) := by
 intro w tx hb hsz hp hlen
 have HL := hidp hlen
 have HB := hidp hb
 have HP0 := hidp hp
 clear hlen hb hp
 generalize hTT : ([40] ++ t1 ++ [41] : List UInt8) = tt
 have HT := hidp hTT
 clear hTT
 go_enter Tryz.func82, Tryz.ntmps82
 go_wp2_with fail
 generalize hW : w.alloc (.cells #[.int .i64 7, a, op, wd, n, nmv, sl] 55) = W at *
 obtain ⟨HP1, hzW, HQ1, HK1, HNE, HZZ⟩ := q_boxH HP0 hsz hW
 clear hW
 refine nxb HQ1 hzW HK1 HNE (by decide) (put1 (w := W) HP1.out hzW HZZ.out ⟨#[40]⟩ [40] rfl (by have := HL.out; simp at this ⊢; omega)) fun w1 HP2 HQ2 z2 HK2 => ?_
 have c2_0 := cl HK2 0 (.int .i64 7) rfl
 have c2_1 := cl HK2 1 (a) rfl
 have c2_2 := cl HK2 2 (op) rfl
 have c2_3 := cl HK2 3 (wd) rfl
 have c2_4 := cl HK2 4 (n) rfl
 have c2_5 := cl HK2 5 (nmv) rfl
 have c2_6 := cl HK2 6 (sl) rfl
 go_wp2_with fail
 refine nxb HQ2 z2 HK2 HNE (by decide) (ih1.out w1 _ (HB.out.trans HQ2.out.1) z2 HP2.out (by have := HL.out; simp at this ⊢; omega)) fun w2 HP3 HQ3 z3 HK3 => ?_
 have c3_0 := cl HK3 0 (.int .i64 7) rfl
 clear c2_0 c2_1 c2_2 c2_3 c2_4 c2_5 c2_6
 go_wp2_with fail
 refine nx HQ3 z3 (put1 (w := w2) HP3.out z3 rfl ⟨#[41]⟩ [41] rfl (by have := HL.out; simp at this ⊢; omega)) fun w3 HP4 HQ4 z4 => ?_
 clear c3_0
 go_wp2_with fail
 go_end0
 exact ⟨rfl, by rw [← HT.out]; have := HP4.out; simpa only [List.append_assoc] using this, HQ4.out⟩
theorem q_op0 {B bp : Nat} {w0 : World} (k : Int) (h5 : (k == 5) = false) (h6 : (k == 6) = false) (h7 : (k == 7) = false) (a op wd n nmv sl : Value)(t1 : List UInt8)    (ih1 : Hid (Puts B bp w0 62 #[.pointer (some ⟨bp, 0, none⟩), .agg #[.int .i64 k, a, op, wd, n, nmv, sl]] t1)) :
 Puts B bp w0 82 #[.pointer (some ⟨bp, 0, none⟩), .agg #[.int .i64 k, a, op, wd, n, nmv, sl]] (t1) := by
 intro w tx hb hsz hp hlen
 have HL := hidp hlen
 have HB := hidp hb
 have HP0 := hidp hp
 clear hlen hb hp
 go_enter Tryz.func82, Tryz.ntmps82
 go_wp2_with fail
 generalize hW : w.alloc (.cells #[.int .i64 k, a, op, wd, n, nmv, sl] 55) = W at *
 obtain ⟨HP1, hzW, HQ1, HK1, HNE, HZZ⟩ := q_boxH HP0 hsz hW
 clear hW
 refine nx HQ1 hzW (ih1.out W _ (HB.out.trans HQ1.out.1) hzW HP1.out (HL.out)) fun w1 HP2 HQ2 z2 => ?_
 go_wp2_with fail
 go_end0
 exact ⟨rfl, by exact HP2.out, HQ2.out⟩
theorem q_pl3 {B bp : Nat} {w0 : World} (a op wd n : Value) (b cap : Nat) (nm : List UInt8)(h0 h1 h2 h3 h4 h5 h6 : Value)(t1 : List UInt8)  (b_b : Hid (b < B)) (m0 : Hid (w0.cell? ⟨b, 0, none⟩ = some (h0))) (m1 : Hid (w0.cell? ⟨b, 1, none⟩ = some (h1))) (m2 : Hid (w0.cell? ⟨b, 2, none⟩ = some (h2))) (m3 : Hid (w0.cell? ⟨b, 3, none⟩ = some (h3))) (m4 : Hid (w0.cell? ⟨b, 4, none⟩ = some (h4))) (m5 : Hid (w0.cell? ⟨b, 5, none⟩ = some (h5))) (m6 : Hid (w0.cell? ⟨b, 6, none⟩ = some (h6))) (ih1 : Hid (Puts B bp w0 62 #[.pointer (some ⟨bp, 0, none⟩), .agg #[h0, h1, h2, h3, h4, h5, h6]] t1)) :
 Puts B bp w0 80 #[.pointer (some ⟨bp, 0, none⟩), .agg #[.int .i64 3, a, op, wd, n, .string (bs nm), .slice (some ⟨b, 0, none⟩) 1 cap]] (nm ++ [91] ++ t1 ++ [93]) := by
 intro w tx hb hsz hp hlen
 have HL := hidp hlen
 have HB := hidp hb
 have HP0 := hidp hp
 clear hlen hb hp
 generalize hTT : (nm ++ [91] ++ t1 ++ [93] : List UInt8) = tt
 have HT := hidp hTT
 clear hTT
 go_enter Tryz.func80, Tryz.ntmps80
 go_wp2_with fail
 generalize hW : w.alloc (.cells #[.int .i64 3, a, op, wd, n, .string (bs nm), .slice (some ⟨b, 0, none⟩) 1 cap] 55) = W at *
 obtain ⟨HP1, hzW, HQ1, HK1, HNE, HZZ⟩ := q_boxH HP0 hsz hW
 clear hW
 refine nxb HQ1 hzW HK1 HNE (by decide) (put2 (w := W) HP1.out hzW HZZ.out (bs nm) ⟨#[91]⟩ nm [91] rfl rfl (by have := HL.out; simp at this ⊢; omega)) fun w1 HP2 HQ2 z2 HK2 => ?_
 have c2_0 := cl HK2 0 (.int .i64 3) rfl
 have c2_5 := cl HK2 5 (.string (bs nm)) rfl
 have c2_6 := cl HK2 6 (.slice (some ⟨b, 0, none⟩) 1 cap) rfl
 have d0_1 := dl HB HQ2 b_b m0
 have d1_1 := dl HB HQ2 b_b m1
 have d2_1 := dl HB HQ2 b_b m2
 have d3_1 := dl HB HQ2 b_b m3
 have d4_1 := dl HB HQ2 b_b m4
 have d5_1 := dl HB HQ2 b_b m5
 have d6_1 := dl HB HQ2 b_b m6
 go_wp2_with fail
 refine nxb HQ2 z2 HK2 HNE (by decide) (ih1.out w1 _ (HB.out.trans HQ2.out.1) z2 HP2.out (by have := HL.out; simp at this ⊢; omega)) fun w2 HP3 HQ3 z3 HK3 => ?_
 have c3_0 := cl HK3 0 (.int .i64 3) rfl
 have c3_5 := cl HK3 5 (.string (bs nm)) rfl
 have c3_6 := cl HK3 6 (.slice (some ⟨b, 0, none⟩) 1 cap) rfl
 clear c2_0 c2_5 c2_6 d0_1 d1_1 d2_1 d3_1 d4_1 d5_1 d6_1
 go_wp2_with fail
 refine nx HQ3 z3 (put1 (w := w2) HP3.out z3 rfl ⟨#[93]⟩ [93] rfl (by have := HL.out; simp at this ⊢; omega)) fun w3 HP4 HQ4 z4 => ?_
 clear c3_0 c3_5 c3_6
 go_wp2_with fail
 go_end0
 exact ⟨rfl, by rw [← HT.out]; have := HP4.out; simpa only [List.append_assoc] using this, HQ4.out⟩
theorem q_pl4 {B bp : Nat} {w0 : World} (a op wd n : Value) (b cap : Nat) (nm : List UInt8)(h0 h1 h2 h3 h4 h5 h6 l0 l1 l2 l3 l4 l5 l6 : Value)(t1 t2 : List UInt8)  (b_b : Hid (b < B)) (m0 : Hid (w0.cell? ⟨b, 0, none⟩ = some (h0))) (m1 : Hid (w0.cell? ⟨b, 1, none⟩ = some (h1))) (m2 : Hid (w0.cell? ⟨b, 2, none⟩ = some (h2))) (m3 : Hid (w0.cell? ⟨b, 3, none⟩ = some (h3))) (m4 : Hid (w0.cell? ⟨b, 4, none⟩ = some (h4))) (m5 : Hid (w0.cell? ⟨b, 5, none⟩ = some (h5))) (m6 : Hid (w0.cell? ⟨b, 6, none⟩ = some (h6))) (m7 : Hid (w0.cell? ⟨b, 7, none⟩ = some (l0))) (m8 : Hid (w0.cell? ⟨b, 8, none⟩ = some (l1))) (m9 : Hid (w0.cell? ⟨b, 9, none⟩ = some (l2))) (m10 : Hid (w0.cell? ⟨b, 10, none⟩ = some (l3))) (m11 : Hid (w0.cell? ⟨b, 11, none⟩ = some (l4))) (m12 : Hid (w0.cell? ⟨b, 12, none⟩ = some (l5))) (m13 : Hid (w0.cell? ⟨b, 13, none⟩ = some (l6))) (ih1 : Hid (Puts B bp w0 62 #[.pointer (some ⟨bp, 0, none⟩), .agg #[h0, h1, h2, h3, h4, h5, h6]] t1))(ih2 : Hid (Puts B bp w0 62 #[.pointer (some ⟨bp, 0, none⟩), .agg #[l0, l1, l2, l3, l4, l5, l6]] t2)) :
 Puts B bp w0 80 #[.pointer (some ⟨bp, 0, none⟩), .agg #[.int .i64 4, a, op, wd, n, .string (bs nm), .slice (some ⟨b, 0, none⟩) 2 cap]] (nm ++ [91] ++ t1 ++ [58] ++ t2 ++ [93]) := by
 intro w tx hb hsz hp hlen
 have HL := hidp hlen
 have HB := hidp hb
 have HP0 := hidp hp
 clear hlen hb hp
 generalize hTT : (nm ++ [91] ++ t1 ++ [58] ++ t2 ++ [93] : List UInt8) = tt
 have HT := hidp hTT
 clear hTT
 go_enter Tryz.func80, Tryz.ntmps80
 go_wp2_with fail
 generalize hW : w.alloc (.cells #[.int .i64 4, a, op, wd, n, .string (bs nm), .slice (some ⟨b, 0, none⟩) 2 cap] 55) = W at *
 obtain ⟨HP1, hzW, HQ1, HK1, HNE, HZZ⟩ := q_boxH HP0 hsz hW
 clear hW
 refine nxb HQ1 hzW HK1 HNE (by decide) (put2 (w := W) HP1.out hzW HZZ.out (bs nm) ⟨#[91]⟩ nm [91] rfl rfl (by have := HL.out; simp at this ⊢; omega)) fun w1 HP2 HQ2 z2 HK2 => ?_
 have c2_0 := cl HK2 0 (.int .i64 4) rfl
 have c2_5 := cl HK2 5 (.string (bs nm)) rfl
 have c2_6 := cl HK2 6 (.slice (some ⟨b, 0, none⟩) 2 cap) rfl
 have d0_1 := dl HB HQ2 b_b m0
 have d1_1 := dl HB HQ2 b_b m1
 have d2_1 := dl HB HQ2 b_b m2
 have d3_1 := dl HB HQ2 b_b m3
 have d4_1 := dl HB HQ2 b_b m4
 have d5_1 := dl HB HQ2 b_b m5
 have d6_1 := dl HB HQ2 b_b m6
 go_wp2_with fail
 refine nxb HQ2 z2 HK2 HNE (by decide) (ih1.out w1 _ (HB.out.trans HQ2.out.1) z2 HP2.out (by have := HL.out; simp at this ⊢; omega)) fun w2 HP3 HQ3 z3 HK3 => ?_
 have c3_0 := cl HK3 0 (.int .i64 4) rfl
 have c3_5 := cl HK3 5 (.string (bs nm)) rfl
 have c3_6 := cl HK3 6 (.slice (some ⟨b, 0, none⟩) 2 cap) rfl
 clear c2_0 c2_5 c2_6 d0_1 d1_1 d2_1 d3_1 d4_1 d5_1 d6_1
 go_wp2_with fail
 refine nxb HQ3 z3 HK3 HNE (by decide) (put1 (w := w2) HP3.out z3 rfl ⟨#[58]⟩ [58] rfl (by have := HL.out; simp at this ⊢; omega)) fun w3 HP4 HQ4 z4 HK4 => ?_
 have c4_0 := cl HK4 0 (.int .i64 4) rfl
 have c4_5 := cl HK4 5 (.string (bs nm)) rfl
 have c4_6 := cl HK4 6 (.slice (some ⟨b, 0, none⟩) 2 cap) rfl
 have d7_3 := dl HB HQ4 b_b m7
 have d8_3 := dl HB HQ4 b_b m8
 have d9_3 := dl HB HQ4 b_b m9
 have d10_3 := dl HB HQ4 b_b m10
 have d11_3 := dl HB HQ4 b_b m11
 have d12_3 := dl HB HQ4 b_b m12
 have d13_3 := dl HB HQ4 b_b m13
 clear c3_0 c3_5 c3_6
 go_wp2_with fail
 refine nxb HQ4 z4 HK4 HNE (by decide) (ih2.out w3 _ (HB.out.trans HQ4.out.1) z4 HP4.out (by have := HL.out; simp at this ⊢; omega)) fun w4 HP5 HQ5 z5 HK5 => ?_
 have c5_0 := cl HK5 0 (.int .i64 4) rfl
 have c5_5 := cl HK5 5 (.string (bs nm)) rfl
 have c5_6 := cl HK5 6 (.slice (some ⟨b, 0, none⟩) 2 cap) rfl
 clear c4_0 c4_5 c4_6 d7_3 d8_3 d9_3 d10_3 d11_3 d12_3 d13_3
 go_wp2_with fail
 refine nx HQ5 z5 (put1 (w := w4) HP5.out z5 rfl ⟨#[93]⟩ [93] rfl (by have := HL.out; simp at this ⊢; omega)) fun w5 HP6 HQ6 z6 => ?_
 clear c5_0 c5_5 c5_6
 go_wp2_with fail
 go_end0
 exact ⟨rfl, by rw [← HT.out]; have := HP6.out; simpa only [List.append_assoc] using this, HQ6.out⟩
theorem q_e1 {B bp : Nat} {w0 : World} (a op wd n nmv sl : Value)(t1 : List UInt8)    (ih1 : Hid (Puts B bp w0 79 #[.pointer (some ⟨bp, 0, none⟩), .agg #[.int .i64 1, a, op, wd, n, nmv, sl]] t1)) :
 Puts B bp w0 62 #[.pointer (some ⟨bp, 0, none⟩), .agg #[.int .i64 1, a, op, wd, n, nmv, sl]] (t1) := by
 intro w tx hb hsz hp hlen
 have HL := hidp hlen
 have HB := hidp hb
 have HP0 := hidp hp
 clear hlen hb hp
 go_enter Tryz.func62, Tryz.ntmps62
 go_wp2_with fail
 generalize hW : w.alloc (.cells #[.int .i64 1, a, op, wd, n, nmv, sl] 55) = W at *
 obtain ⟨HP1, hzW, HQ1, HK1, HNE, HZZ⟩ := q_boxH HP0 hsz hW
 clear hW
 refine nx HQ1 hzW (ih1.out W _ (HB.out.trans HQ1.out.1) hzW HP1.out (HL.out)) fun w1 HP2 HQ2 z2 => ?_
 go_wp2_with fail
 go_end0
 exact ⟨rfl, by exact HP2.out, HQ2.out⟩
theorem q_e2 {B bp : Nat} {w0 : World} (a op wd n sl : Value)(nm : List UInt8)     :
 Puts B bp w0 62 #[.pointer (some ⟨bp, 0, none⟩), .agg #[.int .i64 2, a, op, wd, n, .string (bs nm), sl]] (nm) := by
 intro w tx hb hsz hp hlen
 have HL := hidp hlen
 have HB := hidp hb
 have HP0 := hidp hp
 clear hlen hb hp
 go_enter Tryz.func62, Tryz.ntmps62
 go_wp2_with fail
 generalize hW : w.alloc (.cells #[.int .i64 2, a, op, wd, n, .string (bs nm), sl] 55) = W at *
 obtain ⟨HP1, hzW, HQ1, HK1, HNE, HZZ⟩ := q_boxH HP0 hsz hW
 clear hW
 refine nx HQ1 hzW (put1 (w := W) HP1.out hzW HZZ.out (bs nm) nm rfl (HL.out)) fun w1 HP2 HQ2 z2 => ?_
 go_wp2_with fail
 go_end0
 exact ⟨rfl, by exact HP2.out, HQ2.out⟩
theorem q_e3 {B bp : Nat} {w0 : World} (a op wd n nmv sl : Value)(t1 : List UInt8)    (ih1 : Hid (Puts B bp w0 80 #[.pointer (some ⟨bp, 0, none⟩), .agg #[.int .i64 3, a, op, wd, n, nmv, sl]] t1)) :
 Puts B bp w0 62 #[.pointer (some ⟨bp, 0, none⟩), .agg #[.int .i64 3, a, op, wd, n, nmv, sl]] (t1) := by
 intro w tx hb hsz hp hlen
 have HL := hidp hlen
 have HB := hidp hb
 have HP0 := hidp hp
 clear hlen hb hp
 go_enter Tryz.func62, Tryz.ntmps62
 go_wp2_with fail
 generalize hW : w.alloc (.cells #[.int .i64 3, a, op, wd, n, nmv, sl] 55) = W at *
 obtain ⟨HP1, hzW, HQ1, HK1, HNE, HZZ⟩ := q_boxH HP0 hsz hW
 clear hW
 refine nx HQ1 hzW (ih1.out W _ (HB.out.trans HQ1.out.1) hzW HP1.out (HL.out)) fun w1 HP2 HQ2 z2 => ?_
 go_wp2_with fail
 go_end0
 exact ⟨rfl, by exact HP2.out, HQ2.out⟩
theorem q_e4 {B bp : Nat} {w0 : World} (a op wd n nmv sl : Value)(t1 : List UInt8)    (ih1 : Hid (Puts B bp w0 80 #[.pointer (some ⟨bp, 0, none⟩), .agg #[.int .i64 4, a, op, wd, n, nmv, sl]] t1)) :
 Puts B bp w0 62 #[.pointer (some ⟨bp, 0, none⟩), .agg #[.int .i64 4, a, op, wd, n, nmv, sl]] (t1) := by
 intro w tx hb hsz hp hlen
 have HL := hidp hlen
 have HB := hidp hb
 have HP0 := hidp hp
 clear hlen hb hp
 go_enter Tryz.func62, Tryz.ntmps62
 go_wp2_with fail
 generalize hW : w.alloc (.cells #[.int .i64 4, a, op, wd, n, nmv, sl] 55) = W at *
 obtain ⟨HP1, hzW, HQ1, HK1, HNE, HZZ⟩ := q_boxH HP0 hsz hW
 clear hW
 refine nx HQ1 hzW (ih1.out W _ (HB.out.trans HQ1.out.1) hzW HP1.out (HL.out)) fun w1 HP2 HQ2 z2 => ?_
 go_wp2_with fail
 go_end0
 exact ⟨rfl, by exact HP2.out, HQ2.out⟩
theorem q_e5 {B bp : Nat} {w0 : World} (a wd n nmv : Value) (op : Int) (b cap : Nat) (h0 h1 h2 h3 h4 h5 h6 : Value)(sg t1 : List UInt8)  (b_b : Hid (b < B)) (m0 : Hid (w0.cell? ⟨b, 0, none⟩ = some (h0))) (m1 : Hid (w0.cell? ⟨b, 1, none⟩ = some (h1))) (m2 : Hid (w0.cell? ⟨b, 2, none⟩ = some (h2))) (m3 : Hid (w0.cell? ⟨b, 3, none⟩ = some (h3))) (m4 : Hid (w0.cell? ⟨b, 4, none⟩ = some (h4))) (m5 : Hid (w0.cell? ⟨b, 5, none⟩ = some (h5))) (m6 : Hid (w0.cell? ⟨b, 6, none⟩ = some (h6))) (ihs : Hid (Vals B bp w0 81 #[.int .i64 op] sg))(ih1 : Hid (Puts B bp w0 82 #[.pointer (some ⟨bp, 0, none⟩), .agg #[h0, h1, h2, h3, h4, h5, h6]] t1)) :
 Puts B bp w0 62 #[.pointer (some ⟨bp, 0, none⟩), .agg #[.int .i64 5, a, .int .i64 op, wd, n, nmv, .slice (some ⟨b, 0, none⟩) 1 cap]] (sg ++ t1) := by
 intro w tx hb hsz hp hlen
 have HL := hidp hlen
 have HB := hidp hb
 have HP0 := hidp hp
 clear hlen hb hp
 generalize hTT : (sg ++ t1 : List UInt8) = tt
 have HT := hidp hTT
 clear hTT
 go_enter Tryz.func62, Tryz.ntmps62
 go_wp2_with fail
 generalize hW : w.alloc (.cells #[.int .i64 5, a, .int .i64 op, wd, n, nmv, .slice (some ⟨b, 0, none⟩) 1 cap] 55) = W at *
 obtain ⟨HP1, hzW, HQ1, HK1, HNE, HZZ⟩ := q_boxH HP0 hsz hW
 clear hW
 refine nxvb HQ1 hzW HK1 HNE (by decide) (ihs.out W _ (HB.out.trans HQ1.out.1) hzW HP1.out) fun w1 HP2 HQ2 z2 HK2 => ?_
 have c2_0 := cl HK2 0 (.int .i64 5) rfl
 have c2_2 := cl HK2 2 (.int .i64 op) rfl
 have c2_6 := cl HK2 6 (.slice (some ⟨b, 0, none⟩) 1 cap) rfl
 go_wp2_with fail
 refine nxb HQ2 z2 HK2 HNE (by decide) (put1 (w := w1) HP2.out z2 rfl (bs sg) sg rfl (by have := HL.out; simp at this ⊢; omega)) fun w2 HP3 HQ3 z3 HK3 => ?_
 have c3_0 := cl HK3 0 (.int .i64 5) rfl
 have c3_2 := cl HK3 2 (.int .i64 op) rfl
 have c3_6 := cl HK3 6 (.slice (some ⟨b, 0, none⟩) 1 cap) rfl
 have d0_2 := dl HB HQ3 b_b m0
 have d1_2 := dl HB HQ3 b_b m1
 have d2_2 := dl HB HQ3 b_b m2
 have d3_2 := dl HB HQ3 b_b m3
 have d4_2 := dl HB HQ3 b_b m4
 have d5_2 := dl HB HQ3 b_b m5
 have d6_2 := dl HB HQ3 b_b m6
 clear c2_0 c2_2 c2_6
 go_wp2_with fail
 refine nx HQ3 z3 (ih1.out w2 _ (HB.out.trans HQ3.out.1) z3 HP3.out (by have := HL.out; simp at this ⊢; omega)) fun w3 HP4 HQ4 z4 => ?_
 clear c3_0 c3_2 c3_6 d0_2 d1_2 d2_2 d3_2 d4_2 d5_2 d6_2
 go_wp2_with fail
 go_end0
 exact ⟨rfl, by rw [← HT.out]; have := HP4.out; simpa only [List.append_assoc] using this, HQ4.out⟩
theorem q_e6 {B bp : Nat} {w0 : World} (a wd n nmv : Value) (op : Int) (b cap : Nat) (h0 h1 h2 h3 h4 h5 h6 l0 l1 l2 l3 l4 l5 l6 : Value)(sg t1 t2 : List UInt8)  (b_b : Hid (b < B)) (m0 : Hid (w0.cell? ⟨b, 0, none⟩ = some (h0))) (m1 : Hid (w0.cell? ⟨b, 1, none⟩ = some (h1))) (m2 : Hid (w0.cell? ⟨b, 2, none⟩ = some (h2))) (m3 : Hid (w0.cell? ⟨b, 3, none⟩ = some (h3))) (m4 : Hid (w0.cell? ⟨b, 4, none⟩ = some (h4))) (m5 : Hid (w0.cell? ⟨b, 5, none⟩ = some (h5))) (m6 : Hid (w0.cell? ⟨b, 6, none⟩ = some (h6))) (m7 : Hid (w0.cell? ⟨b, 7, none⟩ = some (l0))) (m8 : Hid (w0.cell? ⟨b, 8, none⟩ = some (l1))) (m9 : Hid (w0.cell? ⟨b, 9, none⟩ = some (l2))) (m10 : Hid (w0.cell? ⟨b, 10, none⟩ = some (l3))) (m11 : Hid (w0.cell? ⟨b, 11, none⟩ = some (l4))) (m12 : Hid (w0.cell? ⟨b, 12, none⟩ = some (l5))) (m13 : Hid (w0.cell? ⟨b, 13, none⟩ = some (l6))) (ihs : Hid (Vals B bp w0 81 #[.int .i64 op] sg))(ih1 : Hid (Puts B bp w0 82 #[.pointer (some ⟨bp, 0, none⟩), .agg #[h0, h1, h2, h3, h4, h5, h6]] t1))(ih2 : Hid (Puts B bp w0 82 #[.pointer (some ⟨bp, 0, none⟩), .agg #[l0, l1, l2, l3, l4, l5, l6]] t2)) :
 Puts B bp w0 62 #[.pointer (some ⟨bp, 0, none⟩), .agg #[.int .i64 6, a, .int .i64 op, wd, n, nmv, .slice (some ⟨b, 0, none⟩) 2 cap]] (t1 ++ [32] ++ sg ++ [32] ++ t2) := by
 intro w tx hb hsz hp hlen
 have HL := hidp hlen
 have HB := hidp hb
 have HP0 := hidp hp
 clear hlen hb hp
 generalize hTT : (t1 ++ [32] ++ sg ++ [32] ++ t2 : List UInt8) = tt
 have HT := hidp hTT
 clear hTT
 have HQ0 : Hid (Qp B bp w (w.alloc (.cells #[.int .i64 6, a, .int .i64 op, wd, n, nmv, .slice (some ⟨b, 0, none⟩) 2 cap] 55))) := (Qp.refl _ _ _).alloc hsz _
 have d0 := dl HB HQ0 b_b m0
 have d1 := dl HB HQ0 b_b m1
 have d2 := dl HB HQ0 b_b m2
 have d3 := dl HB HQ0 b_b m3
 have d4 := dl HB HQ0 b_b m4
 have d5 := dl HB HQ0 b_b m5
 have d6 := dl HB HQ0 b_b m6
 go_enter Tryz.func62, Tryz.ntmps62
 go_wp2_with fail
 clear HQ0 d0 d1 d2 d3 d4 d5 d6
 generalize hW : w.alloc (.cells #[.int .i64 6, a, .int .i64 op, wd, n, nmv, .slice (some ⟨b, 0, none⟩) 2 cap] 55) = W at *
 obtain ⟨HP1, hzW, HQ1, HK1, HNE, HZZ⟩ := q_boxH HP0 hsz hW
 clear hW
 refine nxb HQ1 hzW HK1 HNE (by decide) (ih1.out W _ (HB.out.trans HQ1.out.1) hzW HP1.out (by have := HL.out; simp at this ⊢; omega)) fun w1 HP2 HQ2 z2 HK2 => ?_
 have c2_0 := cl HK2 0 (.int .i64 6) rfl
 have c2_2 := cl HK2 2 (.int .i64 op) rfl
 have c2_6 := cl HK2 6 (.slice (some ⟨b, 0, none⟩) 2 cap) rfl
 go_wp2_with fail
 refine nxvb HQ2 z2 HK2 HNE (by decide) (ihs.out w1 _ (HB.out.trans HQ2.out.1) z2 HP2.out) fun w2 HP3 HQ3 z3 HK3 => ?_
 have c3_0 := cl HK3 0 (.int .i64 6) rfl
 have c3_2 := cl HK3 2 (.int .i64 op) rfl
 have c3_6 := cl HK3 6 (.slice (some ⟨b, 0, none⟩) 2 cap) rfl
 clear c2_0 c2_2 c2_6
 go_wp2_with fail
 refine nxb HQ3 z3 HK3 HNE (by decide) (put3 (w := w2) HP3.out z3 rfl ⟨#[32]⟩ (bs sg) ⟨#[32]⟩ [32] sg [32] rfl rfl rfl (by have := HL.out; simp at this ⊢; omega)) fun w3 HP4 HQ4 z4 HK4 => ?_
 have c4_0 := cl HK4 0 (.int .i64 6) rfl
 have c4_2 := cl HK4 2 (.int .i64 op) rfl
 have c4_6 := cl HK4 6 (.slice (some ⟨b, 0, none⟩) 2 cap) rfl
 have d7_3 := dl HB HQ4 b_b m7
 have d8_3 := dl HB HQ4 b_b m8
 have d9_3 := dl HB HQ4 b_b m9
 have d10_3 := dl HB HQ4 b_b m10
 have d11_3 := dl HB HQ4 b_b m11
 have d12_3 := dl HB HQ4 b_b m12
 have d13_3 := dl HB HQ4 b_b m13
 clear c3_0 c3_2 c3_6
 go_wp2_with fail
 refine nx HQ4 z4 (ih2.out w3 _ (HB.out.trans HQ4.out.1) z4 HP4.out (by have := HL.out; simp at this ⊢; omega)) fun w4 HP5 HQ5 z5 => ?_
 clear c4_0 c4_2 c4_6 d7_3 d8_3 d9_3 d10_3 d11_3 d12_3 d13_3
 go_wp2_with fail
 go_end0
 exact ⟨rfl, by rw [← HT.out]; have := HP5.out; simpa only [List.append_assoc] using this, HQ5.out⟩
theorem q_e7 {B bp : Nat} {w0 : World} (a wd n nmv : Value) (op : Int) (b cap : Nat) (h0 h1 h2 h3 h4 h5 h6 l0 l1 l2 l3 l4 l5 l6 u0 u1 u2 u3 u4 u5 u6 : Value)(t1 t2 t3 : List UInt8)  (b_b : Hid (b < B)) (m0 : Hid (w0.cell? ⟨b, 0, none⟩ = some (h0))) (m1 : Hid (w0.cell? ⟨b, 1, none⟩ = some (h1))) (m2 : Hid (w0.cell? ⟨b, 2, none⟩ = some (h2))) (m3 : Hid (w0.cell? ⟨b, 3, none⟩ = some (h3))) (m4 : Hid (w0.cell? ⟨b, 4, none⟩ = some (h4))) (m5 : Hid (w0.cell? ⟨b, 5, none⟩ = some (h5))) (m6 : Hid (w0.cell? ⟨b, 6, none⟩ = some (h6))) (m7 : Hid (w0.cell? ⟨b, 7, none⟩ = some (l0))) (m8 : Hid (w0.cell? ⟨b, 8, none⟩ = some (l1))) (m9 : Hid (w0.cell? ⟨b, 9, none⟩ = some (l2))) (m10 : Hid (w0.cell? ⟨b, 10, none⟩ = some (l3))) (m11 : Hid (w0.cell? ⟨b, 11, none⟩ = some (l4))) (m12 : Hid (w0.cell? ⟨b, 12, none⟩ = some (l5))) (m13 : Hid (w0.cell? ⟨b, 13, none⟩ = some (l6))) (m14 : Hid (w0.cell? ⟨b, 14, none⟩ = some (u0))) (m15 : Hid (w0.cell? ⟨b, 15, none⟩ = some (u1))) (m16 : Hid (w0.cell? ⟨b, 16, none⟩ = some (u2))) (m17 : Hid (w0.cell? ⟨b, 17, none⟩ = some (u3))) (m18 : Hid (w0.cell? ⟨b, 18, none⟩ = some (u4))) (m19 : Hid (w0.cell? ⟨b, 19, none⟩ = some (u5))) (m20 : Hid (w0.cell? ⟨b, 20, none⟩ = some (u6))) (ih1 : Hid (Puts B bp w0 82 #[.pointer (some ⟨bp, 0, none⟩), .agg #[h0, h1, h2, h3, h4, h5, h6]] t1))(ih2 : Hid (Puts B bp w0 82 #[.pointer (some ⟨bp, 0, none⟩), .agg #[l0, l1, l2, l3, l4, l5, l6]] t2))(ih3 : Hid (Puts B bp w0 82 #[.pointer (some ⟨bp, 0, none⟩), .agg #[u0, u1, u2, u3, u4, u5, u6]] t3)) :
 Puts B bp w0 62 #[.pointer (some ⟨bp, 0, none⟩), .agg #[.int .i64 7, a, .int .i64 op, wd, n, nmv, .slice (some ⟨b, 0, none⟩) 3 cap]] (t1 ++ [32, 63, 32] ++ t2 ++ [32, 58, 32] ++ t3) := by
 intro w tx hb hsz hp hlen
 have HL := hidp hlen
 have HB := hidp hb
 have HP0 := hidp hp
 clear hlen hb hp
 generalize hTT : (t1 ++ [32, 63, 32] ++ t2 ++ [32, 58, 32] ++ t3 : List UInt8) = tt
 have HT := hidp hTT
 clear hTT
 have HQ0 : Hid (Qp B bp w (w.alloc (.cells #[.int .i64 7, a, .int .i64 op, wd, n, nmv, .slice (some ⟨b, 0, none⟩) 3 cap] 55))) := (Qp.refl _ _ _).alloc hsz _
 have d0 := dl HB HQ0 b_b m0
 have d1 := dl HB HQ0 b_b m1
 have d2 := dl HB HQ0 b_b m2
 have d3 := dl HB HQ0 b_b m3
 have d4 := dl HB HQ0 b_b m4
 have d5 := dl HB HQ0 b_b m5
 have d6 := dl HB HQ0 b_b m6
 go_enter Tryz.func62, Tryz.ntmps62
 go_wp2_with fail
 clear HQ0 d0 d1 d2 d3 d4 d5 d6
 generalize hW : w.alloc (.cells #[.int .i64 7, a, .int .i64 op, wd, n, nmv, .slice (some ⟨b, 0, none⟩) 3 cap] 55) = W at *
 obtain ⟨HP1, hzW, HQ1, HK1, HNE, HZZ⟩ := q_boxH HP0 hsz hW
 clear hW
 refine nxb HQ1 hzW HK1 HNE (by decide) (ih1.out W _ (HB.out.trans HQ1.out.1) hzW HP1.out (by have := HL.out; simp at this ⊢; omega)) fun w1 HP2 HQ2 z2 HK2 => ?_
 have c2_0 := cl HK2 0 (.int .i64 7) rfl
 have c2_2 := cl HK2 2 (.int .i64 op) rfl
 have c2_6 := cl HK2 6 (.slice (some ⟨b, 0, none⟩) 3 cap) rfl
 go_wp2_with fail
 refine nxb HQ2 z2 HK2 HNE (by decide) (put1 (w := w1) HP2.out z2 rfl (⟨#[32, 63, 32]⟩) [32, 63, 32] rfl (by have := HL.out; simp at this ⊢; omega)) fun w2 HP3 HQ3 z3 HK3 => ?_
 have c3_0 := cl HK3 0 (.int .i64 7) rfl
 have c3_2 := cl HK3 2 (.int .i64 op) rfl
 have c3_6 := cl HK3 6 (.slice (some ⟨b, 0, none⟩) 3 cap) rfl
 have d7_2 := dl HB HQ3 b_b m7
 have d8_2 := dl HB HQ3 b_b m8
 have d9_2 := dl HB HQ3 b_b m9
 have d10_2 := dl HB HQ3 b_b m10
 have d11_2 := dl HB HQ3 b_b m11
 have d12_2 := dl HB HQ3 b_b m12
 have d13_2 := dl HB HQ3 b_b m13
 clear c2_0 c2_2 c2_6
 go_wp2_with fail
 refine nxb HQ3 z3 HK3 HNE (by decide) (ih2.out w2 _ (HB.out.trans HQ3.out.1) z3 HP3.out (by have := HL.out; simp at this ⊢; omega)) fun w3 HP4 HQ4 z4 HK4 => ?_
 have c4_0 := cl HK4 0 (.int .i64 7) rfl
 have c4_2 := cl HK4 2 (.int .i64 op) rfl
 have c4_6 := cl HK4 6 (.slice (some ⟨b, 0, none⟩) 3 cap) rfl
 clear c3_0 c3_2 c3_6 d7_2 d8_2 d9_2 d10_2 d11_2 d12_2 d13_2
 go_wp2_with fail
 refine nxb HQ4 z4 HK4 HNE (by decide) (put1 (w := w3) HP4.out z4 rfl (⟨#[32, 58, 32]⟩) [32, 58, 32] rfl (by have := HL.out; simp at this ⊢; omega)) fun w4 HP5 HQ5 z5 HK5 => ?_
 have c5_0 := cl HK5 0 (.int .i64 7) rfl
 have c5_2 := cl HK5 2 (.int .i64 op) rfl
 have c5_6 := cl HK5 6 (.slice (some ⟨b, 0, none⟩) 3 cap) rfl
 have d14_4 := dl HB HQ5 b_b m14
 have d15_4 := dl HB HQ5 b_b m15
 have d16_4 := dl HB HQ5 b_b m16
 have d17_4 := dl HB HQ5 b_b m17
 have d18_4 := dl HB HQ5 b_b m18
 have d19_4 := dl HB HQ5 b_b m19
 have d20_4 := dl HB HQ5 b_b m20
 clear c4_0 c4_2 c4_6
 go_wp2_with fail
 refine nx HQ5 z5 (ih3.out w4 _ (HB.out.trans HQ5.out.1) z5 HP5.out (by have := HL.out; simp at this ⊢; omega)) fun w5 HP6 HQ6 z6 => ?_
 clear c5_0 c5_2 c5_6 d14_4 d15_4 d16_4 d17_4 d18_4 d19_4 d20_4
 go_wp2_with fail
 go_end0
 exact ⟨rfl, by rw [← HT.out]; have := HP6.out; simpa only [List.append_assoc] using this, HQ6.out⟩
theorem q_e9 {B bp : Nat} {w0 : World} (a wd n nmv : Value) (op : Int) (b cap : Nat) (h0 h1 h2 h3 h4 h5 h6 l0 l1 l2 l3 l4 l5 l6 : Value)(t1 t2 : List UInt8)  (b_b : Hid (b < B)) (m0 : Hid (w0.cell? ⟨b, 0, none⟩ = some (h0))) (m1 : Hid (w0.cell? ⟨b, 1, none⟩ = some (h1))) (m2 : Hid (w0.cell? ⟨b, 2, none⟩ = some (h2))) (m3 : Hid (w0.cell? ⟨b, 3, none⟩ = some (h3))) (m4 : Hid (w0.cell? ⟨b, 4, none⟩ = some (h4))) (m5 : Hid (w0.cell? ⟨b, 5, none⟩ = some (h5))) (m6 : Hid (w0.cell? ⟨b, 6, none⟩ = some (h6))) (m7 : Hid (w0.cell? ⟨b, 7, none⟩ = some (l0))) (m8 : Hid (w0.cell? ⟨b, 8, none⟩ = some (l1))) (m9 : Hid (w0.cell? ⟨b, 9, none⟩ = some (l2))) (m10 : Hid (w0.cell? ⟨b, 10, none⟩ = some (l3))) (m11 : Hid (w0.cell? ⟨b, 11, none⟩ = some (l4))) (m12 : Hid (w0.cell? ⟨b, 12, none⟩ = some (l5))) (m13 : Hid (w0.cell? ⟨b, 13, none⟩ = some (l6))) (ih1 : Hid (Puts B bp w0 62 #[.pointer (some ⟨bp, 0, none⟩), .agg #[h0, h1, h2, h3, h4, h5, h6]] t1))(ih2 : Hid (Puts B bp w0 62 #[.pointer (some ⟨bp, 0, none⟩), .agg #[l0, l1, l2, l3, l4, l5, l6]] t2)) :
 Puts B bp w0 62 #[.pointer (some ⟨bp, 0, none⟩), .agg #[.int .i64 9, a, .int .i64 op, wd, n, nmv, .slice (some ⟨b, 0, none⟩) 2 cap]] ([123] ++ t1 ++ t2 ++ [125]) := by
 intro w tx hb hsz hp hlen
 have HL := hidp hlen
 have HB := hidp hb
 have HP0 := hidp hp
 clear hlen hb hp
 generalize hTT : ([123] ++ t1 ++ t2 ++ [125] : List UInt8) = tt
 have HT := hidp hTT
 clear hTT
 go_enter Tryz.func62, Tryz.ntmps62
 go_wp2_with fail
 generalize hW : w.alloc (.cells #[.int .i64 9, a, .int .i64 op, wd, n, nmv, .slice (some ⟨b, 0, none⟩) 2 cap] 55) = W at *
 obtain ⟨HP1, hzW, HQ1, HK1, HNE, HZZ⟩ := q_boxH HP0 hsz hW
 clear hW
 refine nxb HQ1 hzW HK1 HNE (by decide) (put1 (w := W) HP1.out hzW HZZ.out ⟨#[123]⟩ [123] rfl (by have := HL.out; simp at this ⊢; omega)) fun w1 HP2 HQ2 z2 HK2 => ?_
 have c2_0 := cl HK2 0 (.int .i64 9) rfl
 have c2_2 := cl HK2 2 (.int .i64 op) rfl
 have c2_6 := cl HK2 6 (.slice (some ⟨b, 0, none⟩) 2 cap) rfl
 have d0_1 := dl HB HQ2 b_b m0
 have d1_1 := dl HB HQ2 b_b m1
 have d2_1 := dl HB HQ2 b_b m2
 have d3_1 := dl HB HQ2 b_b m3
 have d4_1 := dl HB HQ2 b_b m4
 have d5_1 := dl HB HQ2 b_b m5
 have d6_1 := dl HB HQ2 b_b m6
 go_wp2_with fail
 refine nxb HQ2 z2 HK2 HNE (by decide) (ih1.out w1 _ (HB.out.trans HQ2.out.1) z2 HP2.out (by have := HL.out; simp at this ⊢; omega)) fun w2 HP3 HQ3 z3 HK3 => ?_
 have c3_0 := cl HK3 0 (.int .i64 9) rfl
 have c3_2 := cl HK3 2 (.int .i64 op) rfl
 have c3_6 := cl HK3 6 (.slice (some ⟨b, 0, none⟩) 2 cap) rfl
 have d7_2 := dl HB HQ3 b_b m7
 have d8_2 := dl HB HQ3 b_b m8
 have d9_2 := dl HB HQ3 b_b m9
 have d10_2 := dl HB HQ3 b_b m10
 have d11_2 := dl HB HQ3 b_b m11
 have d12_2 := dl HB HQ3 b_b m12
 have d13_2 := dl HB HQ3 b_b m13
 clear c2_0 c2_2 c2_6 d0_1 d1_1 d2_1 d3_1 d4_1 d5_1 d6_1
 go_wp2_with fail
 refine nxb HQ3 z3 HK3 HNE (by decide) (ih2.out w2 _ (HB.out.trans HQ3.out.1) z3 HP3.out (by have := HL.out; simp at this ⊢; omega)) fun w3 HP4 HQ4 z4 HK4 => ?_
 have c4_0 := cl HK4 0 (.int .i64 9) rfl
 have c4_2 := cl HK4 2 (.int .i64 op) rfl
 have c4_6 := cl HK4 6 (.slice (some ⟨b, 0, none⟩) 2 cap) rfl
 clear c3_0 c3_2 c3_6 d7_2 d8_2 d9_2 d10_2 d11_2 d12_2 d13_2
 go_wp2_with fail
 refine nx HQ4 z4 (put1 (w := w3) HP4.out z4 rfl ⟨#[125]⟩ [125] rfl (by have := HL.out; simp at this ⊢; omega)) fun w4 HP5 HQ5 z5 => ?_
 clear c4_0 c4_2 c4_6
 go_wp2_with fail
 go_end0
 exact ⟨rfl, by rw [← HT.out]; have := HP5.out; simpa only [List.append_assoc] using this, HQ5.out⟩
def binOps : List Int := [22, 21, 20, 19, 18, 16, 17, 12, 13, 14, 15, 10, 11, 8, 9, 7]
def Tabs (w : World) : Prop :=
 (∀ k : Nat, k < 6 → w.cell? ⟨0, k * 3, none⟩ = some (.string (bs (signTxt ((k : Int) + 1)))) ∧ w.cell? ⟨0, k * 3 + 1, none⟩ = some (.int .i64 ((k : Int) + 1))) ∧
 (∀ k : Nat, k < 16 → w.cell? ⟨1, k * 3, none⟩ = some (.string (bs (signTxt (binOps.getD k 0)))) ∧ w.cell? ⟨1, k * 3 + 1, none⟩ = some (.int .i64 (binOps.getD k 0)))
theorem binOps_all (op : Int) (h1 : 7 ≤ op) (h2 : op ≤ 22) (h : ∀ j : Nat, j < 16 → binOps.getD j 0 ≠ op) : False := by
 have : op = 7 ∨ op = 8 ∨ op = 9 ∨ op = 10 ∨ op = 11 ∨ op = 12 ∨ op = 13 ∨ op = 14 ∨ op = 15 ∨ op = 16 ∨ op = 17 ∨ op = 18 ∨ op = 19 ∨ op = 20 ∨ op = 21 ∨ op = 22 := by omega
 rcases this with rfl | rfl | rfl | rfl | rfl | rfl | rfl | rfl | rfl | rfl | rfl | rfl | rfl | rfl | rfl | rfl
 ·exact h 15 (by decide) rfl
 ·exact h 13 (by decide) rfl
 ·exact h 14 (by decide) rfl
 ·exact h 11 (by decide) rfl
 ·exact h 12 (by decide) rfl
 ·exact h 7 (by decide) rfl
 ·exact h 8 (by decide) rfl
 ·exact h 9 (by decide) rfl
 ·exact h 10 (by decide) rfl
 ·exact h 5 (by decide) rfl
 ·exact h 6 (by decide) rfl
 ·exact h 4 (by decide) rfl
 ·exact h 3 (by decide) rfl
 ·exact h 2 (by decide) rfl
 ·exact h 1 (by decide) rfl
 ·exact h 0 (by decide) rfl
theorem sign_of (op : Int) (h1 : 1 ≤ op) (h2 : op ≤ 22) (w : World) (ht : Tabs w) : Calls Tryz.prog 81 #[.int .i64 op] w fun e w' => e = .returned (.string (bs (signTxt op))) ∧ w' = w := by
 have HT := hidp ht
 have H1 := hidp h1
 have H2 := hidp h2
 clear ht h1 h2
 obtain ⟨sg, HS⟩ : ∃ sg, Hid (signTxt op = sg) := ⟨_, rfl⟩
 rw [HS.out]
 go_enter Tryz.func81, Tryz.ntmps81
 go_wp2_with fail
 go_loopw [3, 5] (fun _ i w' => ∃ k : Nat, k ≤ 6 ∧ i = .int .i64 k ∧ Hid ((k : Int) < op) ∧ w' = w) (fun _ i _ => 6 - (intOf i).toNat)
 case atStart => exact ⟨0, by omega, rfl, by have := H1.out; show (0 : Int) < op; omega, rfl⟩
 case round =>
  obtain ⟨k, hk, rfl, HK, rfl⟩ := hrel
  by_cases hlt : k < 6
  ·obtain ⟨c0, c1⟩ := HT.out.1 k hlt
   by_cases he : (k : Int) + 1 = op
   ·have HE : Hid (bs (signTxt ((k : Int) + 1)) = bs sg) := by show _ = _; rw [he, HS.out]
    rw [HE.out] at c0
    have hb : (((k : Int) + 1) == op) = true := by rw [he]; simp
    clear he
    go_wp2_with fail
    go_ret
    exact ⟨rfl, rfl⟩
   ·have hb : (((k : Int) + 1) == op) = false := beq_eq_false_iff_ne.2 he
    have HK2 : Hid (((k + 1 : Nat) : Int) < op) := by have := HK.out; show ((k + 1 : Nat) : Int) < op; omega
    clear he
    go_wp2_with fail
    exact ⟨⟨k + 1, by omega, by go_num, HK2, trivial⟩, by simp [intOf]; omega⟩
  ·have h7 : Hid (7 ≤ op) := by have := HK.out; show 7 ≤ op; omega
   go_wp2_with fail
   clear HK
   obtain ⟨wv, hwv⟩ : ∃ x, x = wr := ⟨_, rfl⟩
   subst hwv
   go_loopw [4, 19] (fun _ i w' => ∃ k : Nat, k ≤ 16 ∧ i = .int .i64 k ∧ Hid (∀ j : Nat, j < k → binOps.getD j 0 ≠ op) ∧ w' = wv) (fun _ i _ => 16 - (intOf i).toNat)
   case atStart => exact ⟨0, by omega, rfl, (fun j hj => absurd hj (Nat.not_lt_zero j) : Hid _), rfl⟩
   case round =>
    obtain ⟨k2, hk2, rfl, HK, rfl⟩ := hrel
    by_cases hlt2 : k2 < 16
    ·obtain ⟨c0, c1⟩ := HT.out.2 k2 hlt2
     obtain ⟨ob, HO⟩ : ∃ ob, Hid (binOps.getD k2 0 = ob) := ⟨_, rfl⟩
     rw [HO.out] at c0 c1
     by_cases he : ob = op
     ·subst he
      rw [HS.out] at c0
      go_wp2_with fail
      go_ret
      exact ⟨rfl, rfl⟩
     ·have hb : (ob == op) = false := beq_eq_false_iff_ne.2 he
      have HK2 : Hid (∀ j : Nat, j < k2 + 1 → binOps.getD j 0 ≠ op) := fun j hj => by
       rcases Nat.lt_or_ge j k2 with h | h
       ·exact HK.out j h
       ·have : j = k2 := by omega
        subst this; rw [HO.out]; exact he
      clear he
      go_wp2_with fail
      exact ⟨⟨k2 + 1, by omega, by go_num, HK2, trivial⟩, by simp [intOf]; omega⟩
    ·exfalso
     exact binOps_all op h7.out H2.out (fun j hj => HK.out j (by omega))
theorem sign_vals {B bp : Nat} {w0 : World} (hB : 2 ≤ B) (ht : Tabs w0) (op : Int) (h1 : 1 ≤ op) (h2 : op ≤ 22) : Vals B bp w0 81 #[.int .i64 op] (signTxt op) := fun w tx hb _ hp => by
 have ht' : Tabs w := ⟨fun k hk => ⟨(hb.cell (p := ⟨0, k * 3, none⟩) (by show 0 < B; omega)).trans (ht.1 k hk).1, (hb.cell (p := ⟨0, k * 3 + 1, none⟩) (by show 0 < B; omega)).trans (ht.1 k hk).2⟩,
  fun k hk => ⟨(hb.cell (p := ⟨1, k * 3, none⟩) (by show 1 < B; omega)).trans (ht.2 k hk).1, (hb.cell (p := ⟨1, k * 3 + 1, none⟩) (by show 1 < B; omega)).trans (ht.2 k hk).2⟩⟩
 refine (sign_of op h1 h2 w ht').mono ?_
 rintro e w' ⟨rfl, rfl⟩
 exact ⟨rfl, hp, Qp.refl _ _ _⟩
theorem q_n0 {B bp : Nat} {w0 : World} (a op nmv sl : Value) (n : Int)(tn : List UInt8)    (ihn : Hid (Vals B bp w0 89 #[.int .u64 n, .int .i64 10] tn)) :
 Puts B bp w0 79 #[.pointer (some ⟨bp, 0, none⟩), .agg #[.int .i64 1, a, op, .int .i64 0, .int .u64 n, nmv, sl]] (tn) := by
 intro w tx hb hsz hp hlen
 have HL := hidp hlen
 have HB := hidp hb
 have HP0 := hidp hp
 clear hlen hb hp
 go_enter Tryz.func79, Tryz.ntmps79
 go_wp2_with fail
 generalize hW : w.alloc (.cells #[.int .i64 1, a, op, .int .i64 0, .int .u64 n, nmv, sl] 55) = W at *
 obtain ⟨HP1, hzW, HQ1, HK1, HNE, HZZ⟩ := q_boxH HP0 hsz hW
 clear hW
 refine nxvb HQ1 hzW HK1 HNE (by decide) (ihn.out W _ (HB.out.trans HQ1.out.1) hzW HP1.out) fun w1 HP2 HQ2 z2 HK2 => ?_
 have c2_0 := cl HK2 0 (.int .i64 1) rfl
 have c2_3 := cl HK2 3 (.int .i64 0) rfl
 have c2_4 := cl HK2 4 (.int .u64 n) rfl
 go_wp2_with fail
 refine nx HQ2 z2 (put1 (w := w1) HP2.out z2 rfl (bs tn) tn rfl (HL.out)) fun w2 HP3 HQ3 z3 => ?_
 clear c2_0 c2_3 c2_4
 go_wp2_with fail
 go_end0
 exact ⟨rfl, by exact HP3.out, HQ3.out⟩
theorem q_n1 {B bp : Nat} {w0 : World} (a op nmv sl : Value) (wd n : Int) (hw : (0 : Int) < wd)(tw tn : List UInt8)    (ihw : Hid (Vals B bp w0 88 #[.int .i64 wd] tw)) (ihn : Hid (Vals B bp w0 89 #[.int .u64 n, .int .i64 10] tn)) :
 Puts B bp w0 79 #[.pointer (some ⟨bp, 0, none⟩), .agg #[.int .i64 1, a, op, .int .i64 wd, .int .u64 n, nmv, sl]] (tw ++ [39, 100] ++ tn) := by
 intro w tx hb hsz hp hlen
 have HL := hidp hlen
 have HB := hidp hb
 have HP0 := hidp hp
 clear hlen hb hp
 generalize hTT : (tw ++ [39, 100] ++ tn : List UInt8) = tt
 have HT := hidp hTT
 clear hTT
 go_enter Tryz.func79, Tryz.ntmps79
 go_wp2_with fail
 generalize hW : w.alloc (.cells #[.int .i64 1, a, op, .int .i64 wd, .int .u64 n, nmv, sl] 55) = W at *
 obtain ⟨HP1, hzW, HQ1, HK1, HNE, HZZ⟩ := q_boxH HP0 hsz hW
 clear hW
 refine nxvb HQ1 hzW HK1 HNE (by decide) (ihw.out W _ (HB.out.trans HQ1.out.1) hzW HP1.out) fun w1 HP2 HQ2 z2 HK2 => ?_
 have c2_0 := cl HK2 0 (.int .i64 1) rfl
 have c2_3 := cl HK2 3 (.int .i64 wd) rfl
 have c2_4 := cl HK2 4 (.int .u64 n) rfl
 go_wp2_with fail
 refine nxb HQ2 z2 HK2 HNE (by decide) (put2 (w := w1) HP2.out z2 rfl (bs tw) (⟨#[39, 100]⟩) tw [39, 100] rfl rfl (by have := HL.out; simp at this ⊢; omega)) fun w2 HP3 HQ3 z3 HK3 => ?_
 have c3_0 := cl HK3 0 (.int .i64 1) rfl
 have c3_3 := cl HK3 3 (.int .i64 wd) rfl
 have c3_4 := cl HK3 4 (.int .u64 n) rfl
 clear c2_0 c2_3 c2_4
 go_wp2_with fail
 refine nxvb HQ3 z3 HK3 HNE (by decide) (ihn.out w2 _ (HB.out.trans HQ3.out.1) z3 HP3.out) fun w3 HP4 HQ4 z4 HK4 => ?_
 have c4_0 := cl HK4 0 (.int .i64 1) rfl
 have c4_3 := cl HK4 3 (.int .i64 wd) rfl
 have c4_4 := cl HK4 4 (.int .u64 n) rfl
 clear c3_0 c3_3 c3_4
 go_wp2_with fail
 refine nx HQ4 z4 (put1 (w := w3) HP4.out z4 rfl (bs tn) tn rfl (by have := HL.out; simp at this ⊢; omega)) fun w4 HP5 HQ5 z5 => ?_
 clear c4_0 c4_3 c4_4
 go_wp2_with fail
 go_end0
 exact ⟨rfl, by rw [← HT.out]; have := HP5.out; simpa only [List.append_assoc] using this, HQ5.out⟩
end Go.Proofs.YtimmmlnememjiaaGreatDoor
