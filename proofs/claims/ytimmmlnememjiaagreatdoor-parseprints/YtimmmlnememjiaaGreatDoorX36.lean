import Derived.Test.YtimmmlnememjiaaGreatDoorX
import Derived.Test.YtimmmlnememjiaaGreatDoorX32
set_option maxRecDepth 100000
set_option maxHeartbeats 16000000
namespace Go.Proofs.YtimmmlnememjiaaGreatDoor
open Go.RowKit
theorem q_range {B bp : Nat} {w0 : World} (on : Value) (h0 h1 h2 h3 h4 h5 h6 l0 l1 l2 l3 l4 l5 l6 : Value) (t1 t2 : List UInt8)    (ih1 : Hid (Puts B bp w0 62 #[.pointer (some ⟨bp, 0, none⟩), .agg #[h0, h1, h2, h3, h4, h5, h6]] t1)) (ih2 : Hid (Puts B bp w0 62 #[.pointer (some ⟨bp, 0, none⟩), .agg #[l0, l1, l2, l3, l4, l5, l6]] t2)) :
 Puts B bp w0 63 #[.pointer (some ⟨bp, 0, none⟩), .agg #[on, h0, h1, h2, h3, h4, h5, h6, l0, l1, l2, l3, l4, l5, l6]] ([91] ++ t1 ++ [58] ++ t2 ++ [93]) := by
 intro w tx hb hsz hp hlen
 have HL := hidp hlen
 have HB := hidp hb
 have HP0 := hidp hp
 clear hlen hb hp
 generalize hTT : ([91] ++ t1 ++ [58] ++ t2 ++ [93] : List UInt8) = tt
 have HT := hidp hTT
 clear hTT
 go_enter Tryz.func63, Tryz.ntmps63
 go_wp2_with fail
 generalize hW : w.alloc (.cells #[on, h0, h1, h2, h3, h4, h5, h6, l0, l1, l2, l3, l4, l5, l6] 60) = W at *
 obtain ⟨HP1, hzW, HQ1, HK1, HNE, HZZ⟩ := q_boxH HP0 hsz hW
 clear hW
 refine nxb HQ1 hzW HK1 HNE (by decide) (put1 (w := W) HP1.out hzW HZZ.out ⟨#[91]⟩ [91] rfl (by have := HL.out; simp at this ⊢; omega)) fun w1 HP2 HQ2 z2 HK2 => ?_
 have c2_1 := cl HK2 1 (h0) rfl
 have c2_2 := cl HK2 2 (h1) rfl
 have c2_3 := cl HK2 3 (h2) rfl
 have c2_4 := cl HK2 4 (h3) rfl
 have c2_5 := cl HK2 5 (h4) rfl
 have c2_6 := cl HK2 6 (h5) rfl
 have c2_7 := cl HK2 7 (h6) rfl
 go_wp2_with fail
 refine nxb HQ2 z2 HK2 HNE (by decide) (ih1.out w1 _ (HB.out.trans HQ2.out.1) z2 HP2.out (by have := HL.out; simp at this ⊢; omega)) fun w2 HP3 HQ3 z3 HK3 => ?_
 clear c2_1 c2_2 c2_3 c2_4 c2_5 c2_6 c2_7
 go_wp2_with fail
 refine nxb HQ3 z3 HK3 HNE (by decide) (put1 (w := w2) HP3.out z3 rfl ⟨#[58]⟩ [58] rfl (by have := HL.out; simp at this ⊢; omega)) fun w3 HP4 HQ4 z4 HK4 => ?_
 have c4_8 := cl HK4 8 (l0) rfl
 have c4_9 := cl HK4 9 (l1) rfl
 have c4_10 := cl HK4 10 (l2) rfl
 have c4_11 := cl HK4 11 (l3) rfl
 have c4_12 := cl HK4 12 (l4) rfl
 have c4_13 := cl HK4 13 (l5) rfl
 have c4_14 := cl HK4 14 (l6) rfl
 go_wp2_with fail
 refine nxb HQ4 z4 HK4 HNE (by decide) (ih2.out w3 _ (HB.out.trans HQ4.out.1) z4 HP4.out (by have := HL.out; simp at this ⊢; omega)) fun w4 HP5 HQ5 z5 HK5 => ?_
 clear c4_8 c4_9 c4_10 c4_11 c4_12 c4_13 c4_14
 go_wp2_with fail
 refine nx HQ5 z5 (put1 (w := w4) HP5.out z5 rfl ⟨#[93]⟩ [93] rfl (by have := HL.out; simp at this ⊢; omega)) fun w5 HP6 HQ6 z6 => ?_
 go_wp2_with fail
 go_end0
 exact ⟨rfl, by rw [← HT.out]; have := HP6.out; simpa only [List.append_assoc] using this, HQ6.out⟩
theorem q_value {B bp : Nat} {w0 : World} (h0 h1 h2 h3 h4 h5 h6 : Value)(t1 : List UInt8)    (ih1 : Hid (Puts B bp w0 62 #[.pointer (some ⟨bp, 0, none⟩), .agg #[h0, h1, h2, h3, h4, h5, h6]] t1)) :
 Puts B bp w0 44 #[.pointer (some ⟨bp, 0, none⟩), .agg #[h0, h1, h2, h3, h4, h5, h6]] ([32, 61, 32] ++ t1) := by
 intro w tx hb hsz hp hlen
 have HL := hidp hlen
 have HB := hidp hb
 have HP0 := hidp hp
 clear hlen hb hp
 generalize hTT : ([32, 61, 32] ++ t1 : List UInt8) = tt
 have HT := hidp hTT
 clear hTT
 go_enter Tryz.func44, Tryz.ntmps44
 go_wp2_with fail
 generalize hW : w.alloc (.cells #[h0, h1, h2, h3, h4, h5, h6] 55) = W at *
 obtain ⟨HP1, hzW, HQ1, HK1, HNE, HZZ⟩ := q_boxH HP0 hsz hW
 clear hW
 refine nxb HQ1 hzW HK1 HNE (by decide) (put1 (w := W) HP1.out hzW HZZ.out (⟨#[32, 61, 32]⟩) [32, 61, 32] rfl (by have := HL.out; simp at this ⊢; omega)) fun w1 HP2 HQ2 z2 HK2 => ?_
 have c2_0 := cl HK2 0 (h0) rfl
 have c2_1 := cl HK2 1 (h1) rfl
 have c2_2 := cl HK2 2 (h2) rfl
 have c2_3 := cl HK2 3 (h3) rfl
 have c2_4 := cl HK2 4 (h4) rfl
 have c2_5 := cl HK2 5 (h5) rfl
 have c2_6 := cl HK2 6 (h6) rfl
 go_wp2_with fail
 refine nx HQ2 z2 (ih1.out w1 _ (HB.out.trans HQ2.out.1) z2 HP2.out (by have := HL.out; simp at this ⊢; omega)) fun w2 HP3 HQ3 z3 => ?_
 clear c2_0 c2_1 c2_2 c2_3 c2_4 c2_5 c2_6
 go_wp2_with fail
 go_end0
 exact ⟨rfl, by rw [← HT.out]; have := HP3.out; simpa only [List.append_assoc] using this, HQ3.out⟩
theorem q_width1 {B bp : Nat} {w0 : World} (r0 r1 r2 r3 r4 r5 r6 r7 r8 r9 r10 r11 r12 r13 : Value)(t1 : List UInt8)    (ih1 : Hid (Puts B bp w0 63 #[.pointer (some ⟨bp, 0, none⟩), .agg #[.bool true, r0, r1, r2, r3, r4, r5, r6, r7, r8, r9, r10, r11, r12, r13]] t1)) :
 Puts B bp w0 45 #[.pointer (some ⟨bp, 0, none⟩), .agg #[.bool true, r0, r1, r2, r3, r4, r5, r6, r7, r8, r9, r10, r11, r12, r13]] (t1 ++ [32]) := by
 intro w tx hb hsz hp hlen
 have HL := hidp hlen
 have HB := hidp hb
 have HP0 := hidp hp
 clear hlen hb hp
 generalize hTT : (t1 ++ [32] : List UInt8) = tt
 have HT := hidp hTT
 clear hTT
 go_enter Tryz.func45, Tryz.ntmps45
 go_wp2_with fail
 generalize hW : w.alloc (.cells #[.bool true, r0, r1, r2, r3, r4, r5, r6, r7, r8, r9, r10, r11, r12, r13] 60) = W at *
 obtain ⟨HP1, hzW, HQ1, HK1, HNE, HZZ⟩ := q_boxH HP0 hsz hW
 clear hW
 refine nxb HQ1 hzW HK1 HNE (by decide) (ih1.out W _ (HB.out.trans HQ1.out.1) hzW HP1.out (by have := HL.out; simp at this ⊢; omega)) fun w1 HP2 HQ2 z2 HK2 => ?_
 have c2_0 := cl HK2 0 (.bool true) rfl
 go_wp2_with fail
 refine nx HQ2 z2 (put1 (w := w1) HP2.out z2 rfl ⟨#[32]⟩ [32] rfl (by have := HL.out; simp at this ⊢; omega)) fun w2 HP3 HQ3 z3 => ?_
 clear c2_0
 go_wp2_with fail
 go_end0
 exact ⟨rfl, by rw [← HT.out]; have := HP3.out; simpa only [List.append_assoc] using this, HQ3.out⟩
theorem q_param {B bp : Nat} {w0 : World} (nm t1 : List UInt8) (a gv : Value) (h0 h1 h2 h3 h4 h5 h6 : Value)    (ih1 : Hid (Puts B bp w0 44 #[.pointer (some ⟨bp, 0, none⟩), .agg #[h0, h1, h2, h3, h4, h5, h6]] t1)) :
 Puts B bp w0 25 #[.pointer (some ⟨bp, 0, none⟩), .agg #[.string (bs nm), a, gv, h0, h1, h2, h3, h4, h5, h6]] (nm ++ t1) := by
 intro w tx hb hsz hp hlen
 have HL := hidp hlen
 have HB := hidp hb
 have HP0 := hidp hp
 clear hlen hb hp
 generalize hTT : (nm ++ t1 : List UInt8) = tt
 have HT := hidp hTT
 clear hTT
 go_enter Tryz.func25, Tryz.ntmps25
 go_wp2_with fail
 generalize hW : w.alloc (.cells #[.string (bs nm), a, gv, h0, h1, h2, h3, h4, h5, h6] 57) = W at *
 obtain ⟨HP1, hzW, HQ1, HK1, HNE, HZZ⟩ := q_boxH HP0 hsz hW
 clear hW
 refine nxb HQ1 hzW HK1 HNE (by decide) (put1 (w := W) HP1.out hzW HZZ.out (bs nm) nm rfl (by have := HL.out; simp at this ⊢; omega)) fun w1 HP2 HQ2 z2 HK2 => ?_
 have c2_0 := cl HK2 0 (.string (bs nm)) rfl
 have c2_3 := cl HK2 3 (h0) rfl
 have c2_4 := cl HK2 4 (h1) rfl
 have c2_5 := cl HK2 5 (h2) rfl
 have c2_6 := cl HK2 6 (h3) rfl
 have c2_7 := cl HK2 7 (h4) rfl
 have c2_8 := cl HK2 8 (h5) rfl
 have c2_9 := cl HK2 9 (h6) rfl
 go_wp2_with fail
 refine nx HQ2 z2 (ih1.out w1 _ (HB.out.trans HQ2.out.1) z2 HP2.out (by have := HL.out; simp at this ⊢; omega)) fun w2 HP3 HQ3 z3 => ?_
 clear c2_0 c2_3 c2_4 c2_5 c2_6 c2_7 c2_8 c2_9
 go_wp2_with fail
 go_end0
 exact ⟨rfl, by rw [← HT.out]; have := HP3.out; simpa only [List.append_assoc] using this, HQ3.out⟩
theorem q_port_in {B bp : Nat} {w0 : World} (nm t1 : List UInt8) (a : Value) (rg : Bool) (r0 r1 r2 r3 r4 r5 r6 r7 r8 r9 r10 r11 r12 r13 r14 : Value)    (ih1 : Hid (Puts B bp w0 45 #[.pointer (some ⟨bp, 0, none⟩), .agg #[r0, r1, r2, r3, r4, r5, r6, r7, r8, r9, r10, r11, r12, r13, r14]] t1)) :
 Puts B bp w0 27 #[.pointer (some ⟨bp, 0, none⟩), .agg #[.string (bs nm), a, .bool false, .bool rg, r0, r1, r2, r3, r4, r5, r6, r7, r8, r9, r10, r11, r12, r13, r14]] ([105, 110, 112, 117, 116, 32] ++ t1 ++ nm) := by
 intro w tx hb hsz hp hlen
 have HL := hidp hlen
 have HB := hidp hb
 have HP0 := hidp hp
 clear hlen hb hp
 generalize hTT : ([105, 110, 112, 117, 116, 32] ++ t1 ++ nm : List UInt8) = tt
 have HT := hidp hTT
 clear hTT
 go_enter Tryz.func27, Tryz.ntmps27
 go_wp2_with fail
 generalize hW : w.alloc (.cells #[.string (bs nm), a, .bool false, .bool rg, r0, r1, r2, r3, r4, r5, r6, r7, r8, r9, r10, r11, r12, r13, r14] 62) = W at *
 obtain ⟨HP1, hzW, HQ1, HK1, HNE, HZZ⟩ := q_boxH HP0 hsz hW
 clear hW
 refine nxb HQ1 hzW HK1 HNE (by decide) (put1 (w := W) HP1.out hzW HZZ.out (⟨#[105, 110, 112, 117, 116, 32]⟩) [105, 110, 112, 117, 116, 32] rfl (by have := HL.out; simp at this ⊢; omega)) fun w1 HP2 HQ2 z2 HK2 => ?_
 have c2_0 := cl HK2 0 (.string (bs nm)) rfl
 have c2_2 := cl HK2 2 (.bool false) rfl
 have c2_3 := cl HK2 3 (.bool rg) rfl
 have c2_4 := cl HK2 4 (r0) rfl
 have c2_5 := cl HK2 5 (r1) rfl
 have c2_6 := cl HK2 6 (r2) rfl
 have c2_7 := cl HK2 7 (r3) rfl
 have c2_8 := cl HK2 8 (r4) rfl
 have c2_9 := cl HK2 9 (r5) rfl
 have c2_10 := cl HK2 10 (r6) rfl
 have c2_11 := cl HK2 11 (r7) rfl
 have c2_12 := cl HK2 12 (r8) rfl
 have c2_13 := cl HK2 13 (r9) rfl
 have c2_14 := cl HK2 14 (r10) rfl
 have c2_15 := cl HK2 15 (r11) rfl
 have c2_16 := cl HK2 16 (r12) rfl
 have c2_17 := cl HK2 17 (r13) rfl
 have c2_18 := cl HK2 18 (r14) rfl
 go_wp2_with fail
 refine nxb HQ2 z2 HK2 HNE (by decide) (ih1.out w1 _ (HB.out.trans HQ2.out.1) z2 HP2.out (by have := HL.out; simp at this ⊢; omega)) fun w2 HP3 HQ3 z3 HK3 => ?_
 have c3_0 := cl HK3 0 (.string (bs nm)) rfl
 have c3_2 := cl HK3 2 (.bool false) rfl
 have c3_3 := cl HK3 3 (.bool rg) rfl
 clear c2_0 c2_2 c2_3 c2_4 c2_5 c2_6 c2_7 c2_8 c2_9 c2_10 c2_11 c2_12 c2_13 c2_14 c2_15 c2_16 c2_17 c2_18
 go_wp2_with fail
 refine nx HQ3 z3 (put1 (w := w2) HP3.out z3 rfl (bs nm) nm rfl (by have := HL.out; simp at this ⊢; omega)) fun w3 HP4 HQ4 z4 => ?_
 clear c3_0 c3_2 c3_3
 go_wp2_with fail
 go_end0
 exact ⟨rfl, by rw [← HT.out]; have := HP4.out; simpa only [List.append_assoc] using this, HQ4.out⟩
theorem q_port_out {B bp : Nat} {w0 : World} (nm t1 : List UInt8) (a : Value) (r0 r1 r2 r3 r4 r5 r6 r7 r8 r9 r10 r11 r12 r13 r14 : Value)    (ih1 : Hid (Puts B bp w0 45 #[.pointer (some ⟨bp, 0, none⟩), .agg #[r0, r1, r2, r3, r4, r5, r6, r7, r8, r9, r10, r11, r12, r13, r14]] t1)) :
 Puts B bp w0 27 #[.pointer (some ⟨bp, 0, none⟩), .agg #[.string (bs nm), a, .bool true, .bool false, r0, r1, r2, r3, r4, r5, r6, r7, r8, r9, r10, r11, r12, r13, r14]] ([111, 117, 116, 112, 117, 116, 32] ++ t1 ++ nm) := by
 intro w tx hb hsz hp hlen
 have HL := hidp hlen
 have HB := hidp hb
 have HP0 := hidp hp
 clear hlen hb hp
 generalize hTT : ([111, 117, 116, 112, 117, 116, 32] ++ t1 ++ nm : List UInt8) = tt
 have HT := hidp hTT
 clear hTT
 go_enter Tryz.func27, Tryz.ntmps27
 go_wp2_with fail
 generalize hW : w.alloc (.cells #[.string (bs nm), a, .bool true, .bool false, r0, r1, r2, r3, r4, r5, r6, r7, r8, r9, r10, r11, r12, r13, r14] 62) = W at *
 obtain ⟨HP1, hzW, HQ1, HK1, HNE, HZZ⟩ := q_boxH HP0 hsz hW
 clear hW
 refine nxb HQ1 hzW HK1 HNE (by decide) (put1 (w := W) HP1.out hzW HZZ.out (⟨#[111, 117, 116, 112, 117, 116, 32]⟩) [111, 117, 116, 112, 117, 116, 32] rfl (by have := HL.out; simp at this ⊢; omega)) fun w1 HP2 HQ2 z2 HK2 => ?_
 have c2_0 := cl HK2 0 (.string (bs nm)) rfl
 have c2_2 := cl HK2 2 (.bool true) rfl
 have c2_3 := cl HK2 3 (.bool false) rfl
 have c2_4 := cl HK2 4 (r0) rfl
 have c2_5 := cl HK2 5 (r1) rfl
 have c2_6 := cl HK2 6 (r2) rfl
 have c2_7 := cl HK2 7 (r3) rfl
 have c2_8 := cl HK2 8 (r4) rfl
 have c2_9 := cl HK2 9 (r5) rfl
 have c2_10 := cl HK2 10 (r6) rfl
 have c2_11 := cl HK2 11 (r7) rfl
 have c2_12 := cl HK2 12 (r8) rfl
 have c2_13 := cl HK2 13 (r9) rfl
 have c2_14 := cl HK2 14 (r10) rfl
 have c2_15 := cl HK2 15 (r11) rfl
 have c2_16 := cl HK2 16 (r12) rfl
 have c2_17 := cl HK2 17 (r13) rfl
 have c2_18 := cl HK2 18 (r14) rfl
 go_wp2_with fail
 refine nxb HQ2 z2 HK2 HNE (by decide) (ih1.out w1 _ (HB.out.trans HQ2.out.1) z2 HP2.out (by have := HL.out; simp at this ⊢; omega)) fun w2 HP3 HQ3 z3 HK3 => ?_
 have c3_0 := cl HK3 0 (.string (bs nm)) rfl
 have c3_2 := cl HK3 2 (.bool true) rfl
 have c3_3 := cl HK3 3 (.bool false) rfl
 clear c2_0 c2_2 c2_3 c2_4 c2_5 c2_6 c2_7 c2_8 c2_9 c2_10 c2_11 c2_12 c2_13 c2_14 c2_15 c2_16 c2_17 c2_18
 go_wp2_with fail
 refine nx HQ3 z3 (put1 (w := w2) HP3.out z3 rfl (bs nm) nm rfl (by have := HL.out; simp at this ⊢; omega)) fun w3 HP4 HQ4 z4 => ?_
 clear c3_0 c3_2 c3_3
 go_wp2_with fail
 go_end0
 exact ⟨rfl, by rw [← HT.out]; have := HP4.out; simpa only [List.append_assoc] using this, HQ4.out⟩
theorem q_port_reg {B bp : Nat} {w0 : World} (nm t1 : List UInt8) (a : Value) (r0 r1 r2 r3 r4 r5 r6 r7 r8 r9 r10 r11 r12 r13 r14 : Value)    (ih1 : Hid (Puts B bp w0 45 #[.pointer (some ⟨bp, 0, none⟩), .agg #[r0, r1, r2, r3, r4, r5, r6, r7, r8, r9, r10, r11, r12, r13, r14]] t1)) :
 Puts B bp w0 27 #[.pointer (some ⟨bp, 0, none⟩), .agg #[.string (bs nm), a, .bool true, .bool true, r0, r1, r2, r3, r4, r5, r6, r7, r8, r9, r10, r11, r12, r13, r14]] ([111, 117, 116, 112, 117, 116, 32, 114, 101, 103, 32] ++ t1 ++ nm) := by
 intro w tx hb hsz hp hlen
 have HL := hidp hlen
 have HB := hidp hb
 have HP0 := hidp hp
 clear hlen hb hp
 generalize hTT : ([111, 117, 116, 112, 117, 116, 32, 114, 101, 103, 32] ++ t1 ++ nm : List UInt8) = tt
 have HT := hidp hTT
 clear hTT
 go_enter Tryz.func27, Tryz.ntmps27
 go_wp2_with fail
 generalize hW : w.alloc (.cells #[.string (bs nm), a, .bool true, .bool true, r0, r1, r2, r3, r4, r5, r6, r7, r8, r9, r10, r11, r12, r13, r14] 62) = W at *
 obtain ⟨HP1, hzW, HQ1, HK1, HNE, HZZ⟩ := q_boxH HP0 hsz hW
 clear hW
 refine nxb HQ1 hzW HK1 HNE (by decide) (put1 (w := W) HP1.out hzW HZZ.out (⟨#[111, 117, 116, 112, 117, 116, 32, 114, 101, 103, 32]⟩) [111, 117, 116, 112, 117, 116, 32, 114, 101, 103, 32] rfl (by have := HL.out; simp at this ⊢; omega)) fun w1 HP2 HQ2 z2 HK2 => ?_
 have c2_0 := cl HK2 0 (.string (bs nm)) rfl
 have c2_2 := cl HK2 2 (.bool true) rfl
 have c2_3 := cl HK2 3 (.bool true) rfl
 have c2_4 := cl HK2 4 (r0) rfl
 have c2_5 := cl HK2 5 (r1) rfl
 have c2_6 := cl HK2 6 (r2) rfl
 have c2_7 := cl HK2 7 (r3) rfl
 have c2_8 := cl HK2 8 (r4) rfl
 have c2_9 := cl HK2 9 (r5) rfl
 have c2_10 := cl HK2 10 (r6) rfl
 have c2_11 := cl HK2 11 (r7) rfl
 have c2_12 := cl HK2 12 (r8) rfl
 have c2_13 := cl HK2 13 (r9) rfl
 have c2_14 := cl HK2 14 (r10) rfl
 have c2_15 := cl HK2 15 (r11) rfl
 have c2_16 := cl HK2 16 (r12) rfl
 have c2_17 := cl HK2 17 (r13) rfl
 have c2_18 := cl HK2 18 (r14) rfl
 go_wp2_with fail
 refine nxb HQ2 z2 HK2 HNE (by decide) (ih1.out w1 _ (HB.out.trans HQ2.out.1) z2 HP2.out (by have := HL.out; simp at this ⊢; omega)) fun w2 HP3 HQ3 z3 HK3 => ?_
 have c3_0 := cl HK3 0 (.string (bs nm)) rfl
 have c3_2 := cl HK3 2 (.bool true) rfl
 have c3_3 := cl HK3 3 (.bool true) rfl
 clear c2_0 c2_2 c2_3 c2_4 c2_5 c2_6 c2_7 c2_8 c2_9 c2_10 c2_11 c2_12 c2_13 c2_14 c2_15 c2_16 c2_17 c2_18
 go_wp2_with fail
 refine nx HQ3 z3 (put1 (w := w2) HP3.out z3 rfl (bs nm) nm rfl (by have := HL.out; simp at this ⊢; omega)) fun w3 HP4 HQ4 z4 => ?_
 clear c3_0 c3_2 c3_3
 go_wp2_with fail
 go_end0
 exact ⟨rfl, by rw [← HT.out]; have := HP4.out; simpa only [List.append_assoc] using this, HQ4.out⟩
theorem q_bind1 {B bp : Nat} {w0 : World} (nm t1 : List UInt8) (a : Value) (h0 h1 h2 h3 h4 h5 h6 : Value)    (ih1 : Hid (Puts B bp w0 62 #[.pointer (some ⟨bp, 0, none⟩), .agg #[h0, h1, h2, h3, h4, h5, h6]] t1)) :
 Puts B bp w0 85 #[.pointer (some ⟨bp, 0, none⟩), .agg #[.string (bs nm), a, .bool true, h0, h1, h2, h3, h4, h5, h6]] ([46] ++ nm ++ [40] ++ t1 ++ [41]) := by
 intro w tx hb hsz hp hlen
 have HL := hidp hlen
 have HB := hidp hb
 have HP0 := hidp hp
 clear hlen hb hp
 generalize hTT : ([46] ++ nm ++ [40] ++ t1 ++ [41] : List UInt8) = tt
 have HT := hidp hTT
 clear hTT
 go_enter Tryz.func85, Tryz.ntmps85
 go_wp2_with fail
 generalize hW : w.alloc (.cells #[.string (bs nm), a, .bool true, h0, h1, h2, h3, h4, h5, h6] 57) = W at *
 obtain ⟨HP1, hzW, HQ1, HK1, HNE, HZZ⟩ := q_boxH HP0 hsz hW
 clear hW
 refine nxb HQ1 hzW HK1 HNE (by decide) (put3 (w := W) HP1.out hzW HZZ.out ⟨#[46]⟩ (bs nm) ⟨#[40]⟩ [46] nm [40] rfl rfl rfl (by have := HL.out; simp at this ⊢; omega)) fun w1 HP2 HQ2 z2 HK2 => ?_
 have c2_0 := cl HK2 0 (.string (bs nm)) rfl
 have c2_2 := cl HK2 2 (.bool true) rfl
 have c2_3 := cl HK2 3 (h0) rfl
 have c2_4 := cl HK2 4 (h1) rfl
 have c2_5 := cl HK2 5 (h2) rfl
 have c2_6 := cl HK2 6 (h3) rfl
 have c2_7 := cl HK2 7 (h4) rfl
 have c2_8 := cl HK2 8 (h5) rfl
 have c2_9 := cl HK2 9 (h6) rfl
 go_wp2_with fail
 refine nxb HQ2 z2 HK2 HNE (by decide) (ih1.out w1 _ (HB.out.trans HQ2.out.1) z2 HP2.out (by have := HL.out; simp at this ⊢; omega)) fun w2 HP3 HQ3 z3 HK3 => ?_
 have c3_0 := cl HK3 0 (.string (bs nm)) rfl
 have c3_2 := cl HK3 2 (.bool true) rfl
 clear c2_0 c2_2 c2_3 c2_4 c2_5 c2_6 c2_7 c2_8 c2_9
 go_wp2_with fail
 refine nx HQ3 z3 (put1 (w := w2) HP3.out z3 rfl ⟨#[41]⟩ [41] rfl (by have := HL.out; simp at this ⊢; omega)) fun w3 HP4 HQ4 z4 => ?_
 clear c3_0 c3_2
 go_wp2_with fail
 go_end0
 exact ⟨rfl, by rw [← HT.out]; have := HP4.out; simpa only [List.append_assoc] using this, HQ4.out⟩
theorem q_bind0 {B bp : Nat} {w0 : World} (nm : List UInt8) (a : Value) (h0 h1 h2 h3 h4 h5 h6 : Value)     :
 Puts B bp w0 85 #[.pointer (some ⟨bp, 0, none⟩), .agg #[.string (bs nm), a, .bool false, h0, h1, h2, h3, h4, h5, h6]] ([46] ++ nm ++ [40] ++ [41]) := by
 intro w tx hb hsz hp hlen
 have HL := hidp hlen
 have HB := hidp hb
 have HP0 := hidp hp
 clear hlen hb hp
 generalize hTT : ([46] ++ nm ++ [40] ++ [41] : List UInt8) = tt
 have HT := hidp hTT
 clear hTT
 go_enter Tryz.func85, Tryz.ntmps85
 go_wp2_with fail
 generalize hW : w.alloc (.cells #[.string (bs nm), a, .bool false, h0, h1, h2, h3, h4, h5, h6] 57) = W at *
 obtain ⟨HP1, hzW, HQ1, HK1, HNE, HZZ⟩ := q_boxH HP0 hsz hW
 clear hW
 refine nxb HQ1 hzW HK1 HNE (by decide) (put3 (w := W) HP1.out hzW HZZ.out ⟨#[46]⟩ (bs nm) ⟨#[40]⟩ [46] nm [40] rfl rfl rfl (by have := HL.out; simp at this ⊢; omega)) fun w1 HP2 HQ2 z2 HK2 => ?_
 have c2_0 := cl HK2 0 (.string (bs nm)) rfl
 have c2_2 := cl HK2 2 (.bool false) rfl
 go_wp2_with fail
 refine nx HQ2 z2 (put1 (w := w1) HP2.out z2 rfl ⟨#[41]⟩ [41] rfl (by have := HL.out; simp at this ⊢; omega)) fun w2 HP3 HQ3 z3 => ?_
 clear c2_0 c2_2
 go_wp2_with fail
 go_end0
 exact ⟨rfl, by rw [← HT.out]; have := HP3.out; simpa only [List.append_assoc] using this, HQ3.out⟩
theorem q_cond {B bp : Nat} {w0 : World} (wo t1 : List UInt8)(h0 h1 h2 h3 h4 h5 h6 : Value)    (ih1 : Hid (Puts B bp w0 62 #[.pointer (some ⟨bp, 0, none⟩), .agg #[h0, h1, h2, h3, h4, h5, h6]] t1)) :
 Puts B bp w0 69 #[.pointer (some ⟨bp, 0, none⟩), .string (bs wo), .agg #[h0, h1, h2, h3, h4, h5, h6]] (wo ++ [32, 40] ++ t1 ++ [41]) := by
 intro w tx hb hsz hp hlen
 have HL := hidp hlen
 have HB := hidp hb
 have HP0 := hidp hp
 clear hlen hb hp
 generalize hTT : (wo ++ [32, 40] ++ t1 ++ [41] : List UInt8) = tt
 have HT := hidp hTT
 clear hTT
 go_enter Tryz.func69, Tryz.ntmps69
 go_wp2_with fail
 generalize hW : w.alloc (.cells #[h0, h1, h2, h3, h4, h5, h6] 55) = W at *
 obtain ⟨HP1, hzW, HQ1, HK1, HNE, HZZ⟩ := q_boxH HP0 hsz hW
 clear hW
 refine nxb HQ1 hzW HK1 HNE (by decide) (put2 (w := W) HP1.out hzW HZZ.out (bs wo) (⟨#[32, 40]⟩) wo [32, 40] rfl rfl (by have := HL.out; simp at this ⊢; omega)) fun w1 HP2 HQ2 z2 HK2 => ?_
 have c2_0 := cl HK2 0 (h0) rfl
 have c2_1 := cl HK2 1 (h1) rfl
 have c2_2 := cl HK2 2 (h2) rfl
 have c2_3 := cl HK2 3 (h3) rfl
 have c2_4 := cl HK2 4 (h4) rfl
 have c2_5 := cl HK2 5 (h5) rfl
 have c2_6 := cl HK2 6 (h6) rfl
 go_wp2_with fail
 refine nxb HQ2 z2 HK2 HNE (by decide) (ih1.out w1 _ (HB.out.trans HQ2.out.1) z2 HP2.out (by have := HL.out; simp at this ⊢; omega)) fun w2 HP3 HQ3 z3 HK3 => ?_
 clear c2_0 c2_1 c2_2 c2_3 c2_4 c2_5 c2_6
 go_wp2_with fail
 refine nx HQ3 z3 (put1 (w := w2) HP3.out z3 rfl ⟨#[41]⟩ [41] rfl (by have := HL.out; simp at this ⊢; omega)) fun w3 HP4 HQ4 z4 => ?_
 go_wp2_with fail
 go_end0
 exact ⟨rfl, by rw [← HT.out]; have := HP4.out; simpa only [List.append_assoc] using this, HQ4.out⟩
theorem q_part {B bp : Nat} {w0 : World} (lb t1 : List UInt8) (sl : Value)    (ih1 : Hid (Puts B bp w0 28 #[.pointer (some ⟨bp, 0, none⟩), sl] t1)) :
 Puts B bp w0 68 #[.pointer (some ⟨bp, 0, none⟩), .string (bs lb), sl] ([98, 101, 103, 105, 110, 32, 58, 32] ++ lb ++ [10] ++ t1 ++ [101, 110, 100]) := by
 intro w tx hb hsz hp hlen
 have HL := hidp hlen
 have HB := hidp hb
 have HP0 := hidp hp
 clear hlen hb hp
 generalize hTT : ([98, 101, 103, 105, 110, 32, 58, 32] ++ lb ++ [10] ++ t1 ++ [101, 110, 100] : List UInt8) = tt
 have HT := hidp hTT
 clear hTT
 go_enter Tryz.func68, Tryz.ntmps68
 go_wp2_with fail
 have HP1 := HP0
 have HQ1 := hidp (Qp.refl B bp w)
 refine nx HQ1 hsz (put3 (w := w) HP1.out hsz rfl (⟨#[98, 101, 103, 105, 110, 32, 58, 32]⟩) (bs lb) ⟨#[10]⟩ [98, 101, 103, 105, 110, 32, 58, 32] lb [10] rfl rfl rfl (by have := HL.out; simp at this ⊢; omega)) fun w1 HP2 HQ2 z2 => ?_
 go_wp2_with fail
 refine nx HQ2 z2 (ih1.out w1 _ (HB.out.trans HQ2.out.1) z2 HP2.out (by have := HL.out; simp at this ⊢; omega)) fun w2 HP3 HQ3 z3 => ?_
 go_wp2_with fail
 refine nx HQ3 z3 (put1 (w := w2) HP3.out z3 rfl (⟨#[101, 110, 100]⟩) [101, 110, 100] rfl (by have := HL.out; simp at this ⊢; omega)) fun w3 HP4 HQ4 z4 => ?_
 go_wp2_with fail
 go_end0
 exact ⟨rfl, by rw [← HT.out]; have := HP4.out; simpa only [List.append_assoc] using this, HQ4.out⟩
end Go.Proofs.YtimmmlnememjiaaGreatDoor
