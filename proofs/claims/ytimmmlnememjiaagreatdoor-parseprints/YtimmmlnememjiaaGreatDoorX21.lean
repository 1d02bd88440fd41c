import Derived.Test.YtimmmlnememjiaaGreatDoorX
import Derived.Test.YtimmmlnememjiaaGreatDoorX20
import Derived.Test.YtimmmlnememjiaaGreatDoorX19
set_option maxRecDepth 100000
set_option maxHeartbeats 16000000
namespace Go.Proofs.YtimmmlnememjiaaGreatDoor
open Go.RowKit
theorem it_mem (w : World) (cs : Array Value) (nm : List UInt8) (zn : nm.length ≤ 1000000000000) (r0 r1 r2 r3 r4 r5 r6 r7 r8 r9 r10 r11 r12 r13 r14 : Value) (k1 a1 op1 wd1 n1 : Int) (nm1 : ByteArray) (sl1 : Value) (k2 a2 op2 wd2 n2 : Int) (nm2 : ByteArray) (sl2 : Value) (f0 : cs[0]? = some (.int .i64 3)) (f2 : cs[2]? = some (.string (bs nm))) (f4 : cs[4]? = some (r0)) (f5 : cs[5]? = some (r1)) (f6 : cs[6]? = some (r2)) (f7 : cs[7]? = some (r3)) (f8 : cs[8]? = some (r4)) (f9 : cs[9]? = some (r5)) (f10 : cs[10]? = some (r6)) (f11 : cs[11]? = some (r7)) (f12 : cs[12]? = some (r8)) (f13 : cs[13]? = some (r9)) (f14 : cs[14]? = some (r10)) (f15 : cs[15]? = some (r11)) (f16 : cs[16]? = some (r12)) (f17 : cs[17]? = some (r13)) (f18 : cs[18]? = some (r14)) (f19 : cs[19]? = some (.bool true)) (f20 : cs[20]? = some (.int .i64 k1)) (f21 : cs[21]? = some (.int .i64 a1)) (f22 : cs[22]? = some (.int .i64 op1)) (f23 : cs[23]? = some (.int .i64 wd1)) (f24 : cs[24]? = some (.int .u64 n1)) (f25 : cs[25]? = some (.string nm1)) (f26 : cs[26]? = some (sl1)) (f27 : cs[27]? = some (.int .i64 k2)) (f28 : cs[28]? = some (.int .i64 a2)) (f29 : cs[29]? = some (.int .i64 op2)) (f30 : cs[30]? = some (.int .i64 wd2)) (f31 : cs[31]? = some (.int .u64 n2)) (f32 : cs[32]? = some (.string nm2)) (f33 : cs[33]? = some (sl2))
  (t0 : List UInt8) (z0 : t0.length ≤ 1000000000000) (ih0 : Hid (∀ w', Below w.heap.size w w' → Calls Tryz.prog 30 #[.agg #[r0, r1, r2, r3, r4, r5, r6, r7, r8, r9, r10, r11, r12, r13, r14]] w' (StrPost t0 w')))
  (t1 : List UInt8) (z1 : t1.length ≤ 1000000000000) (ih1 : Hid (∀ w', Below w.heap.size w w' → Calls Tryz.prog 29 #[.agg #[.int .i64 k1, .int .i64 a1, .int .i64 op1, .int .i64 wd1, .int .u64 n1, .string nm1, sl1]] w' (StrPost t1 w')))
  (t2 : List UInt8) (z2 : t2.length ≤ 1000000000000) (ih2 : Hid (∀ w', Below w.heap.size w w' → Calls Tryz.prog 29 #[.agg #[.int .i64 k2, .int .i64 a2, .int .i64 op2, .int .i64 wd2, .int .u64 n2, .string nm2, sl2]] w' (StrPost t2 w')))
  (tt : List UInt8) (HT : Hid (tt = [114, 101, 103, 32] ++ t0 ++ nm ++ [32, 91] ++ t1 ++ [58] ++ t2 ++ [93, 59, 10])) :
  Calls Tryz.prog 51 #[.agg cs] w (StrPost tt w) := by
 obtain ⟨x1, H1, l1, s1⟩ := add_to (⟨#[114, 101, 103, 32]⟩) (bs t0) [114, 101, 103, 32] t0 rfl rfl (by (try simp only [lnC, lnN] at *); omega)
 obtain ⟨x2, H2, l2, s2⟩ := add_to (bs x1) (bs nm) x1 nm rfl rfl (by (try simp only [lnC, lnN] at *); omega)
 obtain ⟨x3, H3, l3, s3⟩ := add_to (bs x2) (⟨#[32, 91]⟩) x2 [32, 91] rfl rfl (by (try simp only [lnC, lnN] at *); omega)
 obtain ⟨x4, H4, l4, s4⟩ := add_to (bs x3) (bs t1) x3 t1 rfl rfl (by (try simp only [lnC, lnN] at *); omega)
 obtain ⟨x5, H5, l5, s5⟩ := add_to (bs x4) (⟨#[58]⟩) x4 [58] rfl rfl (by (try simp only [lnC, lnN] at *); omega)
 obtain ⟨x6, H6, l6, s6⟩ := add_to (bs x5) (bs t2) x5 t2 rfl rfl (by (try simp only [lnC, lnN] at *); omega)
 obtain ⟨x7, H7, l7, s7⟩ := add_to (bs x6) (⟨#[93, 59, 10]⟩) x6 [93, 59, 10] rfl rfl (by (try simp only [lnC, lnN] at *); omega)
 have HF : Hid (x7 = tt) := by show x7 = _; rw [HT.out, H7.out, H6.out, H5.out, H4.out, H3.out, H2.out, H1.out]
 clear HT H1 l1 H2 l2 H3 l3 H4 l4 H5 l5 H6 l6 H7 l7
 have hk0 : (w.alloc (.cells cs 95)).cell? ⟨w.heap.size, 0, none⟩ = some (.int .i64 3) := by simp [f0]
 go_enter Tryz.func51, Tryz.ntmps51
 go_wp2_with fail
 generalize hW : w.alloc (.cells cs 95) = W at *
 obtain ⟨zz, bb, oo, kk⟩ := one_box hW
 have HB : Hid (Below w.heap.size w W) := by rw [← hW]; exact (Below.refl _ _).alloc (Nat.le_refl _) _
 have hlt : w.heap.size < W.heap.size := by omega
 obtain ⟨qc, _, _⟩ := bxN bb
 have g0 : W.cell? ⟨w.heap.size, 0, none⟩ = some (.int .i64 3) := (qc 0).trans f0
 have g2 : W.cell? ⟨w.heap.size, 2, none⟩ = some (.string (bs nm)) := (qc 2).trans f2
 have g4 : W.cell? ⟨w.heap.size, 4, none⟩ = some (r0) := (qc 4).trans f4
 have g5 : W.cell? ⟨w.heap.size, 5, none⟩ = some (r1) := (qc 5).trans f5
 have g6 : W.cell? ⟨w.heap.size, 6, none⟩ = some (r2) := (qc 6).trans f6
 have g7 : W.cell? ⟨w.heap.size, 7, none⟩ = some (r3) := (qc 7).trans f7
 have g8 : W.cell? ⟨w.heap.size, 8, none⟩ = some (r4) := (qc 8).trans f8
 have g9 : W.cell? ⟨w.heap.size, 9, none⟩ = some (r5) := (qc 9).trans f9
 have g10 : W.cell? ⟨w.heap.size, 10, none⟩ = some (r6) := (qc 10).trans f10
 have g11 : W.cell? ⟨w.heap.size, 11, none⟩ = some (r7) := (qc 11).trans f11
 have g12 : W.cell? ⟨w.heap.size, 12, none⟩ = some (r8) := (qc 12).trans f12
 have g13 : W.cell? ⟨w.heap.size, 13, none⟩ = some (r9) := (qc 13).trans f13
 have g14 : W.cell? ⟨w.heap.size, 14, none⟩ = some (r10) := (qc 14).trans f14
 have g15 : W.cell? ⟨w.heap.size, 15, none⟩ = some (r11) := (qc 15).trans f15
 have g16 : W.cell? ⟨w.heap.size, 16, none⟩ = some (r12) := (qc 16).trans f16
 have g17 : W.cell? ⟨w.heap.size, 17, none⟩ = some (r13) := (qc 17).trans f17
 have g18 : W.cell? ⟨w.heap.size, 18, none⟩ = some (r14) := (qc 18).trans f18
 have g19 : W.cell? ⟨w.heap.size, 19, none⟩ = some (.bool true) := (qc 19).trans f19
 have g20 : W.cell? ⟨w.heap.size, 20, none⟩ = some (.int .i64 k1) := (qc 20).trans f20
 have g21 : W.cell? ⟨w.heap.size, 21, none⟩ = some (.int .i64 a1) := (qc 21).trans f21
 have g22 : W.cell? ⟨w.heap.size, 22, none⟩ = some (.int .i64 op1) := (qc 22).trans f22
 have g23 : W.cell? ⟨w.heap.size, 23, none⟩ = some (.int .i64 wd1) := (qc 23).trans f23
 have g24 : W.cell? ⟨w.heap.size, 24, none⟩ = some (.int .u64 n1) := (qc 24).trans f24
 have g25 : W.cell? ⟨w.heap.size, 25, none⟩ = some (.string nm1) := (qc 25).trans f25
 have g26 : W.cell? ⟨w.heap.size, 26, none⟩ = some (sl1) := (qc 26).trans f26
 have g27 : W.cell? ⟨w.heap.size, 27, none⟩ = some (.int .i64 k2) := (qc 27).trans f27
 have g28 : W.cell? ⟨w.heap.size, 28, none⟩ = some (.int .i64 a2) := (qc 28).trans f28
 have g29 : W.cell? ⟨w.heap.size, 29, none⟩ = some (.int .i64 op2) := (qc 29).trans f29
 have g30 : W.cell? ⟨w.heap.size, 30, none⟩ = some (.int .i64 wd2) := (qc 30).trans f30
 have g31 : W.cell? ⟨w.heap.size, 31, none⟩ = some (.int .u64 n2) := (qc 31).trans f31
 have g32 : W.cell? ⟨w.heap.size, 32, none⟩ = some (.string nm2) := (qc 32).trans f32
 have g33 : W.cell? ⟨w.heap.size, 33, none⟩ = some (sl2) := (qc 33).trans f33
 clear hW zz bb oo kk qc hk0 f0 f2 f4 f5 f6 f7 f8 f9 f10 f11 f12 f13 f14 f15 f16 f17 f18 f19 f20 f21 f22 f23 f24 f25 f26 f27 f28 f29 f30 f31 f32 f33
 go_region_held3 (fun w' => Below W.heap.size W w' ∧ (∀ b' o, b' < W.heap.size → w'.cell? ⟨b', o, none⟩ = W.cell? ⟨b', o, none⟩))
  (first | assumption | exact sees_drew _ | (refine sees_call (by assumption) (by assumption)))
  (first | (go_at_call_of 30 r0; refine (ih0.out _ (HB.out.trans (Below.mono (And.left (by assumption)) (by exact HB.out.size)))).mono ?_; rintro e w2 ⟨rfl, hb2⟩) | (go_at_call_of 29 (Value.int IntKind.i64 a1); refine (ih1.out _ (HB.out.trans (Below.mono (And.left (by assumption)) (by exact HB.out.size)))).mono ?_; rintro e w2 ⟨rfl, hb2⟩) | (go_at_call_of 29 (Value.int IntKind.i64 a2); refine (ih2.out _ (HB.out.trans (Below.mono (And.left (by assumption)) (by exact HB.out.size)))).mono ?_; rintro e w2 ⟨rfl, hb2⟩))
 all_goals
  go_wp2_with fail
  go_ret
  exact ⟨ret_str (congrArg bs HF.out), (HB.out.trans (Below.mono (And.left (by assumption)) (by exact HB.out.size)))⟩
theorem it_clk (w : World) (cs : Array Value) (k0 a0 : Int) (lt0 : Bool) (nm0 : ByteArray) (vx0 vs0 va0 : Value) (f0 : cs[0]? = some (.int .i64 6)) (f49 : cs[49]? = some (.bool true)) (f50 : cs[50]? = some (.int .i64 k0)) (f51 : cs[51]? = some (.int .i64 a0)) (f52 : cs[52]? = some (.bool lt0)) (f53 : cs[53]? = some (.string nm0)) (f54 : cs[54]? = some (vx0)) (f55 : cs[55]? = some (vs0)) (f56 : cs[56]? = some (va0))
  (t0 : List UInt8) (z0 : t0.length ≤ 1000000000000) (ih0 : Hid (∀ w', Below w.heap.size w w' → Calls Tryz.prog 70 #[.agg #[.int .i64 k0, .int .i64 a0, .bool lt0, .string nm0, vx0, vs0, va0]] w' (StrPost t0 w')))
  (tt : List UInt8) (HT : Hid (tt = [97, 108, 119, 97, 121, 115, 32, 64, 99, 108, 107, 32] ++ t0 ++ [10])) :
  Calls Tryz.prog 51 #[.agg cs] w (StrPost tt w) := by
 obtain ⟨x1, H1, l1, s1⟩ := add_to (⟨#[97, 108, 119, 97, 121, 115, 32, 64, 99, 108, 107, 32]⟩) (bs t0) [97, 108, 119, 97, 121, 115, 32, 64, 99, 108, 107, 32] t0 rfl rfl (by (try simp only [lnC, lnN] at *); omega)
 obtain ⟨x2, H2, l2, s2⟩ := add_to (bs x1) (⟨#[10]⟩) x1 [10] rfl rfl (by (try simp only [lnC, lnN] at *); omega)
 have HF : Hid (x2 = tt) := by show x2 = _; rw [HT.out, H2.out, H1.out]
 clear HT H1 l1 H2 l2
 have hk0 : (w.alloc (.cells cs 95)).cell? ⟨w.heap.size, 0, none⟩ = some (.int .i64 6) := by simp [f0]
 go_enter Tryz.func51, Tryz.ntmps51
 go_wp2_with fail
 generalize hW : w.alloc (.cells cs 95) = W at *
 obtain ⟨zz, bb, oo, kk⟩ := one_box hW
 have HB : Hid (Below w.heap.size w W) := by rw [← hW]; exact (Below.refl _ _).alloc (Nat.le_refl _) _
 have hlt : w.heap.size < W.heap.size := by omega
 obtain ⟨qc, _, _⟩ := bxN bb
 have g0 : W.cell? ⟨w.heap.size, 0, none⟩ = some (.int .i64 6) := (qc 0).trans f0
 have g49 : W.cell? ⟨w.heap.size, 49, none⟩ = some (.bool true) := (qc 49).trans f49
 have g50 : W.cell? ⟨w.heap.size, 50, none⟩ = some (.int .i64 k0) := (qc 50).trans f50
 have g51 : W.cell? ⟨w.heap.size, 51, none⟩ = some (.int .i64 a0) := (qc 51).trans f51
 have g52 : W.cell? ⟨w.heap.size, 52, none⟩ = some (.bool lt0) := (qc 52).trans f52
 have g53 : W.cell? ⟨w.heap.size, 53, none⟩ = some (.string nm0) := (qc 53).trans f53
 have g54 : W.cell? ⟨w.heap.size, 54, none⟩ = some (vx0) := (qc 54).trans f54
 have g55 : W.cell? ⟨w.heap.size, 55, none⟩ = some (vs0) := (qc 55).trans f55
 have g56 : W.cell? ⟨w.heap.size, 56, none⟩ = some (va0) := (qc 56).trans f56
 clear hW zz bb oo kk qc hk0 f0 f49 f50 f51 f52 f53 f54 f55 f56
 go_wp2_with fail
 refine (ih0.out _ HB.out).mono ?_
 rintro e w2 ⟨rfl, hb2⟩
 have HB2 : Hid (Below w.heap.size w w2) := HB.out.trans (hb2.mono HB.out.size)
 clear hb2
 go_wp2_with fail
 go_ret
 exact ⟨ret_str (congrArg bs HF.out), HB2.out⟩
theorem it_star (w : World) (cs : Array Value) (k0 a0 : Int) (lt0 : Bool) (nm0 : ByteArray) (vx0 vs0 va0 : Value) (f0 : cs[0]? = some (.int .i64 6)) (f49 : cs[49]? = some (.bool false)) (f50 : cs[50]? = some (.int .i64 k0)) (f51 : cs[51]? = some (.int .i64 a0)) (f52 : cs[52]? = some (.bool lt0)) (f53 : cs[53]? = some (.string nm0)) (f54 : cs[54]? = some (vx0)) (f55 : cs[55]? = some (vs0)) (f56 : cs[56]? = some (va0))
  (t0 : List UInt8) (z0 : t0.length ≤ 1000000000000) (ih0 : Hid (∀ w', Below w.heap.size w w' → Calls Tryz.prog 70 #[.agg #[.int .i64 k0, .int .i64 a0, .bool lt0, .string nm0, vx0, vs0, va0]] w' (StrPost t0 w')))
  (tt : List UInt8) (HT : Hid (tt = [97, 108, 119, 97, 121, 115, 32, 64, 42, 32] ++ t0 ++ [10])) :
  Calls Tryz.prog 51 #[.agg cs] w (StrPost tt w) := by
 obtain ⟨x1, H1, l1, s1⟩ := add_to (⟨#[97, 108, 119, 97, 121, 115, 32, 64, 42, 32]⟩) (bs t0) [97, 108, 119, 97, 121, 115, 32, 64, 42, 32] t0 rfl rfl (by (try simp only [lnC, lnN] at *); omega)
 obtain ⟨x2, H2, l2, s2⟩ := add_to (bs x1) (⟨#[10]⟩) x1 [10] rfl rfl (by (try simp only [lnC, lnN] at *); omega)
 have HF : Hid (x2 = tt) := by show x2 = _; rw [HT.out, H2.out, H1.out]
 clear HT H1 l1 H2 l2
 have hk0 : (w.alloc (.cells cs 95)).cell? ⟨w.heap.size, 0, none⟩ = some (.int .i64 6) := by simp [f0]
 go_enter Tryz.func51, Tryz.ntmps51
 go_wp2_with fail
 generalize hW : w.alloc (.cells cs 95) = W at *
 obtain ⟨zz, bb, oo, kk⟩ := one_box hW
 have HB : Hid (Below w.heap.size w W) := by rw [← hW]; exact (Below.refl _ _).alloc (Nat.le_refl _) _
 have hlt : w.heap.size < W.heap.size := by omega
 obtain ⟨qc, _, _⟩ := bxN bb
 have g0 : W.cell? ⟨w.heap.size, 0, none⟩ = some (.int .i64 6) := (qc 0).trans f0
 have g49 : W.cell? ⟨w.heap.size, 49, none⟩ = some (.bool false) := (qc 49).trans f49
 have g50 : W.cell? ⟨w.heap.size, 50, none⟩ = some (.int .i64 k0) := (qc 50).trans f50
 have g51 : W.cell? ⟨w.heap.size, 51, none⟩ = some (.int .i64 a0) := (qc 51).trans f51
 have g52 : W.cell? ⟨w.heap.size, 52, none⟩ = some (.bool lt0) := (qc 52).trans f52
 have g53 : W.cell? ⟨w.heap.size, 53, none⟩ = some (.string nm0) := (qc 53).trans f53
 have g54 : W.cell? ⟨w.heap.size, 54, none⟩ = some (vx0) := (qc 54).trans f54
 have g55 : W.cell? ⟨w.heap.size, 55, none⟩ = some (vs0) := (qc 55).trans f55
 have g56 : W.cell? ⟨w.heap.size, 56, none⟩ = some (va0) := (qc 56).trans f56
 clear hW zz bb oo kk qc hk0 f0 f49 f50 f51 f52 f53 f54 f55 f56
 go_wp2_with fail
 refine (ih0.out _ HB.out).mono ?_
 rintro e w2 ⟨rfl, hb2⟩
 have HB2 : Hid (Below w.heap.size w w2) := HB.out.trans (hb2.mono HB.out.size)
 clear hb2
 go_wp2_with fail
 go_ret
 exact ⟨ret_str (congrArg bs HF.out), HB2.out⟩
theorem it_use0 (w : World) (cs : Array Value) (nm : List UInt8) (zn : nm.length ≤ 1000000000000) (md : List UInt8) (zm : md.length ≤ 1000000000000) (qa : Option Addr) (ql qd : Nat) (f0 : cs[0]? = some (.int .i64 7)) (f2 : cs[2]? = some (.string (bs nm))) (f3 : cs[3]? = some (.string (bs md))) (f57 : cs[57]? = some (.slice none 0 0)) (f58 : cs[58]? = some (.slice qa ql qd))
  (t0 : List UInt8) (z0 : t0.length ≤ 1000000000000) (ih0 : Hid (∀ w', Below w.heap.size w w' → Calls Tryz.prog 71 #[.slice qa ql qd] w' (StrPost t0 w')))
  (tt : List UInt8) (HT : Hid (tt = md ++ [32] ++ nm ++ [32] ++ t0 ++ [59, 10])) :
  Calls Tryz.prog 51 #[.agg cs] w (StrPost tt w) := by
 obtain ⟨x1, H1, l1, s1⟩ := add_to (bs md) (⟨#[32]⟩) md [32] rfl rfl (by (try simp only [lnC, lnN] at *); omega)
 obtain ⟨x2, H2, l2, s2⟩ := add_to (bs x1) (bs nm) x1 nm rfl rfl (by (try simp only [lnC, lnN] at *); omega)
 obtain ⟨x3, H3, l3, s3⟩ := add_to (bs x2) (⟨#[32]⟩) x2 [32] rfl rfl (by (try simp only [lnC, lnN] at *); omega)
 obtain ⟨x4, H4, l4, s4⟩ := add_to (bs x3) (bs t0) x3 t0 rfl rfl (by (try simp only [lnC, lnN] at *); omega)
 obtain ⟨x5, H5, l5, s5⟩ := add_to (bs x4) (⟨#[59, 10]⟩) x4 [59, 10] rfl rfl (by (try simp only [lnC, lnN] at *); omega)
 have HF : Hid (x5 = tt) := by show x5 = _; rw [HT.out, H5.out, H4.out, H3.out, H2.out, H1.out]
 clear HT H1 l1 H2 l2 H3 l3 H4 l4 H5 l5
 have hk0 : (w.alloc (.cells cs 95)).cell? ⟨w.heap.size, 0, none⟩ = some (.int .i64 7) := by simp [f0]
 go_enter Tryz.func51, Tryz.ntmps51
 go_wp2_with fail
 generalize hW : w.alloc (.cells cs 95) = W at *
 obtain ⟨zz, bb, oo, kk⟩ := one_box hW
 have HB : Hid (Below w.heap.size w W) := by rw [← hW]; exact (Below.refl _ _).alloc (Nat.le_refl _) _
 have hlt : w.heap.size < W.heap.size := by omega
 obtain ⟨qc, _, _⟩ := bxN bb
 have g0 : W.cell? ⟨w.heap.size, 0, none⟩ = some (.int .i64 7) := (qc 0).trans f0
 have g2 : W.cell? ⟨w.heap.size, 2, none⟩ = some (.string (bs nm)) := (qc 2).trans f2
 have g3 : W.cell? ⟨w.heap.size, 3, none⟩ = some (.string (bs md)) := (qc 3).trans f3
 have g57 : W.cell? ⟨w.heap.size, 57, none⟩ = some (.slice none 0 0) := (qc 57).trans f57
 have g58 : W.cell? ⟨w.heap.size, 58, none⟩ = some (.slice qa ql qd) := (qc 58).trans f58
 clear hW zz bb oo kk qc hk0 f0 f2 f3 f57 f58
 go_region_held3 (fun w' => Below W.heap.size W w' ∧ (∀ b' o, b' < W.heap.size → w'.cell? ⟨b', o, none⟩ = W.cell? ⟨b', o, none⟩))
  (first | assumption | exact sees_drew _ | (refine sees_call (by assumption) (by assumption)))
  (first | (go_at_call_of 71 qa; refine (ih0.out _ (HB.out.trans (Below.mono (And.left (by assumption)) (by exact HB.out.size)))).mono ?_; rintro e w2 ⟨rfl, hb2⟩))
 all_goals
  go_wp2_with fail
  go_ret
  exact ⟨ret_str (congrArg bs HF.out), (HB.out.trans (Below.mono (And.left (by assumption)) (by exact HB.out.size)))⟩
theorem it_use1 (w : World) (cs : Array Value) (nm : List UInt8) (zn : nm.length ≤ 1000000000000) (md : List UInt8) (zm : md.length ≤ 1000000000000) (pa : Option Addr) (pl pc : Nat) (hpl : (0 : Int) < (pl : Int)) (qa : Option Addr) (ql qd : Nat) (f0 : cs[0]? = some (.int .i64 7)) (f2 : cs[2]? = some (.string (bs nm))) (f3 : cs[3]? = some (.string (bs md))) (f57 : cs[57]? = some (.slice pa pl pc)) (f58 : cs[58]? = some (.slice qa ql qd))
  (t1 : List UInt8) (z1 : t1.length ≤ 1000000000000) (ih1 : Hid (∀ w', Below w.heap.size w w' → Calls Tryz.prog 71 #[.slice pa pl pc] w' (StrPost t1 w')))
  (t0 : List UInt8) (z0 : t0.length ≤ 1000000000000) (ih0 : Hid (∀ w', Below w.heap.size w w' → Calls Tryz.prog 71 #[.slice qa ql qd] w' (StrPost t0 w')))
  (tt : List UInt8) (HT : Hid (tt = md ++ [32] ++ [35] ++ t1 ++ [32] ++ nm ++ [32] ++ t0 ++ [59, 10])) :
  Calls Tryz.prog 51 #[.agg cs] w (StrPost tt w) := by
 obtain ⟨x1, H1, l1, s1⟩ := add_to (bs md) (⟨#[32]⟩) md [32] rfl rfl (by (try simp only [lnC, lnN] at *); omega)
 obtain ⟨x2, H2, l2, s2⟩ := add_to (bs x1) (⟨#[35]⟩) x1 [35] rfl rfl (by (try simp only [lnC, lnN] at *); omega)
 obtain ⟨x3, H3, l3, s3⟩ := add_to (bs x2) (bs t1) x2 t1 rfl rfl (by (try simp only [lnC, lnN] at *); omega)
 obtain ⟨x4, H4, l4, s4⟩ := add_to (bs x3) (⟨#[32]⟩) x3 [32] rfl rfl (by (try simp only [lnC, lnN] at *); omega)
 obtain ⟨x5, H5, l5, s5⟩ := add_to (bs x4) (bs nm) x4 nm rfl rfl (by (try simp only [lnC, lnN] at *); omega)
 obtain ⟨x6, H6, l6, s6⟩ := add_to (bs x5) (⟨#[32]⟩) x5 [32] rfl rfl (by (try simp only [lnC, lnN] at *); omega)
 obtain ⟨x7, H7, l7, s7⟩ := add_to (bs x6) (bs t0) x6 t0 rfl rfl (by (try simp only [lnC, lnN] at *); omega)
 obtain ⟨x8, H8, l8, s8⟩ := add_to (bs x7) (⟨#[59, 10]⟩) x7 [59, 10] rfl rfl (by (try simp only [lnC, lnN] at *); omega)
 have HF : Hid (x8 = tt) := by show x8 = _; rw [HT.out, H8.out, H7.out, H6.out, H5.out, H4.out, H3.out, H2.out, H1.out]
 clear HT H1 l1 H2 l2 H3 l3 H4 l4 H5 l5 H6 l6 H7 l7 H8 l8
 have hk0 : (w.alloc (.cells cs 95)).cell? ⟨w.heap.size, 0, none⟩ = some (.int .i64 7) := by simp [f0]
 go_enter Tryz.func51, Tryz.ntmps51
 go_wp2_with fail
 generalize hW : w.alloc (.cells cs 95) = W at *
 obtain ⟨zz, bb, oo, kk⟩ := one_box hW
 have HB : Hid (Below w.heap.size w W) := by rw [← hW]; exact (Below.refl _ _).alloc (Nat.le_refl _) _
 have hlt : w.heap.size < W.heap.size := by omega
 obtain ⟨qc, _, _⟩ := bxN bb
 have g0 : W.cell? ⟨w.heap.size, 0, none⟩ = some (.int .i64 7) := (qc 0).trans f0
 have g2 : W.cell? ⟨w.heap.size, 2, none⟩ = some (.string (bs nm)) := (qc 2).trans f2
 have g3 : W.cell? ⟨w.heap.size, 3, none⟩ = some (.string (bs md)) := (qc 3).trans f3
 have g57 : W.cell? ⟨w.heap.size, 57, none⟩ = some (.slice pa pl pc) := (qc 57).trans f57
 have g58 : W.cell? ⟨w.heap.size, 58, none⟩ = some (.slice qa ql qd) := (qc 58).trans f58
 clear hW zz bb oo kk qc hk0 f0 f2 f3 f57 f58
 go_wp2_with fail
 refine (ih1.out _ HB.out).mono ?_
 rintro e v1 ⟨rfl, hb2⟩
 have HB1 : Hid (Below w.heap.size w v1) := HB.out.trans (hb2.mono HB.out.size)
 replace g0 := (hb2.cell (p := ⟨w.heap.size, 0, none⟩) hlt).trans g0
 replace g2 := (hb2.cell (p := ⟨w.heap.size, 2, none⟩) hlt).trans g2
 replace g3 := (hb2.cell (p := ⟨w.heap.size, 3, none⟩) hlt).trans g3
 replace g57 := (hb2.cell (p := ⟨w.heap.size, 57, none⟩) hlt).trans g57
 replace g58 := (hb2.cell (p := ⟨w.heap.size, 58, none⟩) hlt).trans g58
 have hlt : w.heap.size < v1.heap.size := Nat.lt_of_lt_of_le hlt hb2.size
 clear hb2
 go_wp2_with fail
 go_region_held3 (fun w' => Below v1.heap.size v1 w' ∧ (∀ b' o, b' < v1.heap.size → w'.cell? ⟨b', o, none⟩ = v1.cell? ⟨b', o, none⟩))
  (first | assumption | exact sees_drew _ | (refine sees_call (by assumption) (by assumption)))
  (first | (go_at_call_of 71 qa; refine (ih0.out _ (HB1.out.trans (Below.mono (And.left (by assumption)) (by exact HB1.out.size)))).mono ?_; rintro e w2 ⟨rfl, hb2⟩))
 all_goals
  go_wp2_with fail
  go_ret
  exact ⟨ret_str (congrArg bs HF.out), (HB1.out.trans (Below.mono (And.left (by assumption)) (by exact HB1.out.size)))⟩
theorem it_for (w : World) (cs : Array Value) (nm : List UInt8) (lb : List UInt8) (zl : lb.length ≤ 1000000000000) (xa : Option Addr) (xl xc : Nat) (ia : Option Addr) (il ic : Nat) (f0 : cs[0]? = some (.int .i64 8)) (f2 : cs[2]? = some (.string (bs nm))) (f59 : cs[59]? = some (.slice xa xl xc)) (f60 : cs[60]? = some (.string (bs lb))) (f61 : cs[61]? = some (.slice ia il ic))
  (t0 : List UInt8) (z0 : t0.length ≤ 1000000000000) (ih0 : Hid (∀ w', Below w.heap.size w w' → Calls Tryz.prog 72 #[.string (bs nm), .slice xa xl xc] w' (StrPost t0 w')))
  (t1 : List UInt8) (z1 : t1.length ≤ 1000000000000) (ih1 : Hid (∀ w', Below w.heap.size w w' → Calls Tryz.prog 31 #[.slice ia il ic] w' (StrPost t1 w')))
  (tt : List UInt8) (HT : Hid (tt = t0 ++ [98, 101, 103, 105, 110, 32, 58, 32] ++ lb ++ [10] ++ t1 ++ [101, 110, 100, 10])) :
  Calls Tryz.prog 51 #[.agg cs] w (StrPost tt w) := by
 obtain ⟨x1, H1, l1, s1⟩ := add_to (bs t0) (⟨#[98, 101, 103, 105, 110, 32, 58, 32]⟩) t0 [98, 101, 103, 105, 110, 32, 58, 32] rfl rfl (by (try simp only [lnC, lnN] at *); omega)
 obtain ⟨x2, H2, l2, s2⟩ := add_to (bs x1) (bs lb) x1 lb rfl rfl (by (try simp only [lnC, lnN] at *); omega)
 obtain ⟨x3, H3, l3, s3⟩ := add_to (bs x2) (⟨#[10]⟩) x2 [10] rfl rfl (by (try simp only [lnC, lnN] at *); omega)
 obtain ⟨x4, H4, l4, s4⟩ := add_to (bs x3) (bs t1) x3 t1 rfl rfl (by (try simp only [lnC, lnN] at *); omega)
 obtain ⟨x5, H5, l5, s5⟩ := add_to (bs x4) (⟨#[101, 110, 100, 10]⟩) x4 [101, 110, 100, 10] rfl rfl (by (try simp only [lnC, lnN] at *); omega)
 have HF : Hid (x5 = tt) := by show x5 = _; rw [HT.out, H5.out, H4.out, H3.out, H2.out, H1.out]
 clear HT H1 l1 H2 l2 H3 l3 H4 l4 H5 l5
 have hk0 : (w.alloc (.cells cs 95)).cell? ⟨w.heap.size, 0, none⟩ = some (.int .i64 8) := by simp [f0]
 go_enter Tryz.func51, Tryz.ntmps51
 go_wp2_with fail
 generalize hW : w.alloc (.cells cs 95) = W at *
 obtain ⟨zz, bb, oo, kk⟩ := one_box hW
 have HB : Hid (Below w.heap.size w W) := by rw [← hW]; exact (Below.refl _ _).alloc (Nat.le_refl _) _
 have hlt : w.heap.size < W.heap.size := by omega
 obtain ⟨qc, _, _⟩ := bxN bb
 have g0 : W.cell? ⟨w.heap.size, 0, none⟩ = some (.int .i64 8) := (qc 0).trans f0
 have g2 : W.cell? ⟨w.heap.size, 2, none⟩ = some (.string (bs nm)) := (qc 2).trans f2
 have g59 : W.cell? ⟨w.heap.size, 59, none⟩ = some (.slice xa xl xc) := (qc 59).trans f59
 have g60 : W.cell? ⟨w.heap.size, 60, none⟩ = some (.string (bs lb)) := (qc 60).trans f60
 have g61 : W.cell? ⟨w.heap.size, 61, none⟩ = some (.slice ia il ic) := (qc 61).trans f61
 clear hW zz bb oo kk qc hk0 f0 f2 f59 f60 f61
 go_region_held3 (fun w' => Below W.heap.size W w' ∧ (∀ b' o, b' < W.heap.size → w'.cell? ⟨b', o, none⟩ = W.cell? ⟨b', o, none⟩))
  (first | assumption | exact sees_drew _ | (refine sees_call (by assumption) (by assumption)))
  (first | (go_at_call_of 72 xa; refine (ih0.out _ (HB.out.trans (Below.mono (And.left (by assumption)) (by exact HB.out.size)))).mono ?_; rintro e w2 ⟨rfl, hb2⟩) | (go_at_call_of 31 ia; refine (ih1.out _ (HB.out.trans (Below.mono (And.left (by assumption)) (by exact HB.out.size)))).mono ?_; rintro e w2 ⟨rfl, hb2⟩))
 all_goals
  go_wp2_with fail
  go_ret
  exact ⟨ret_str (congrArg bs HF.out), (HB.out.trans (Below.mono (And.left (by assumption)) (by exact HB.out.size)))⟩
theorem it_if1 (w : World) (cs : Array Value) (lb : List UInt8) (zl : lb.length ≤ 1000000000000) (k0 a0 op0 wd0 n0 : Int) (nm0 : ByteArray) (sl0 : Value) (ia : Option Addr) (il ic : Nat) (f0 : cs[0]? = some (.int .i64 9)) (f60 : cs[60]? = some (.string (bs lb))) (f61 : cs[61]? = some (.slice ia il ic)) (f62 : cs[62]? = some (.bool false)) (f35 : cs[35]? = some (.int .i64 k0)) (f36 : cs[36]? = some (.int .i64 a0)) (f37 : cs[37]? = some (.int .i64 op0)) (f38 : cs[38]? = some (.int .i64 wd0)) (f39 : cs[39]? = some (.int .u64 n0)) (f40 : cs[40]? = some (.string nm0)) (f41 : cs[41]? = some (sl0))
  (t0 : List UInt8) (z0 : t0.length ≤ 1000000000000) (ih0 : Hid (∀ w', Below w.heap.size w w' → Calls Tryz.prog 29 #[.agg #[.int .i64 k0, .int .i64 a0, .int .i64 op0, .int .i64 wd0, .int .u64 n0, .string nm0, sl0]] w' (StrPost t0 w')))
  (t1 : List UInt8) (z1 : t1.length ≤ 1000000000000) (ih1 : Hid (∀ w', Below w.heap.size w w' → Calls Tryz.prog 31 #[.slice ia il ic] w' (StrPost t1 w')))
  (tt : List UInt8) (HT : Hid (tt = [105, 102, 32, 40] ++ t0 ++ [41, 32, 98, 101, 103, 105, 110, 32, 58, 32] ++ lb ++ [10] ++ t1 ++ [101, 110, 100] ++ [10])) :
  Calls Tryz.prog 51 #[.agg cs] w (StrPost tt w) := by
 obtain ⟨x1, H1, l1, s1⟩ := add_to (⟨#[105, 102, 32, 40]⟩) (bs t0) [105, 102, 32, 40] t0 rfl rfl (by (try simp only [lnC, lnN] at *); omega)
 obtain ⟨x2, H2, l2, s2⟩ := add_to (bs x1) (⟨#[41, 32, 98, 101, 103, 105, 110, 32, 58, 32]⟩) x1 [41, 32, 98, 101, 103, 105, 110, 32, 58, 32] rfl rfl (by (try simp only [lnC, lnN] at *); omega)
 obtain ⟨x3, H3, l3, s3⟩ := add_to (bs x2) (bs lb) x2 lb rfl rfl (by (try simp only [lnC, lnN] at *); omega)
 obtain ⟨x4, H4, l4, s4⟩ := add_to (bs x3) (⟨#[10]⟩) x3 [10] rfl rfl (by (try simp only [lnC, lnN] at *); omega)
 obtain ⟨x5, H5, l5, s5⟩ := add_to (bs x4) (bs t1) x4 t1 rfl rfl (by (try simp only [lnC, lnN] at *); omega)
 obtain ⟨x6, H6, l6, s6⟩ := add_to (bs x5) (⟨#[101, 110, 100]⟩) x5 [101, 110, 100] rfl rfl (by (try simp only [lnC, lnN] at *); omega)
 obtain ⟨x7, H7, l7, s7⟩ := add_to (bs x6) (⟨#[10]⟩) x6 [10] rfl rfl (by (try simp only [lnC, lnN] at *); omega)
 have HF : Hid (x7 = tt) := by show x7 = _; rw [HT.out, H7.out, H6.out, H5.out, H4.out, H3.out, H2.out, H1.out]
 clear HT H1 l1 H2 l2 H3 l3 H4 l4 H5 l5 H6 l6 H7 l7
 have hk0 : (w.alloc (.cells cs 95)).cell? ⟨w.heap.size, 0, none⟩ = some (.int .i64 9) := by simp [f0]
 go_enter Tryz.func51, Tryz.ntmps51
 go_wp2_with fail
 generalize hW : w.alloc (.cells cs 95) = W at *
 obtain ⟨zz, bb, oo, kk⟩ := one_box hW
 have HB : Hid (Below w.heap.size w W) := by rw [← hW]; exact (Below.refl _ _).alloc (Nat.le_refl _) _
 have hlt : w.heap.size < W.heap.size := by omega
 obtain ⟨qc, _, _⟩ := bxN bb
 have g0 : W.cell? ⟨w.heap.size, 0, none⟩ = some (.int .i64 9) := (qc 0).trans f0
 have g60 : W.cell? ⟨w.heap.size, 60, none⟩ = some (.string (bs lb)) := (qc 60).trans f60
 have g61 : W.cell? ⟨w.heap.size, 61, none⟩ = some (.slice ia il ic) := (qc 61).trans f61
 have g62 : W.cell? ⟨w.heap.size, 62, none⟩ = some (.bool false) := (qc 62).trans f62
 have g35 : W.cell? ⟨w.heap.size, 35, none⟩ = some (.int .i64 k0) := (qc 35).trans f35
 have g36 : W.cell? ⟨w.heap.size, 36, none⟩ = some (.int .i64 a0) := (qc 36).trans f36
 have g37 : W.cell? ⟨w.heap.size, 37, none⟩ = some (.int .i64 op0) := (qc 37).trans f37
 have g38 : W.cell? ⟨w.heap.size, 38, none⟩ = some (.int .i64 wd0) := (qc 38).trans f38
 have g39 : W.cell? ⟨w.heap.size, 39, none⟩ = some (.int .u64 n0) := (qc 39).trans f39
 have g40 : W.cell? ⟨w.heap.size, 40, none⟩ = some (.string nm0) := (qc 40).trans f40
 have g41 : W.cell? ⟨w.heap.size, 41, none⟩ = some (sl0) := (qc 41).trans f41
 clear hW zz bb oo kk qc hk0 f0 f60 f61 f62 f35 f36 f37 f38 f39 f40 f41
 go_region_held3 (fun w' => Below W.heap.size W w' ∧ (∀ b' o, b' < W.heap.size → w'.cell? ⟨b', o, none⟩ = W.cell? ⟨b', o, none⟩))
  (first | assumption | exact sees_drew _ | (refine sees_call (by assumption) (by assumption)))
  (first | (go_at_call_of 29 (Value.int IntKind.i64 a0); refine (ih0.out _ (HB.out.trans (Below.mono (And.left (by assumption)) (by exact HB.out.size)))).mono ?_; rintro e w2 ⟨rfl, hb2⟩) | (go_at_call_of 31 ia; refine (ih1.out _ (HB.out.trans (Below.mono (And.left (by assumption)) (by exact HB.out.size)))).mono ?_; rintro e w2 ⟨rfl, hb2⟩))
 all_goals
  go_wp2_with fail
  go_ret
  exact ⟨ret_str (congrArg bs HF.out), (HB.out.trans (Below.mono (And.left (by assumption)) (by exact HB.out.size)))⟩
theorem it_if2 (w : World) (cs : Array Value) (lb : List UInt8) (zl : lb.length ≤ 1000000000000) (le : List UInt8) (ze : le.length ≤ 1000000000000) (k0 a0 op0 wd0 n0 : Int) (nm0 : ByteArray) (sl0 : Value) (ia : Option Addr) (il ic : Nat) (ea : Option Addr) (el ec : Nat) (f0 : cs[0]? = some (.int .i64 9)) (f60 : cs[60]? = some (.string (bs lb))) (f61 : cs[61]? = some (.slice ia il ic)) (f62 : cs[62]? = some (.bool true)) (f63 : cs[63]? = some (.string (bs le))) (f64 : cs[64]? = some (.slice ea el ec)) (f35 : cs[35]? = some (.int .i64 k0)) (f36 : cs[36]? = some (.int .i64 a0)) (f37 : cs[37]? = some (.int .i64 op0)) (f38 : cs[38]? = some (.int .i64 wd0)) (f39 : cs[39]? = some (.int .u64 n0)) (f40 : cs[40]? = some (.string nm0)) (f41 : cs[41]? = some (sl0))
  (t0 : List UInt8) (z0 : t0.length ≤ 1000000000000) (ih0 : Hid (∀ w', Below w.heap.size w w' → Calls Tryz.prog 29 #[.agg #[.int .i64 k0, .int .i64 a0, .int .i64 op0, .int .i64 wd0, .int .u64 n0, .string nm0, sl0]] w' (StrPost t0 w')))
  (t1 : List UInt8) (z1 : t1.length ≤ 1000000000000) (ih1 : Hid (∀ w', Below w.heap.size w w' → Calls Tryz.prog 31 #[.slice ia il ic] w' (StrPost t1 w')))
  (t2 : List UInt8) (z2 : t2.length ≤ 1000000000000) (ih2 : Hid (∀ w', Below w.heap.size w w' → Calls Tryz.prog 31 #[.slice ea el ec] w' (StrPost t2 w')))
  (tt : List UInt8) (HT : Hid (tt = [105, 102, 32, 40] ++ t0 ++ [41, 32, 98, 101, 103, 105, 110, 32, 58, 32] ++ lb ++ [10] ++ t1 ++ [101, 110, 100] ++ [32, 101, 108, 115, 101, 32, 98, 101, 103, 105, 110, 32, 58, 32] ++ le ++ [10] ++ t2 ++ [101, 110, 100] ++ [10])) :
  Calls Tryz.prog 51 #[.agg cs] w (StrPost tt w) := by
 obtain ⟨x1, H1, l1, s1⟩ := add_to (⟨#[105, 102, 32, 40]⟩) (bs t0) [105, 102, 32, 40] t0 rfl rfl (by (try simp only [lnC, lnN] at *); omega)
 obtain ⟨x2, H2, l2, s2⟩ := add_to (bs x1) (⟨#[41, 32, 98, 101, 103, 105, 110, 32, 58, 32]⟩) x1 [41, 32, 98, 101, 103, 105, 110, 32, 58, 32] rfl rfl (by (try simp only [lnC, lnN] at *); omega)
 obtain ⟨x3, H3, l3, s3⟩ := add_to (bs x2) (bs lb) x2 lb rfl rfl (by (try simp only [lnC, lnN] at *); omega)
 obtain ⟨x4, H4, l4, s4⟩ := add_to (bs x3) (⟨#[10]⟩) x3 [10] rfl rfl (by (try simp only [lnC, lnN] at *); omega)
 obtain ⟨x5, H5, l5, s5⟩ := add_to (bs x4) (bs t1) x4 t1 rfl rfl (by (try simp only [lnC, lnN] at *); omega)
 obtain ⟨x6, H6, l6, s6⟩ := add_to (bs x5) (⟨#[101, 110, 100]⟩) x5 [101, 110, 100] rfl rfl (by (try simp only [lnC, lnN] at *); omega)
 obtain ⟨x7, H7, l7, s7⟩ := add_to (bs x6) (⟨#[32, 101, 108, 115, 101, 32, 98, 101, 103, 105, 110, 32, 58, 32]⟩) x6 [32, 101, 108, 115, 101, 32, 98, 101, 103, 105, 110, 32, 58, 32] rfl rfl (by (try simp only [lnC, lnN] at *); omega)
 obtain ⟨x8, H8, l8, s8⟩ := add_to (bs x7) (bs le) x7 le rfl rfl (by (try simp only [lnC, lnN] at *); omega)
 obtain ⟨x9, H9, l9, s9⟩ := add_to (bs x8) (⟨#[10]⟩) x8 [10] rfl rfl (by (try simp only [lnC, lnN] at *); omega)
 obtain ⟨x10, H10, l10, s10⟩ := add_to (bs x9) (bs t2) x9 t2 rfl rfl (by (try simp only [lnC, lnN] at *); omega)
 obtain ⟨x11, H11, l11, s11⟩ := add_to (bs x10) (⟨#[101, 110, 100]⟩) x10 [101, 110, 100] rfl rfl (by (try simp only [lnC, lnN] at *); omega)
 obtain ⟨x12, H12, l12, s12⟩ := add_to (bs x11) (⟨#[10]⟩) x11 [10] rfl rfl (by (try simp only [lnC, lnN] at *); omega)
 have HF : Hid (x12 = tt) := by show x12 = _; rw [HT.out, H12.out, H11.out, H10.out, H9.out, H8.out, H7.out, H6.out, H5.out, H4.out, H3.out, H2.out, H1.out]
 clear HT H1 l1 H2 l2 H3 l3 H4 l4 H5 l5 H6 l6 H7 l7 H8 l8 H9 l9 H10 l10 H11 l11 H12 l12
 have hk0 : (w.alloc (.cells cs 95)).cell? ⟨w.heap.size, 0, none⟩ = some (.int .i64 9) := by simp [f0]
 go_enter Tryz.func51, Tryz.ntmps51
 go_wp2_with fail
 generalize hW : w.alloc (.cells cs 95) = W at *
 obtain ⟨zz, bb, oo, kk⟩ := one_box hW
 have HB : Hid (Below w.heap.size w W) := by rw [← hW]; exact (Below.refl _ _).alloc (Nat.le_refl _) _
 have hlt : w.heap.size < W.heap.size := by omega
 obtain ⟨qc, _, _⟩ := bxN bb
 have g0 : W.cell? ⟨w.heap.size, 0, none⟩ = some (.int .i64 9) := (qc 0).trans f0
 have g60 : W.cell? ⟨w.heap.size, 60, none⟩ = some (.string (bs lb)) := (qc 60).trans f60
 have g61 : W.cell? ⟨w.heap.size, 61, none⟩ = some (.slice ia il ic) := (qc 61).trans f61
 have g62 : W.cell? ⟨w.heap.size, 62, none⟩ = some (.bool true) := (qc 62).trans f62
 have g63 : W.cell? ⟨w.heap.size, 63, none⟩ = some (.string (bs le)) := (qc 63).trans f63
 have g64 : W.cell? ⟨w.heap.size, 64, none⟩ = some (.slice ea el ec) := (qc 64).trans f64
 have g35 : W.cell? ⟨w.heap.size, 35, none⟩ = some (.int .i64 k0) := (qc 35).trans f35
 have g36 : W.cell? ⟨w.heap.size, 36, none⟩ = some (.int .i64 a0) := (qc 36).trans f36
 have g37 : W.cell? ⟨w.heap.size, 37, none⟩ = some (.int .i64 op0) := (qc 37).trans f37
 have g38 : W.cell? ⟨w.heap.size, 38, none⟩ = some (.int .i64 wd0) := (qc 38).trans f38
 have g39 : W.cell? ⟨w.heap.size, 39, none⟩ = some (.int .u64 n0) := (qc 39).trans f39
 have g40 : W.cell? ⟨w.heap.size, 40, none⟩ = some (.string nm0) := (qc 40).trans f40
 have g41 : W.cell? ⟨w.heap.size, 41, none⟩ = some (sl0) := (qc 41).trans f41
 clear hW zz bb oo kk qc hk0 f0 f60 f61 f62 f63 f64 f35 f36 f37 f38 f39 f40 f41
 go_region_held3 (fun w' => Below W.heap.size W w' ∧ (∀ b' o, b' < W.heap.size → w'.cell? ⟨b', o, none⟩ = W.cell? ⟨b', o, none⟩))
  (first | assumption | exact sees_drew _ | (refine sees_call (by assumption) (by assumption)))
  (first | (go_at_call_of 29 (Value.int IntKind.i64 a0); refine (ih0.out _ (HB.out.trans (Below.mono (And.left (by assumption)) (by exact HB.out.size)))).mono ?_; rintro e w2 ⟨rfl, hb2⟩) | (go_at_call_of 31 ia; refine (ih1.out _ (HB.out.trans (Below.mono (And.left (by assumption)) (by exact HB.out.size)))).mono ?_; rintro e w2 ⟨rfl, hb2⟩))
 all_goals
  go_wp2_with fail
  go_region_held3 (fun w' => Below W.heap.size W w' ∧ (∀ b' o, b' < W.heap.size → w'.cell? ⟨b', o, none⟩ = W.cell? ⟨b', o, none⟩))
   (first | assumption | exact sees_drew2 (by assumption) | exact sees_drew _ | (refine sees_call (by assumption) (by assumption)))
   (first | (go_at_call_of 31 ea; refine (ih2.out _ (HB.out.trans (Below.mono (And.left (by assumption)) (by exact HB.out.size)))).mono ?_; rintro e w2 ⟨rfl, hb2⟩))
  all_goals
   go_wp2_with fail
   go_ret
   exact ⟨ret_str (congrArg bs HF.out), (HB.out.trans (Below.mono (And.left (by assumption)) (by exact HB.out.size)))⟩
end Go.Proofs.YtimmmlnememjiaaGreatDoor
