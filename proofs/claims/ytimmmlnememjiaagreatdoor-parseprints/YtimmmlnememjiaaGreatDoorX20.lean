import Derived.Test.YtimmmlnememjiaaGreatDoorX
import Derived.Test.YtimmmlnememjiaaGreatDoorX16
import Derived.Test.YtimmmlnememjiaaGreatDoorX19
set_option maxRecDepth 100000
set_option maxHeartbeats 16000000
namespace Go.Proofs.YtimmmlnememjiaaGreatDoor
open Go.RowKit
theorem sees_drew2 {W w' : World} (h : Sees W w') : Sees W w'.drew := ⟨h.1.drew, fun b o hb => (h.1.drew).cell (p := ⟨b, o, none⟩) hb⟩
theorem it_wire (w : World) (cs : Array Value) (nm : List UInt8) (zn : nm.length ≤ 1000000000000) (r0 r1 r2 r3 r4 r5 r6 r7 r8 r9 r10 r11 r12 r13 r14 : Value) (f0 : cs[0]? = some (.int .i64 1)) (f2 : cs[2]? = some (.string (bs nm))) (f4 : cs[4]? = some (r0)) (f5 : cs[5]? = some (r1)) (f6 : cs[6]? = some (r2)) (f7 : cs[7]? = some (r3)) (f8 : cs[8]? = some (r4)) (f9 : cs[9]? = some (r5)) (f10 : cs[10]? = some (r6)) (f11 : cs[11]? = some (r7)) (f12 : cs[12]? = some (r8)) (f13 : cs[13]? = some (r9)) (f14 : cs[14]? = some (r10)) (f15 : cs[15]? = some (r11)) (f16 : cs[16]? = some (r12)) (f17 : cs[17]? = some (r13)) (f18 : cs[18]? = some (r14))
  (t0 : List UInt8) (z0 : t0.length ≤ 1000000000000) (ih0 : Hid (∀ w', Below w.heap.size w w' → Calls Tryz.prog 30 #[.agg #[r0, r1, r2, r3, r4, r5, r6, r7, r8, r9, r10, r11, r12, r13, r14]] w' (StrPost t0 w')))
  (tt : List UInt8) (HT : Hid (tt = [119, 105, 114, 101, 32] ++ t0 ++ nm ++ [59, 10])) :
  Calls Tryz.prog 51 #[.agg cs] w (StrPost tt w) := by
 obtain ⟨x1, H1, l1, s1⟩ := add_to (⟨#[119, 105, 114, 101, 32]⟩) (bs t0) [119, 105, 114, 101, 32] t0 rfl rfl (by (try simp only [lnC, lnN] at *); omega)
 obtain ⟨x2, H2, l2, s2⟩ := add_to (bs x1) (bs nm) x1 nm rfl rfl (by (try simp only [lnC, lnN] at *); omega)
 obtain ⟨x3, H3, l3, s3⟩ := add_to (bs x2) (⟨#[59, 10]⟩) x2 [59, 10] rfl rfl (by (try simp only [lnC, lnN] at *); omega)
 have HF : Hid (x3 = tt) := by show x3 = _; rw [HT.out, H3.out, H2.out, H1.out]
 clear HT H1 l1 H2 l2 H3 l3
 have hk0 : (w.alloc (.cells cs 95)).cell? ⟨w.heap.size, 0, none⟩ = some (.int .i64 1) := by simp [f0]
 go_enter Tryz.func51, Tryz.ntmps51
 go_wp2_with fail
 generalize hW : w.alloc (.cells cs 95) = W at *
 obtain ⟨zz, bb, oo, kk⟩ := one_box hW
 have HB : Hid (Below w.heap.size w W) := by rw [← hW]; exact (Below.refl _ _).alloc (Nat.le_refl _) _
 have hlt : w.heap.size < W.heap.size := by omega
 obtain ⟨qc, _, _⟩ := bxN bb
 have g0 : W.cell? ⟨w.heap.size, 0, none⟩ = some (.int .i64 1) := (qc 0).trans f0
 have g2 : W.cell? ⟨w.heap.size, 2, none⟩ = some (.string (bs nm)) := (qc 2).trans f2
 have g4 : W.cell? ⟨w.heap.size, 4, none⟩ = some (r0) := (qc 4).trans f4
 have g5 : W.cell? ⟨w.heap.size, 5, none⟩ = some (r1) := (qc 5).trans f5
 have g6 : W.cell? ⟨w.heap.size, 6, none⟩ = some (r2) := (qc 6).trans f6
 have g7 : W.cell? ⟨w.heap.size, 7, none⟩ = some (r3) := (qc 7).trans f7
 have g8 : W.cell? ⟨w.heap.size, 8, none⟩ = some (r4) := (qc 8).trans f8
 have g9 : W.cell? ⟨w.heap.size, 9, none⟩ = some (r5) := (qc 9).trans f9
 have g10 : W.cell? ⟨w.heap.size, 10, none⟩ = some (r6) := (qc 10).trans f10
 have g11 : W.cell? ⟨w.heap.size, 11, none⟩ = some (r7) := (qc 11).trans f11
 have g12 : W.cell? ⟨w.heap.size, 12, none⟩ = some (r8) := (qc 12).trans f12
 have g13 : W.cell? ⟨w.heap.size, 13, none⟩ = some (r9) := (qc 13).trans f13
 have g14 : W.cell? ⟨w.heap.size, 14, none⟩ = some (r10) := (qc 14).trans f14
 have g15 : W.cell? ⟨w.heap.size, 15, none⟩ = some (r11) := (qc 15).trans f15
 have g16 : W.cell? ⟨w.heap.size, 16, none⟩ = some (r12) := (qc 16).trans f16
 have g17 : W.cell? ⟨w.heap.size, 17, none⟩ = some (r13) := (qc 17).trans f17
 have g18 : W.cell? ⟨w.heap.size, 18, none⟩ = some (r14) := (qc 18).trans f18
 clear hW zz bb oo kk qc hk0 f0 f2 f4 f5 f6 f7 f8 f9 f10 f11 f12 f13 f14 f15 f16 f17 f18
 go_region_held3 (fun w' => Below W.heap.size W w' ∧ (∀ b' o, b' < W.heap.size → w'.cell? ⟨b', o, none⟩ = W.cell? ⟨b', o, none⟩))
  (first | assumption | exact sees_drew _ | (refine sees_call (by assumption) (by assumption)))
  (first | (go_at_call_of 30 r0; refine (ih0.out _ (HB.out.trans (Below.mono (And.left (by assumption)) (by exact HB.out.size)))).mono ?_; rintro e w2 ⟨rfl, hb2⟩))
 all_goals
  go_wp2_with fail
  go_ret
  exact ⟨ret_str (congrArg bs HF.out), (HB.out.trans (Below.mono (And.left (by assumption)) (by exact HB.out.size)))⟩
theorem it_param (w : World) (cs : Array Value) (nm : List UInt8) (zn : nm.length ≤ 1000000000000) (k0 a0 op0 wd0 n0 : Int) (nm0 : ByteArray) (sl0 : Value) (f0 : cs[0]? = some (.int .i64 4)) (f2 : cs[2]? = some (.string (bs nm))) (f35 : cs[35]? = some (.int .i64 k0)) (f36 : cs[36]? = some (.int .i64 a0)) (f37 : cs[37]? = some (.int .i64 op0)) (f38 : cs[38]? = some (.int .i64 wd0)) (f39 : cs[39]? = some (.int .u64 n0)) (f40 : cs[40]? = some (.string nm0)) (f41 : cs[41]? = some (sl0))
  (t0 : List UInt8) (z0 : t0.length ≤ 1000000000000) (ih0 : Hid (∀ w', Below w.heap.size w w' → Calls Tryz.prog 29 #[.agg #[.int .i64 k0, .int .i64 a0, .int .i64 op0, .int .i64 wd0, .int .u64 n0, .string nm0, sl0]] w' (StrPost t0 w')))
  (tt : List UInt8) (HT : Hid (tt = [108, 111, 99, 97, 108, 112, 97, 114, 97, 109, 32] ++ nm ++ [32, 61, 32] ++ t0 ++ [59, 10])) :
  Calls Tryz.prog 51 #[.agg cs] w (StrPost tt w) := by
 obtain ⟨x1, H1, l1, s1⟩ := add_to (⟨#[108, 111, 99, 97, 108, 112, 97, 114, 97, 109, 32]⟩) (bs nm) [108, 111, 99, 97, 108, 112, 97, 114, 97, 109, 32] nm rfl rfl (by (try simp only [lnC, lnN] at *); omega)
 obtain ⟨x2, H2, l2, s2⟩ := add_to (bs x1) (⟨#[32, 61, 32]⟩) x1 [32, 61, 32] rfl rfl (by (try simp only [lnC, lnN] at *); omega)
 obtain ⟨x3, H3, l3, s3⟩ := add_to (bs x2) (bs t0) x2 t0 rfl rfl (by (try simp only [lnC, lnN] at *); omega)
 obtain ⟨x4, H4, l4, s4⟩ := add_to (bs x3) (⟨#[59, 10]⟩) x3 [59, 10] rfl rfl (by (try simp only [lnC, lnN] at *); omega)
 have HF : Hid (x4 = tt) := by show x4 = _; rw [HT.out, H4.out, H3.out, H2.out, H1.out]
 clear HT H1 l1 H2 l2 H3 l3 H4 l4
 have hk0 : (w.alloc (.cells cs 95)).cell? ⟨w.heap.size, 0, none⟩ = some (.int .i64 4) := by simp [f0]
 go_enter Tryz.func51, Tryz.ntmps51
 go_wp2_with fail
 generalize hW : w.alloc (.cells cs 95) = W at *
 obtain ⟨zz, bb, oo, kk⟩ := one_box hW
 have HB : Hid (Below w.heap.size w W) := by rw [← hW]; exact (Below.refl _ _).alloc (Nat.le_refl _) _
 have hlt : w.heap.size < W.heap.size := by omega
 obtain ⟨qc, _, _⟩ := bxN bb
 have g0 : W.cell? ⟨w.heap.size, 0, none⟩ = some (.int .i64 4) := (qc 0).trans f0
 have g2 : W.cell? ⟨w.heap.size, 2, none⟩ = some (.string (bs nm)) := (qc 2).trans f2
 have g35 : W.cell? ⟨w.heap.size, 35, none⟩ = some (.int .i64 k0) := (qc 35).trans f35
 have g36 : W.cell? ⟨w.heap.size, 36, none⟩ = some (.int .i64 a0) := (qc 36).trans f36
 have g37 : W.cell? ⟨w.heap.size, 37, none⟩ = some (.int .i64 op0) := (qc 37).trans f37
 have g38 : W.cell? ⟨w.heap.size, 38, none⟩ = some (.int .i64 wd0) := (qc 38).trans f38
 have g39 : W.cell? ⟨w.heap.size, 39, none⟩ = some (.int .u64 n0) := (qc 39).trans f39
 have g40 : W.cell? ⟨w.heap.size, 40, none⟩ = some (.string nm0) := (qc 40).trans f40
 have g41 : W.cell? ⟨w.heap.size, 41, none⟩ = some (sl0) := (qc 41).trans f41
 clear hW zz bb oo kk qc hk0 f0 f2 f35 f36 f37 f38 f39 f40 f41
 go_region_held3 (fun w' => Below W.heap.size W w' ∧ (∀ b' o, b' < W.heap.size → w'.cell? ⟨b', o, none⟩ = W.cell? ⟨b', o, none⟩))
  (first | assumption | exact sees_drew _ | (refine sees_call (by assumption) (by assumption)))
  (first | (go_at_call_of 29 (Value.int IntKind.i64 a0); refine (ih0.out _ (HB.out.trans (Below.mono (And.left (by assumption)) (by exact HB.out.size)))).mono ?_; rintro e w2 ⟨rfl, hb2⟩))
 all_goals
  go_wp2_with fail
  go_ret
  exact ⟨ret_str (congrArg bs HF.out), (HB.out.trans (Below.mono (And.left (by assumption)) (by exact HB.out.size)))⟩
theorem it_assign (w : World) (cs : Array Value) (k0 a0 op0 wd0 n0 : Int) (nm0 : ByteArray) (sl0 : Value) (k1 a1 op1 wd1 n1 : Int) (nm1 : ByteArray) (sl1 : Value) (f0 : cs[0]? = some (.int .i64 5)) (f42 : cs[42]? = some (.int .i64 k0)) (f43 : cs[43]? = some (.int .i64 a0)) (f44 : cs[44]? = some (.int .i64 op0)) (f45 : cs[45]? = some (.int .i64 wd0)) (f46 : cs[46]? = some (.int .u64 n0)) (f47 : cs[47]? = some (.string nm0)) (f48 : cs[48]? = some (sl0)) (f35 : cs[35]? = some (.int .i64 k1)) (f36 : cs[36]? = some (.int .i64 a1)) (f37 : cs[37]? = some (.int .i64 op1)) (f38 : cs[38]? = some (.int .i64 wd1)) (f39 : cs[39]? = some (.int .u64 n1)) (f40 : cs[40]? = some (.string nm1)) (f41 : cs[41]? = some (sl1))
  (t0 : List UInt8) (z0 : t0.length ≤ 1000000000000) (ih0 : Hid (∀ w', Below w.heap.size w w' → Calls Tryz.prog 29 #[.agg #[.int .i64 k0, .int .i64 a0, .int .i64 op0, .int .i64 wd0, .int .u64 n0, .string nm0, sl0]] w' (StrPost t0 w')))
  (t1 : List UInt8) (z1 : t1.length ≤ 1000000000000) (ih1 : Hid (∀ w', Below w.heap.size w w' → Calls Tryz.prog 29 #[.agg #[.int .i64 k1, .int .i64 a1, .int .i64 op1, .int .i64 wd1, .int .u64 n1, .string nm1, sl1]] w' (StrPost t1 w')))
  (tt : List UInt8) (HT : Hid (tt = [97, 115, 115, 105, 103, 110, 32] ++ t0 ++ [32, 61, 32] ++ t1 ++ [59, 10])) :
  Calls Tryz.prog 51 #[.agg cs] w (StrPost tt w) := by
 obtain ⟨x1, H1, l1, s1⟩ := add_to (⟨#[97, 115, 115, 105, 103, 110, 32]⟩) (bs t0) [97, 115, 115, 105, 103, 110, 32] t0 rfl rfl (by (try simp only [lnC, lnN] at *); omega)
 obtain ⟨x2, H2, l2, s2⟩ := add_to (bs x1) (⟨#[32, 61, 32]⟩) x1 [32, 61, 32] rfl rfl (by (try simp only [lnC, lnN] at *); omega)
 obtain ⟨x3, H3, l3, s3⟩ := add_to (bs x2) (bs t1) x2 t1 rfl rfl (by (try simp only [lnC, lnN] at *); omega)
 obtain ⟨x4, H4, l4, s4⟩ := add_to (bs x3) (⟨#[59, 10]⟩) x3 [59, 10] rfl rfl (by (try simp only [lnC, lnN] at *); omega)
 have HF : Hid (x4 = tt) := by show x4 = _; rw [HT.out, H4.out, H3.out, H2.out, H1.out]
 clear HT H1 l1 H2 l2 H3 l3 H4 l4
 have hk0 : (w.alloc (.cells cs 95)).cell? ⟨w.heap.size, 0, none⟩ = some (.int .i64 5) := by simp [f0]
 go_enter Tryz.func51, Tryz.ntmps51
 go_wp2_with fail
 generalize hW : w.alloc (.cells cs 95) = W at *
 obtain ⟨zz, bb, oo, kk⟩ := one_box hW
 have HB : Hid (Below w.heap.size w W) := by rw [← hW]; exact (Below.refl _ _).alloc (Nat.le_refl _) _
 have hlt : w.heap.size < W.heap.size := by omega
 obtain ⟨qc, _, _⟩ := bxN bb
 have g0 : W.cell? ⟨w.heap.size, 0, none⟩ = some (.int .i64 5) := (qc 0).trans f0
 have g42 : W.cell? ⟨w.heap.size, 42, none⟩ = some (.int .i64 k0) := (qc 42).trans f42
 have g43 : W.cell? ⟨w.heap.size, 43, none⟩ = some (.int .i64 a0) := (qc 43).trans f43
 have g44 : W.cell? ⟨w.heap.size, 44, none⟩ = some (.int .i64 op0) := (qc 44).trans f44
 have g45 : W.cell? ⟨w.heap.size, 45, none⟩ = some (.int .i64 wd0) := (qc 45).trans f45
 have g46 : W.cell? ⟨w.heap.size, 46, none⟩ = some (.int .u64 n0) := (qc 46).trans f46
 have g47 : W.cell? ⟨w.heap.size, 47, none⟩ = some (.string nm0) := (qc 47).trans f47
 have g48 : W.cell? ⟨w.heap.size, 48, none⟩ = some (sl0) := (qc 48).trans f48
 have g35 : W.cell? ⟨w.heap.size, 35, none⟩ = some (.int .i64 k1) := (qc 35).trans f35
 have g36 : W.cell? ⟨w.heap.size, 36, none⟩ = some (.int .i64 a1) := (qc 36).trans f36
 have g37 : W.cell? ⟨w.heap.size, 37, none⟩ = some (.int .i64 op1) := (qc 37).trans f37
 have g38 : W.cell? ⟨w.heap.size, 38, none⟩ = some (.int .i64 wd1) := (qc 38).trans f38
 have g39 : W.cell? ⟨w.heap.size, 39, none⟩ = some (.int .u64 n1) := (qc 39).trans f39
 have g40 : W.cell? ⟨w.heap.size, 40, none⟩ = some (.string nm1) := (qc 40).trans f40
 have g41 : W.cell? ⟨w.heap.size, 41, none⟩ = some (sl1) := (qc 41).trans f41
 clear hW zz bb oo kk qc hk0 f0 f42 f43 f44 f45 f46 f47 f48 f35 f36 f37 f38 f39 f40 f41
 go_region_held3 (fun w' => Below W.heap.size W w' ∧ (∀ b' o, b' < W.heap.size → w'.cell? ⟨b', o, none⟩ = W.cell? ⟨b', o, none⟩))
  (first | assumption | exact sees_drew _ | (refine sees_call (by assumption) (by assumption)))
  (first | (go_at_call_of 29 (Value.int IntKind.i64 a0); refine (ih0.out _ (HB.out.trans (Below.mono (And.left (by assumption)) (by exact HB.out.size)))).mono ?_; rintro e w2 ⟨rfl, hb2⟩) | (go_at_call_of 29 (Value.int IntKind.i64 a1); refine (ih1.out _ (HB.out.trans (Below.mono (And.left (by assumption)) (by exact HB.out.size)))).mono ?_; rintro e w2 ⟨rfl, hb2⟩))
 all_goals
  go_wp2_with fail
  go_ret
  exact ⟨ret_str (congrArg bs HF.out), (HB.out.trans (Below.mono (And.left (by assumption)) (by exact HB.out.size)))⟩
theorem it_reg0 (w : World) (cs : Array Value) (nm : List UInt8) (zn : nm.length ≤ 1000000000000) (r0 r1 r2 r3 r4 r5 r6 r7 r8 r9 r10 r11 r12 r13 r14 : Value) (f0 : cs[0]? = some (.int .i64 2)) (f2 : cs[2]? = some (.string (bs nm))) (f4 : cs[4]? = some (r0)) (f5 : cs[5]? = some (r1)) (f6 : cs[6]? = some (r2)) (f7 : cs[7]? = some (r3)) (f8 : cs[8]? = some (r4)) (f9 : cs[9]? = some (r5)) (f10 : cs[10]? = some (r6)) (f11 : cs[11]? = some (r7)) (f12 : cs[12]? = some (r8)) (f13 : cs[13]? = some (r9)) (f14 : cs[14]? = some (r10)) (f15 : cs[15]? = some (r11)) (f16 : cs[16]? = some (r12)) (f17 : cs[17]? = some (r13)) (f18 : cs[18]? = some (r14)) (f34 : cs[34]? = some (.bool false))
  (t0 : List UInt8) (z0 : t0.length ≤ 1000000000000) (ih0 : Hid (∀ w', Below w.heap.size w w' → Calls Tryz.prog 30 #[.agg #[r0, r1, r2, r3, r4, r5, r6, r7, r8, r9, r10, r11, r12, r13, r14]] w' (StrPost t0 w')))
  (tt : List UInt8) (HT : Hid (tt = [114, 101, 103, 32] ++ t0 ++ nm ++ [59, 10])) :
  Calls Tryz.prog 51 #[.agg cs] w (StrPost tt w) := by
 obtain ⟨x1, H1, l1, s1⟩ := add_to (⟨#[114, 101, 103, 32]⟩) (bs t0) [114, 101, 103, 32] t0 rfl rfl (by (try simp only [lnC, lnN] at *); omega)
 obtain ⟨x2, H2, l2, s2⟩ := add_to (bs x1) (bs nm) x1 nm rfl rfl (by (try simp only [lnC, lnN] at *); omega)
 obtain ⟨x3, H3, l3, s3⟩ := add_to (bs x2) (⟨#[59, 10]⟩) x2 [59, 10] rfl rfl (by (try simp only [lnC, lnN] at *); omega)
 have HF : Hid (x3 = tt) := by show x3 = _; rw [HT.out, H3.out, H2.out, H1.out]
 clear HT H1 l1 H2 l2 H3 l3
 have hk0 : (w.alloc (.cells cs 95)).cell? ⟨w.heap.size, 0, none⟩ = some (.int .i64 2) := by simp [f0]
 go_enter Tryz.func51, Tryz.ntmps51
 go_wp2_with fail
 generalize hW : w.alloc (.cells cs 95) = W at *
 obtain ⟨zz, bb, oo, kk⟩ := one_box hW
 have HB : Hid (Below w.heap.size w W) := by rw [← hW]; exact (Below.refl _ _).alloc (Nat.le_refl _) _
 have hlt : w.heap.size < W.heap.size := by omega
 obtain ⟨qc, _, _⟩ := bxN bb
 have g0 : W.cell? ⟨w.heap.size, 0, none⟩ = some (.int .i64 2) := (qc 0).trans f0
 have g2 : W.cell? ⟨w.heap.size, 2, none⟩ = some (.string (bs nm)) := (qc 2).trans f2
 have g4 : W.cell? ⟨w.heap.size, 4, none⟩ = some (r0) := (qc 4).trans f4
 have g5 : W.cell? ⟨w.heap.size, 5, none⟩ = some (r1) := (qc 5).trans f5
 have g6 : W.cell? ⟨w.heap.size, 6, none⟩ = some (r2) := (qc 6).trans f6
 have g7 : W.cell? ⟨w.heap.size, 7, none⟩ = some (r3) := (qc 7).trans f7
 have g8 : W.cell? ⟨w.heap.size, 8, none⟩ = some (r4) := (qc 8).trans f8
 have g9 : W.cell? ⟨w.heap.size, 9, none⟩ = some (r5) := (qc 9).trans f9
 have g10 : W.cell? ⟨w.heap.size, 10, none⟩ = some (r6) := (qc 10).trans f10
 have g11 : W.cell? ⟨w.heap.size, 11, none⟩ = some (r7) := (qc 11).trans f11
 have g12 : W.cell? ⟨w.heap.size, 12, none⟩ = some (r8) := (qc 12).trans f12
 have g13 : W.cell? ⟨w.heap.size, 13, none⟩ = some (r9) := (qc 13).trans f13
 have g14 : W.cell? ⟨w.heap.size, 14, none⟩ = some (r10) := (qc 14).trans f14
 have g15 : W.cell? ⟨w.heap.size, 15, none⟩ = some (r11) := (qc 15).trans f15
 have g16 : W.cell? ⟨w.heap.size, 16, none⟩ = some (r12) := (qc 16).trans f16
 have g17 : W.cell? ⟨w.heap.size, 17, none⟩ = some (r13) := (qc 17).trans f17
 have g18 : W.cell? ⟨w.heap.size, 18, none⟩ = some (r14) := (qc 18).trans f18
 have g34 : W.cell? ⟨w.heap.size, 34, none⟩ = some (.bool false) := (qc 34).trans f34
 clear hW zz bb oo kk qc hk0 f0 f2 f4 f5 f6 f7 f8 f9 f10 f11 f12 f13 f14 f15 f16 f17 f18 f34
 go_region_held3 (fun w' => Below W.heap.size W w' ∧ (∀ b' o, b' < W.heap.size → w'.cell? ⟨b', o, none⟩ = W.cell? ⟨b', o, none⟩))
  (first | assumption | exact sees_drew _ | (refine sees_call (by assumption) (by assumption)))
  (first | (go_at_call_of 30 r0; refine (ih0.out _ (HB.out.trans (Below.mono (And.left (by assumption)) (by exact HB.out.size)))).mono ?_; rintro e w2 ⟨rfl, hb2⟩))
 all_goals
  go_wp2_with fail
  go_ret
  exact ⟨ret_str (congrArg bs HF.out), (HB.out.trans (Below.mono (And.left (by assumption)) (by exact HB.out.size)))⟩
theorem it_reg1 (w : World) (cs : Array Value) (nm : List UInt8) (zn : nm.length ≤ 1000000000000) (r0 r1 r2 r3 r4 r5 r6 r7 r8 r9 r10 r11 r12 r13 r14 : Value) (k1 a1 op1 wd1 n1 : Int) (nm1 : ByteArray) (sl1 : Value) (f0 : cs[0]? = some (.int .i64 2)) (f2 : cs[2]? = some (.string (bs nm))) (f4 : cs[4]? = some (r0)) (f5 : cs[5]? = some (r1)) (f6 : cs[6]? = some (r2)) (f7 : cs[7]? = some (r3)) (f8 : cs[8]? = some (r4)) (f9 : cs[9]? = some (r5)) (f10 : cs[10]? = some (r6)) (f11 : cs[11]? = some (r7)) (f12 : cs[12]? = some (r8)) (f13 : cs[13]? = some (r9)) (f14 : cs[14]? = some (r10)) (f15 : cs[15]? = some (r11)) (f16 : cs[16]? = some (r12)) (f17 : cs[17]? = some (r13)) (f18 : cs[18]? = some (r14)) (f34 : cs[34]? = some (.bool true)) (f35 : cs[35]? = some (.int .i64 k1)) (f36 : cs[36]? = some (.int .i64 a1)) (f37 : cs[37]? = some (.int .i64 op1)) (f38 : cs[38]? = some (.int .i64 wd1)) (f39 : cs[39]? = some (.int .u64 n1)) (f40 : cs[40]? = some (.string nm1)) (f41 : cs[41]? = some (sl1))
  (t0 : List UInt8) (z0 : t0.length ≤ 1000000000000) (ih0 : Hid (∀ w', Below w.heap.size w w' → Calls Tryz.prog 30 #[.agg #[r0, r1, r2, r3, r4, r5, r6, r7, r8, r9, r10, r11, r12, r13, r14]] w' (StrPost t0 w')))
  (t1 : List UInt8) (z1 : t1.length ≤ 1000000000000) (ih1 : Hid (∀ w', Below w.heap.size w w' → Calls Tryz.prog 29 #[.agg #[.int .i64 k1, .int .i64 a1, .int .i64 op1, .int .i64 wd1, .int .u64 n1, .string nm1, sl1]] w' (StrPost t1 w')))
  (tt : List UInt8) (HT : Hid (tt = [114, 101, 103, 32] ++ t0 ++ nm ++ [32, 61, 32] ++ t1 ++ [59, 10])) :
  Calls Tryz.prog 51 #[.agg cs] w (StrPost tt w) := by
 obtain ⟨x1, H1, l1, s1⟩ := add_to (⟨#[114, 101, 103, 32]⟩) (bs t0) [114, 101, 103, 32] t0 rfl rfl (by (try simp only [lnC, lnN] at *); omega)
 obtain ⟨x2, H2, l2, s2⟩ := add_to (bs x1) (bs nm) x1 nm rfl rfl (by (try simp only [lnC, lnN] at *); omega)
 obtain ⟨x3, H3, l3, s3⟩ := add_to (bs x2) (⟨#[32, 61, 32]⟩) x2 [32, 61, 32] rfl rfl (by (try simp only [lnC, lnN] at *); omega)
 obtain ⟨x4, H4, l4, s4⟩ := add_to (bs x3) (bs t1) x3 t1 rfl rfl (by (try simp only [lnC, lnN] at *); omega)
 obtain ⟨x5, H5, l5, s5⟩ := add_to (bs x4) (⟨#[59, 10]⟩) x4 [59, 10] rfl rfl (by (try simp only [lnC, lnN] at *); omega)
 have HF : Hid (x5 = tt) := by show x5 = _; rw [HT.out, H5.out, H4.out, H3.out, H2.out, H1.out]
 clear HT H1 l1 H2 l2 H3 l3 H4 l4 H5 l5
 have hk0 : (w.alloc (.cells cs 95)).cell? ⟨w.heap.size, 0, none⟩ = some (.int .i64 2) := by simp [f0]
 go_enter Tryz.func51, Tryz.ntmps51
 go_wp2_with fail
 generalize hW : w.alloc (.cells cs 95) = W at *
 obtain ⟨zz, bb, oo, kk⟩ := one_box hW
 have HB : Hid (Below w.heap.size w W) := by rw [← hW]; exact (Below.refl _ _).alloc (Nat.le_refl _) _
 have hlt : w.heap.size < W.heap.size := by omega
 obtain ⟨qc, _, _⟩ := bxN bb
 have g0 : W.cell? ⟨w.heap.size, 0, none⟩ = some (.int .i64 2) := (qc 0).trans f0
 have g2 : W.cell? ⟨w.heap.size, 2, none⟩ = some (.string (bs nm)) := (qc 2).trans f2
 have g4 : W.cell? ⟨w.heap.size, 4, none⟩ = some (r0) := (qc 4).trans f4
 have g5 : W.cell? ⟨w.heap.size, 5, none⟩ = some (r1) := (qc 5).trans f5
 have g6 : W.cell? ⟨w.heap.size, 6, none⟩ = some (r2) := (qc 6).trans f6
 have g7 : W.cell? ⟨w.heap.size, 7, none⟩ = some (r3) := (qc 7).trans f7
 have g8 : W.cell? ⟨w.heap.size, 8, none⟩ = some (r4) := (qc 8).trans f8
 have g9 : W.cell? ⟨w.heap.size, 9, none⟩ = some (r5) := (qc 9).trans f9
 have g10 : W.cell? ⟨w.heap.size, 10, none⟩ = some (r6) := (qc 10).trans f10
 have g11 : W.cell? ⟨w.heap.size, 11, none⟩ = some (r7) := (qc 11).trans f11
 have g12 : W.cell? ⟨w.heap.size, 12, none⟩ = some (r8) := (qc 12).trans f12
 have g13 : W.cell? ⟨w.heap.size, 13, none⟩ = some (r9) := (qc 13).trans f13
 have g14 : W.cell? ⟨w.heap.size, 14, none⟩ = some (r10) := (qc 14).trans f14
 have g15 : W.cell? ⟨w.heap.size, 15, none⟩ = some (r11) := (qc 15).trans f15
 have g16 : W.cell? ⟨w.heap.size, 16, none⟩ = some (r12) := (qc 16).trans f16
 have g17 : W.cell? ⟨w.heap.size, 17, none⟩ = some (r13) := (qc 17).trans f17
 have g18 : W.cell? ⟨w.heap.size, 18, none⟩ = some (r14) := (qc 18).trans f18
 have g34 : W.cell? ⟨w.heap.size, 34, none⟩ = some (.bool true) := (qc 34).trans f34
 have g35 : W.cell? ⟨w.heap.size, 35, none⟩ = some (.int .i64 k1) := (qc 35).trans f35
 have g36 : W.cell? ⟨w.heap.size, 36, none⟩ = some (.int .i64 a1) := (qc 36).trans f36
 have g37 : W.cell? ⟨w.heap.size, 37, none⟩ = some (.int .i64 op1) := (qc 37).trans f37
 have g38 : W.cell? ⟨w.heap.size, 38, none⟩ = some (.int .i64 wd1) := (qc 38).trans f38
 have g39 : W.cell? ⟨w.heap.size, 39, none⟩ = some (.int .u64 n1) := (qc 39).trans f39
 have g40 : W.cell? ⟨w.heap.size, 40, none⟩ = some (.string nm1) := (qc 40).trans f40
 have g41 : W.cell? ⟨w.heap.size, 41, none⟩ = some (sl1) := (qc 41).trans f41
 clear hW zz bb oo kk qc hk0 f0 f2 f4 f5 f6 f7 f8 f9 f10 f11 f12 f13 f14 f15 f16 f17 f18 f34 f35 f36 f37 f38 f39 f40 f41
 go_region_held3 (fun w' => Below W.heap.size W w' ∧ (∀ b' o, b' < W.heap.size → w'.cell? ⟨b', o, none⟩ = W.cell? ⟨b', o, none⟩))
  (first | assumption | exact sees_drew _ | (refine sees_call (by assumption) (by assumption)))
  (first | (go_at_call_of 30 r0; refine (ih0.out _ (HB.out.trans (Below.mono (And.left (by assumption)) (by exact HB.out.size)))).mono ?_; rintro e w2 ⟨rfl, hb2⟩))
 all_goals
  go_wp2_with fail
  refine (ih1.out _ (HB.out.trans (Below.mono (And.left (by assumption)) (by exact HB.out.size)))).mono ?_
  rintro e w9 ⟨rfl, hb9⟩
  have HB9 : Hid (Below w.heap.size w w9) := (HB.out.trans (Below.mono (And.left (by assumption)) (by exact HB.out.size))).trans (hb9.mono ((HB.out.trans (Below.mono (And.left (by assumption)) (by exact HB.out.size)))).size)
  clear hb9
  go_wp2_with fail
  go_ret
  exact ⟨ret_str (congrArg bs HF.out), HB9.out⟩
end Go.Proofs.YtimmmlnememjiaaGreatDoor
