import Derived.Test.YtimmmlnememjiaaGreatDoorX
import Derived.Test.YtimmmlnememjiaaGreatDoorX02
import Derived.Test.YtimmmlnememjiaaGreatDoorX09
set_option maxRecDepth 100000
set_option maxHeartbeats 16000000
namespace Go.Proofs.YtimmmlnememjiaaGreatDoor
open Go.RowKit
theorem st_none (w : World) (a : Int) (lt : Bool) (nm : ByteArray) (vx vs va : Value) : Calls Tryz.prog 70 #[.agg #[.int .i64 1, .int .i64 a, .bool lt, .string nm, vx, vs, va]] w (StrPost [59] w) := by
 go_enter Tryz.func70, Tryz.ntmps70
 go_wp2_with fail
 go_ret
 exact ⟨rfl, (Below.refl _ _).alloc (Nat.le_refl _) _⟩
theorem st_later (w : World) (a : Int) (nm : ByteArray) (vs va : Value) (b capb : Nat) (hb : b < w.heap.size)
  (k0 a0 op0 wd0 n0 : Int) (nm0 : ByteArray) (sl0 : Value) (t0 : List UInt8) (z0 : t0.length ≤ 1000000000000) (c00 : w.cell? ⟨b, 0, none⟩ = some (.int .i64 k0)) (c01 : w.cell? ⟨b, 1, none⟩ = some (.int .i64 a0)) (c02 : w.cell? ⟨b, 2, none⟩ = some (.int .i64 op0)) (c03 : w.cell? ⟨b, 3, none⟩ = some (.int .i64 wd0)) (c04 : w.cell? ⟨b, 4, none⟩ = some (.int .u64 n0)) (c05 : w.cell? ⟨b, 5, none⟩ = some (.string nm0)) (c06 : w.cell? ⟨b, 6, none⟩ = some (sl0))
  (ih0 : Hid (∀ w', Below w.heap.size w w' → Calls Tryz.prog 29 #[.agg #[.int .i64 k0, .int .i64 a0, .int .i64 op0, .int .i64 wd0, .int .u64 n0, .string nm0, sl0]] w' (StrPost t0 w')))
  (k1 a1 op1 wd1 n1 : Int) (nm1 : ByteArray) (sl1 : Value) (t1 : List UInt8) (z1 : t1.length ≤ 1000000000000) (c10 : w.cell? ⟨b, 7, none⟩ = some (.int .i64 k1)) (c11 : w.cell? ⟨b, 8, none⟩ = some (.int .i64 a1)) (c12 : w.cell? ⟨b, 9, none⟩ = some (.int .i64 op1)) (c13 : w.cell? ⟨b, 10, none⟩ = some (.int .i64 wd1)) (c14 : w.cell? ⟨b, 11, none⟩ = some (.int .u64 n1)) (c15 : w.cell? ⟨b, 12, none⟩ = some (.string nm1)) (c16 : w.cell? ⟨b, 13, none⟩ = some (sl1))
  (ih1 : Hid (∀ w', Below w.heap.size w w' → Calls Tryz.prog 29 #[.agg #[.int .i64 k1, .int .i64 a1, .int .i64 op1, .int .i64 wd1, .int .u64 n1, .string nm1, sl1]] w' (StrPost t1 w')))
  (tt : List UInt8) (HT : Hid (tt = t0 ++ [32, 60, 61, 32] ++ t1 ++ [59])) :
  Calls Tryz.prog 70 #[.agg #[.int .i64 5, .int .i64 a, .bool true, .string nm, .slice (some ⟨b, 0, none⟩) 2 capb, vs, va]] w (StrPost tt w) := by
 obtain ⟨x1, H1, l1, s1⟩ := add_to (bs t0) (⟨#[32, 60, 61, 32]⟩) t0 [32, 60, 61, 32] rfl rfl (by (try simp only [lnC, lnN] at *); omega)
 obtain ⟨x2, H2, l2, s2⟩ := add_to (bs x1) (bs t1) x1 t1 rfl rfl (by (try simp only [lnC, lnN] at *); omega)
 obtain ⟨x3, H3, l3, s3⟩ := add_to (bs x2) (⟨#[59]⟩) x2 [59] rfl rfl (by (try simp only [lnC, lnN] at *); omega)
 have HF : Hid (x3 = tt) := by show x3 = _; rw [HT.out, H3.out, H2.out, H1.out]
 clear HT H1 l1 H2 l2 H3 l3
 go_enter Tryz.func70, Tryz.ntmps70
 go_wp2_with fail
 generalize hW : w.alloc (.cells #[.int .i64 5, .int .i64 a, .bool true, .string nm, .slice (some ⟨b, 0, none⟩) 2 capb, vs, va] 93) = W
 obtain ⟨x0, xx1, xx2, xx3, xx4, xx5, xx6, HB, hc, hlt, hle⟩ := box_facts hW
 have hbW := hle b hb
 rw [← hc b 0 hb] at c00; rw [← hc b 1 hb] at c01; rw [← hc b 2 hb] at c02; rw [← hc b 3 hb] at c03; rw [← hc b 4 hb] at c04; rw [← hc b 5 hb] at c05; rw [← hc b 6 hb] at c06; rw [← hc b 7 hb] at c10; rw [← hc b 8 hb] at c11; rw [← hc b 9 hb] at c12; rw [← hc b 10 hb] at c13; rw [← hc b 11 hb] at c14; rw [← hc b 12 hb] at c15; rw [← hc b 13 hb] at c16
 clear hc hle hW
 go_region_held3 (fun w' => Below W.heap.size W w' ∧ (∀ b' o, b' < W.heap.size → w'.cell? ⟨b', o, none⟩ = W.cell? ⟨b', o, none⟩))
  (first | assumption | exact sees_drew _ | (refine sees_call (by assumption) (by assumption)))
  (first | (go_at_call_of 29 (Value.int IntKind.i64 a0); refine (ih0.out _ (HB.out.trans (Below.mono (And.left (by assumption)) (by exact HB.out.size)))).mono ?_; rintro e w2 ⟨rfl, hb2⟩) | (go_at_call_of 29 (Value.int IntKind.i64 a1); refine (ih1.out _ (HB.out.trans (Below.mono (And.left (by assumption)) (by exact HB.out.size)))).mono ?_; rintro e w2 ⟨rfl, hb2⟩))
 all_goals
  go_wp2_with fail
  go_ret
  exact ⟨ret_str (congrArg bs HF.out), HB.out.trans (Below.mono (And.left (by assumption)) HB.out.size)⟩
theorem st_now (w : World) (a : Int) (nm : ByteArray) (vs va : Value) (b capb : Nat) (hb : b < w.heap.size)
  (k0 a0 op0 wd0 n0 : Int) (nm0 : ByteArray) (sl0 : Value) (t0 : List UInt8) (z0 : t0.length ≤ 1000000000000) (c00 : w.cell? ⟨b, 0, none⟩ = some (.int .i64 k0)) (c01 : w.cell? ⟨b, 1, none⟩ = some (.int .i64 a0)) (c02 : w.cell? ⟨b, 2, none⟩ = some (.int .i64 op0)) (c03 : w.cell? ⟨b, 3, none⟩ = some (.int .i64 wd0)) (c04 : w.cell? ⟨b, 4, none⟩ = some (.int .u64 n0)) (c05 : w.cell? ⟨b, 5, none⟩ = some (.string nm0)) (c06 : w.cell? ⟨b, 6, none⟩ = some (sl0))
  (ih0 : Hid (∀ w', Below w.heap.size w w' → Calls Tryz.prog 29 #[.agg #[.int .i64 k0, .int .i64 a0, .int .i64 op0, .int .i64 wd0, .int .u64 n0, .string nm0, sl0]] w' (StrPost t0 w')))
  (k1 a1 op1 wd1 n1 : Int) (nm1 : ByteArray) (sl1 : Value) (t1 : List UInt8) (z1 : t1.length ≤ 1000000000000) (c10 : w.cell? ⟨b, 7, none⟩ = some (.int .i64 k1)) (c11 : w.cell? ⟨b, 8, none⟩ = some (.int .i64 a1)) (c12 : w.cell? ⟨b, 9, none⟩ = some (.int .i64 op1)) (c13 : w.cell? ⟨b, 10, none⟩ = some (.int .i64 wd1)) (c14 : w.cell? ⟨b, 11, none⟩ = some (.int .u64 n1)) (c15 : w.cell? ⟨b, 12, none⟩ = some (.string nm1)) (c16 : w.cell? ⟨b, 13, none⟩ = some (sl1))
  (ih1 : Hid (∀ w', Below w.heap.size w w' → Calls Tryz.prog 29 #[.agg #[.int .i64 k1, .int .i64 a1, .int .i64 op1, .int .i64 wd1, .int .u64 n1, .string nm1, sl1]] w' (StrPost t1 w')))
  (tt : List UInt8) (HT : Hid (tt = t0 ++ [32, 61, 32] ++ t1 ++ [59])) :
  Calls Tryz.prog 70 #[.agg #[.int .i64 5, .int .i64 a, .bool false, .string nm, .slice (some ⟨b, 0, none⟩) 2 capb, vs, va]] w (StrPost tt w) := by
 obtain ⟨x1, H1, l1, s1⟩ := add_to (bs t0) (⟨#[32, 61, 32]⟩) t0 [32, 61, 32] rfl rfl (by (try simp only [lnC, lnN] at *); omega)
 obtain ⟨x2, H2, l2, s2⟩ := add_to (bs x1) (bs t1) x1 t1 rfl rfl (by (try simp only [lnC, lnN] at *); omega)
 obtain ⟨x3, H3, l3, s3⟩ := add_to (bs x2) (⟨#[59]⟩) x2 [59] rfl rfl (by (try simp only [lnC, lnN] at *); omega)
 have HF : Hid (x3 = tt) := by show x3 = _; rw [HT.out, H3.out, H2.out, H1.out]
 clear HT H1 l1 H2 l2 H3 l3
 go_enter Tryz.func70, Tryz.ntmps70
 go_wp2_with fail
 generalize hW : w.alloc (.cells #[.int .i64 5, .int .i64 a, .bool false, .string nm, .slice (some ⟨b, 0, none⟩) 2 capb, vs, va] 93) = W
 obtain ⟨x0, xx1, xx2, xx3, xx4, xx5, xx6, HB, hc, hlt, hle⟩ := box_facts hW
 have hbW := hle b hb
 rw [← hc b 0 hb] at c00; rw [← hc b 1 hb] at c01; rw [← hc b 2 hb] at c02; rw [← hc b 3 hb] at c03; rw [← hc b 4 hb] at c04; rw [← hc b 5 hb] at c05; rw [← hc b 6 hb] at c06; rw [← hc b 7 hb] at c10; rw [← hc b 8 hb] at c11; rw [← hc b 9 hb] at c12; rw [← hc b 10 hb] at c13; rw [← hc b 11 hb] at c14; rw [← hc b 12 hb] at c15; rw [← hc b 13 hb] at c16
 clear hc hle hW
 go_region_held3 (fun w' => Below W.heap.size W w' ∧ (∀ b' o, b' < W.heap.size → w'.cell? ⟨b', o, none⟩ = W.cell? ⟨b', o, none⟩))
  (first | assumption | exact sees_drew _ | (refine sees_call (by assumption) (by assumption)))
  (first | (go_at_call_of 29 (Value.int IntKind.i64 a0); refine (ih0.out _ (HB.out.trans (Below.mono (And.left (by assumption)) (by exact HB.out.size)))).mono ?_; rintro e w2 ⟨rfl, hb2⟩) | (go_at_call_of 29 (Value.int IntKind.i64 a1); refine (ih1.out _ (HB.out.trans (Below.mono (And.left (by assumption)) (by exact HB.out.size)))).mono ?_; rintro e w2 ⟨rfl, hb2⟩))
 all_goals
  go_wp2_with fail
  go_ret
  exact ⟨ret_str (congrArg bs HF.out), HB.out.trans (Below.mono (And.left (by assumption)) HB.out.size)⟩
theorem st_if1 (w : World) (a : Int) (lt : Bool) (nm : ByteArray) (va : Value) (b capb : Nat) (hb : b < w.heap.size) (d capd : Nat) (hd : d < w.heap.size)
  (k0 a0 op0 wd0 n0 : Int) (nm0 : ByteArray) (sl0 : Value) (t0 : List UInt8) (z0 : t0.length ≤ 1000000000000) (c00 : w.cell? ⟨b, 0, none⟩ = some (.int .i64 k0)) (c01 : w.cell? ⟨b, 1, none⟩ = some (.int .i64 a0)) (c02 : w.cell? ⟨b, 2, none⟩ = some (.int .i64 op0)) (c03 : w.cell? ⟨b, 3, none⟩ = some (.int .i64 wd0)) (c04 : w.cell? ⟨b, 4, none⟩ = some (.int .u64 n0)) (c05 : w.cell? ⟨b, 5, none⟩ = some (.string nm0)) (c06 : w.cell? ⟨b, 6, none⟩ = some (sl0))
  (ih0 : Hid (∀ w', Below w.heap.size w w' → Calls Tryz.prog 29 #[.agg #[.int .i64 k0, .int .i64 a0, .int .i64 op0, .int .i64 wd0, .int .u64 n0, .string nm0, sl0]] w' (StrPost t0 w')))
  (k1 a1 : Int) (lt1 : Bool) (nm1 : ByteArray) (vx1 vs1 va1 : Value) (t1 : List UInt8) (z1 : t1.length ≤ 1000000000000) (c10 : w.cell? ⟨d, 0, none⟩ = some (.int .i64 k1)) (c11 : w.cell? ⟨d, 1, none⟩ = some (.int .i64 a1)) (c12 : w.cell? ⟨d, 2, none⟩ = some (.bool lt1)) (c13 : w.cell? ⟨d, 3, none⟩ = some (.string nm1)) (c14 : w.cell? ⟨d, 4, none⟩ = some (vx1)) (c15 : w.cell? ⟨d, 5, none⟩ = some (vs1)) (c16 : w.cell? ⟨d, 6, none⟩ = some (va1))
  (ih1 : Hid (∀ w', Below w.heap.size w w' → Calls Tryz.prog 70 #[.agg #[.int .i64 k1, .int .i64 a1, .bool lt1, .string nm1, vx1, vs1, va1]] w' (StrPost t1 w')))
  (tt : List UInt8) (HT : Hid (tt = [105, 102, 32, 40] ++ t0 ++ [41, 32] ++ t1)) :
  Calls Tryz.prog 70 #[.agg #[.int .i64 3, .int .i64 a, .bool lt, .string nm, .slice (some ⟨b, 0, none⟩) 1 capb, .slice (some ⟨d, 0, none⟩) 1 capd, va]] w (StrPost tt w) := by
 obtain ⟨x1, H1, l1, s1⟩ := add_to (⟨#[105, 102, 32, 40]⟩) (bs t0) [105, 102, 32, 40] t0 rfl rfl (by (try simp only [lnC, lnN] at *); omega)
 obtain ⟨x2, H2, l2, s2⟩ := add_to (bs x1) (⟨#[41, 32]⟩) x1 [41, 32] rfl rfl (by (try simp only [lnC, lnN] at *); omega)
 obtain ⟨x3, H3, l3, s3⟩ := add_to (bs x2) (bs t1) x2 t1 rfl rfl (by (try simp only [lnC, lnN] at *); omega)
 have HF : Hid (x3 = tt) := by show x3 = _; rw [HT.out, H3.out, H2.out, H1.out]
 clear HT H1 l1 H2 l2 H3 l3
 go_enter Tryz.func70, Tryz.ntmps70
 go_wp2_with fail
 generalize hW : w.alloc (.cells #[.int .i64 3, .int .i64 a, .bool lt, .string nm, .slice (some ⟨b, 0, none⟩) 1 capb, .slice (some ⟨d, 0, none⟩) 1 capd, va] 93) = W
 obtain ⟨x0, xx1, xx2, xx3, xx4, xx5, xx6, HB, hc, hlt, hle⟩ := box_facts hW
 have hbW := hle b hb
 have hdW := hle d hd
 rw [← hc b 0 hb] at c00; rw [← hc b 1 hb] at c01; rw [← hc b 2 hb] at c02; rw [← hc b 3 hb] at c03; rw [← hc b 4 hb] at c04; rw [← hc b 5 hb] at c05; rw [← hc b 6 hb] at c06; rw [← hc d 0 hd] at c10; rw [← hc d 1 hd] at c11; rw [← hc d 2 hd] at c12; rw [← hc d 3 hd] at c13; rw [← hc d 4 hd] at c14; rw [← hc d 5 hd] at c15; rw [← hc d 6 hd] at c16
 clear hc hle hW
 go_region_held3 (fun w' => Below W.heap.size W w' ∧ (∀ b' o, b' < W.heap.size → w'.cell? ⟨b', o, none⟩ = W.cell? ⟨b', o, none⟩))
  (first | assumption | exact sees_drew _ | (refine sees_call (by assumption) (by assumption)))
  (first | (go_at_call_of 29 (Value.int IntKind.i64 a0); refine (ih0.out _ (HB.out.trans (Below.mono (And.left (by assumption)) (by exact HB.out.size)))).mono ?_; rintro e w2 ⟨rfl, hb2⟩) | (go_at_call_of 70 (Value.int IntKind.i64 a1); refine (ih1.out _ (HB.out.trans (Below.mono (And.left (by assumption)) (by exact HB.out.size)))).mono ?_; rintro e w2 ⟨rfl, hb2⟩))
 all_goals
  go_wp2_with fail
  go_ret
  exact ⟨ret_str (congrArg bs HF.out), HB.out.trans (Below.mono (And.left (by assumption)) HB.out.size)⟩
theorem st_if2 (w : World) (a : Int) (lt : Bool) (nm : ByteArray) (va : Value) (b capb : Nat) (hb : b < w.heap.size) (d capd : Nat) (hd : d < w.heap.size)
  (k0 a0 op0 wd0 n0 : Int) (nm0 : ByteArray) (sl0 : Value) (t0 : List UInt8) (z0 : t0.length ≤ 1000000000000) (c00 : w.cell? ⟨b, 0, none⟩ = some (.int .i64 k0)) (c01 : w.cell? ⟨b, 1, none⟩ = some (.int .i64 a0)) (c02 : w.cell? ⟨b, 2, none⟩ = some (.int .i64 op0)) (c03 : w.cell? ⟨b, 3, none⟩ = some (.int .i64 wd0)) (c04 : w.cell? ⟨b, 4, none⟩ = some (.int .u64 n0)) (c05 : w.cell? ⟨b, 5, none⟩ = some (.string nm0)) (c06 : w.cell? ⟨b, 6, none⟩ = some (sl0))
  (ih0 : Hid (∀ w', Below w.heap.size w w' → Calls Tryz.prog 29 #[.agg #[.int .i64 k0, .int .i64 a0, .int .i64 op0, .int .i64 wd0, .int .u64 n0, .string nm0, sl0]] w' (StrPost t0 w')))
  (k1 a1 : Int) (lt1 : Bool) (nm1 : ByteArray) (vx1 vs1 va1 : Value) (t1 : List UInt8) (z1 : t1.length ≤ 1000000000000) (c10 : w.cell? ⟨d, 0, none⟩ = some (.int .i64 k1)) (c11 : w.cell? ⟨d, 1, none⟩ = some (.int .i64 a1)) (c12 : w.cell? ⟨d, 2, none⟩ = some (.bool lt1)) (c13 : w.cell? ⟨d, 3, none⟩ = some (.string nm1)) (c14 : w.cell? ⟨d, 4, none⟩ = some (vx1)) (c15 : w.cell? ⟨d, 5, none⟩ = some (vs1)) (c16 : w.cell? ⟨d, 6, none⟩ = some (va1))
  (ih1 : Hid (∀ w', Below w.heap.size w w' → Calls Tryz.prog 70 #[.agg #[.int .i64 k1, .int .i64 a1, .bool lt1, .string nm1, vx1, vs1, va1]] w' (StrPost t1 w')))
  (k2 a2 : Int) (lt2 : Bool) (nm2 : ByteArray) (vx2 vs2 va2 : Value) (t2 : List UInt8) (z2 : t2.length ≤ 1000000000000) (c20 : w.cell? ⟨d, 7, none⟩ = some (.int .i64 k2)) (c21 : w.cell? ⟨d, 8, none⟩ = some (.int .i64 a2)) (c22 : w.cell? ⟨d, 9, none⟩ = some (.bool lt2)) (c23 : w.cell? ⟨d, 10, none⟩ = some (.string nm2)) (c24 : w.cell? ⟨d, 11, none⟩ = some (vx2)) (c25 : w.cell? ⟨d, 12, none⟩ = some (vs2)) (c26 : w.cell? ⟨d, 13, none⟩ = some (va2))
  (ih2 : Hid (∀ w', Below w.heap.size w w' → Calls Tryz.prog 70 #[.agg #[.int .i64 k2, .int .i64 a2, .bool lt2, .string nm2, vx2, vs2, va2]] w' (StrPost t2 w')))
  (tt : List UInt8) (HT : Hid (tt = [105, 102, 32, 40] ++ t0 ++ [41, 32] ++ t1 ++ [32, 101, 108, 115, 101, 32] ++ t2)) :
  Calls Tryz.prog 70 #[.agg #[.int .i64 3, .int .i64 a, .bool lt, .string nm, .slice (some ⟨b, 0, none⟩) 1 capb, .slice (some ⟨d, 0, none⟩) 2 capd, va]] w (StrPost tt w) := by
 obtain ⟨x1, H1, l1, s1⟩ := add_to (⟨#[105, 102, 32, 40]⟩) (bs t0) [105, 102, 32, 40] t0 rfl rfl (by (try simp only [lnC, lnN] at *); omega)
 obtain ⟨x2, H2, l2, s2⟩ := add_to (bs x1) (⟨#[41, 32]⟩) x1 [41, 32] rfl rfl (by (try simp only [lnC, lnN] at *); omega)
 obtain ⟨x3, H3, l3, s3⟩ := add_to (bs x2) (bs t1) x2 t1 rfl rfl (by (try simp only [lnC, lnN] at *); omega)
 obtain ⟨x4, H4, l4, s4⟩ := add_to (bs x3) (⟨#[32, 101, 108, 115, 101, 32]⟩) x3 [32, 101, 108, 115, 101, 32] rfl rfl (by (try simp only [lnC, lnN] at *); omega)
 obtain ⟨x5, H5, l5, s5⟩ := add_to (bs x4) (bs t2) x4 t2 rfl rfl (by (try simp only [lnC, lnN] at *); omega)
 have HF : Hid (x5 = tt) := by show x5 = _; rw [HT.out, H5.out, H4.out, H3.out, H2.out, H1.out]
 clear HT H1 l1 H2 l2 H3 l3 H4 l4 H5 l5
 go_enter Tryz.func70, Tryz.ntmps70
 go_wp2_with fail
 generalize hW : w.alloc (.cells #[.int .i64 3, .int .i64 a, .bool lt, .string nm, .slice (some ⟨b, 0, none⟩) 1 capb, .slice (some ⟨d, 0, none⟩) 2 capd, va] 93) = W
 obtain ⟨x0, xx1, xx2, xx3, xx4, xx5, xx6, HB, hc, hlt, hle⟩ := box_facts hW
 have hbW := hle b hb
 have hdW := hle d hd
 rw [← hc b 0 hb] at c00; rw [← hc b 1 hb] at c01; rw [← hc b 2 hb] at c02; rw [← hc b 3 hb] at c03; rw [← hc b 4 hb] at c04; rw [← hc b 5 hb] at c05; rw [← hc b 6 hb] at c06; rw [← hc d 0 hd] at c10; rw [← hc d 1 hd] at c11; rw [← hc d 2 hd] at c12; rw [← hc d 3 hd] at c13; rw [← hc d 4 hd] at c14; rw [← hc d 5 hd] at c15; rw [← hc d 6 hd] at c16; rw [← hc d 7 hd] at c20; rw [← hc d 8 hd] at c21; rw [← hc d 9 hd] at c22; rw [← hc d 10 hd] at c23; rw [← hc d 11 hd] at c24; rw [← hc d 12 hd] at c25; rw [← hc d 13 hd] at c26
 clear hc hle hW
 go_region_held3 (fun w' => Below W.heap.size W w' ∧ (∀ b' o, b' < W.heap.size → w'.cell? ⟨b', o, none⟩ = W.cell? ⟨b', o, none⟩))
  (first | assumption | exact sees_drew _ | (refine sees_call (by assumption) (by assumption)))
  (first | (go_at_call_of 29 (Value.int IntKind.i64 a0); refine (ih0.out _ (HB.out.trans (Below.mono (And.left (by assumption)) (by exact HB.out.size)))).mono ?_; rintro e w2 ⟨rfl, hb2⟩) | (go_at_call_of 70 (Value.int IntKind.i64 a1); refine (ih1.out _ (HB.out.trans (Below.mono (And.left (by assumption)) (by exact HB.out.size)))).mono ?_; rintro e w2 ⟨rfl, hb2⟩))
 all_goals
  go_wp2_with fail
  refine (ih2.out _ (HB.out.trans (Below.mono (And.left (by assumption)) (by exact HB.out.size)))).mono ?_
  rintro e w9 ⟨rfl, hb9⟩
  have HB9 : Hid (Below w.heap.size w w9) := (HB.out.trans (Below.mono (And.left (by assumption)) (by exact HB.out.size))).trans (hb9.mono ((HB.out.trans (Below.mono (And.left (by assumption)) (by exact HB.out.size)))).size)
  clear hb9
  go_wp2_with fail
  go_ret
  exact ⟨ret_str (congrArg bs HF.out), HB9.out⟩
theorem st_for (w : World) (a : Int) (lt : Bool) (nm : List UInt8) (va : Value) (tl : List UInt8) (zl : tl.length ≤ 1000000000000) (b capb : Nat) (hb : b < w.heap.size) (ihl : Hid (∀ w', Below w.heap.size w w' → Calls Tryz.prog 72 #[.string (bs nm), .slice (some ⟨b, 0, none⟩) 3 capb] w' (StrPost tl w'))) (d capd : Nat) (hd : d < w.heap.size)
  (k1 a1 : Int) (lt1 : Bool) (nm1 : ByteArray) (vx1 vs1 va1 : Value) (t1 : List UInt8) (z1 : t1.length ≤ 1000000000000) (c10 : w.cell? ⟨d, 0, none⟩ = some (.int .i64 k1)) (c11 : w.cell? ⟨d, 1, none⟩ = some (.int .i64 a1)) (c12 : w.cell? ⟨d, 2, none⟩ = some (.bool lt1)) (c13 : w.cell? ⟨d, 3, none⟩ = some (.string nm1)) (c14 : w.cell? ⟨d, 4, none⟩ = some (vx1)) (c15 : w.cell? ⟨d, 5, none⟩ = some (vs1)) (c16 : w.cell? ⟨d, 6, none⟩ = some (va1))
  (ih1 : Hid (∀ w', Below w.heap.size w w' → Calls Tryz.prog 70 #[.agg #[.int .i64 k1, .int .i64 a1, .bool lt1, .string nm1, vx1, vs1, va1]] w' (StrPost t1 w')))
  (tt : List UInt8) (HT : Hid (tt = tl ++ t1)) :
  Calls Tryz.prog 70 #[.agg #[.int .i64 6, .int .i64 a, .bool lt, .string (bs nm), .slice (some ⟨b, 0, none⟩) 3 capb, .slice (some ⟨d, 0, none⟩) 1 capd, va]] w (StrPost tt w) := by
 obtain ⟨x1, H1, l1, s1⟩ := add_to (bs tl) (bs t1) tl t1 rfl rfl (by (try simp only [lnC, lnN] at *); omega)
 have HF : Hid (x1 = tt) := by show x1 = _; rw [HT.out, H1.out]
 clear HT H1 l1
 go_enter Tryz.func70, Tryz.ntmps70
 go_wp2_with fail
 generalize hW : w.alloc (.cells #[.int .i64 6, .int .i64 a, .bool lt, .string (bs nm), .slice (some ⟨b, 0, none⟩) 3 capb, .slice (some ⟨d, 0, none⟩) 1 capd, va] 93) = W
 obtain ⟨x0, xx1, xx2, xx3, xx4, xx5, xx6, HB, hc, hlt, hle⟩ := box_facts hW
 have hbW := hle b hb
 have hdW := hle d hd
 rw [← hc d 0 hd] at c10; rw [← hc d 1 hd] at c11; rw [← hc d 2 hd] at c12; rw [← hc d 3 hd] at c13; rw [← hc d 4 hd] at c14; rw [← hc d 5 hd] at c15; rw [← hc d 6 hd] at c16
 clear hc hle hW
 go_region_held3 (fun w' => Below W.heap.size W w' ∧ (∀ b' o, b' < W.heap.size → w'.cell? ⟨b', o, none⟩ = W.cell? ⟨b', o, none⟩))
  (first | assumption | exact sees_drew _ | (refine sees_call (by assumption) (by assumption)))
  (first | (go_at_call_of 70 (Value.int IntKind.i64 a1); refine (ih1.out _ (HB.out.trans (Below.mono (And.left (by assumption)) (by exact HB.out.size)))).mono ?_; rintro e w2 ⟨rfl, hb2⟩) | (go_at_call 72; refine (ihl.out _ (HB.out.trans (Below.mono (And.left (by assumption)) (by exact HB.out.size)))).mono ?_; rintro e w2 ⟨rfl, hb2⟩))
 all_goals
  go_wp2_with fail
  go_ret
  exact ⟨ret_str (congrArg bs HF.out), HB.out.trans (Below.mono (And.left (by assumption)) HB.out.size)⟩
theorem spaced_take (l : List (List UInt8)) (k : Nat) : (spaced (l.take k)).length ≤ (spaced l).length := by
 unfold spaced
 induction l generalizing k with
 | nil => simp
 | cons x r ih =>
  cases k with
  | zero => simp
  | succ k =>
   have := ih k
   simp only [List.take_succ_cons, List.map_cons, List.flatten_cons, lnA] at this ⊢
   omega
theorem spaced_next (l : List (List UInt8)) (k : Nat) (h : k < l.length) : spaced (l.take (k + 1)) = spaced (l.take k) ++ l[k] ++ [32] := by
 rw [List.take_succ_eq_append_getElem h]
 unfold spaced
 rw [List.map_append, List.flatten_append, List.append_assoc]
 simp only [List.map_cons, List.map_nil, List.flatten_cons, List.flatten_nil, List.append_nil]
theorem st_block (w : World) (a : Int) (lt : Bool) (nm : ByteArray) (vx va : Value) (d cap : Nat) (hd : d < w.heap.size) (ss : List (List Value × List UInt8)) (hlen : ss.length ≤ 2000000000000) (z : (spaced (ss.map (·.2))).length ≤ 1000000000000)
  (hel : Hid (∀ (i : Nat) (x : List Value × List UInt8), ss[i]? = some x → ∃ (k a : Int) (lt : Bool) (nm : ByteArray) (vx vs va : Value), x.1 = [.int .i64 k, .int .i64 a, .bool lt, .string nm, vx, vs, va]))
  (hce : Hid (∀ (i : Nat) (x : List Value × List UInt8), ss[i]? = some x → ∀ (j : Nat) (v : Value), x.1[j]? = some v → w.cell? ⟨d, i * 7 + j, none⟩ = some v))
  (ih : Hid (∀ (i : Nat) (x : List Value × List UInt8), ss[i]? = some x → ∀ w', Below w.heap.size w w' → Calls Tryz.prog 70 #[.agg x.1.toArray] w' (StrPost x.2 w'))) :
  Calls Tryz.prog 70 #[.agg #[.int .i64 2, .int .i64 a, .bool lt, .string nm, vx, .slice (some ⟨d, 0, none⟩) ss.length cap, va]] w (StrPost ([98, 101, 103, 105, 110, 32] ++ spaced (ss.map (·.2)) ++ [101, 110, 100]) w) := by
 go_enter Tryz.func70, Tryz.ntmps70
 go_wp2_with fail
 generalize hW : w.alloc (.cells #[.int .i64 2, .int .i64 a, .bool lt, .string nm, vx, .slice (some ⟨d, 0, none⟩) ss.length cap, va] 93) = W
 obtain ⟨x0, xx1, xx2, xx3, xx4, xx5, xx6, HB, hc, hlt, hle⟩ := box_facts hW
 have HC := hid hc
 have X5 := hid xx5
 clear hc hle hW x0 xx1 xx2 xx3 xx4 xx5 xx6
 go_loopw [3, 4] (fun t i w' => ∃ (k : Nat) (l : List UInt8), k ≤ ss.length ∧ i = .int .i64 k ∧ t = .string (bs l) ∧ Hid (l = [98, 101, 103, 105, 110, 32] ++ spaced ((ss.map (·.2)).take k)) ∧ Hid (Below W.heap.size W w')) (fun _ i _ => ss.length - (intOf i).toNat)
 case atStart => exact ⟨0, [98, 101, 103, 105, 110, 32], Nat.zero_le _, rfl, rfl, rfl, Below.refl _ _⟩
 case round =>
  obtain ⟨k, l, hk, rfl, rfl, HL, HBr⟩ := hrel
  have q5 : wr.cell? ⟨w.heap.size, 5, none⟩ = some (.slice (some ⟨d, 0, none⟩) ss.length cap) := (HBr.out.cell (p := ⟨w.heap.size, 5, none⟩) hlt).trans X5.out
  have hl : l.length ≤ 1000000000006 := by
   rw [HL.out]; simp only [lnA, lnC, lnN]
   have := spaced_take (ss.map (·.2)) k; omega
  by_cases hlt2 : k < ss.length
  ·obtain ⟨x, hx⟩ : ∃ x, ss[k]? = some x := ⟨ss[k], List.getElem?_eq_getElem hlt2⟩
   have hxt : (ss.map (·.2))[k]'(by simpa using hlt2) = x.2 := by
    have : ss[k] = x := by rw [List.getElem?_eq_getElem hlt2] at hx; exact Option.some.inj hx
    simp [this]
   have hnx := spaced_next (ss.map (·.2)) k (by simpa using hlt2)
   have hz1 := spaced_take (ss.map (·.2)) (k + 1)
   rw [hxt] at hnx
   obtain ⟨cs0, t0⟩ := x
   obtain ⟨k0, a0, lt0, nm0, vx0, vs0, va0, hcs⟩ := hel.out k _ hx
   simp only at hcs hnx
   subst hcs
   have hwr : Hid (Below w.heap.size w wr) := HB.out.trans (HBr.out.mono HB.out.size)
   have ce : ∀ (j : Nat) (v : Value), [Value.int .i64 k0, .int .i64 a0, .bool lt0, .string nm0, vx0, vs0, va0][j]? = some v → wr.cell? ⟨d, k * 7 + j, none⟩ = some v := fun j v hv => by
    rw [hwr.out.cell (p := ⟨d, k * 7 + j, none⟩) hd]; exact hce.out k _ hx j v hv
   have c0 : wr.cell? ⟨d, k * 7, none⟩ = _ := ce 0 _ rfl
   have c1 := ce 1 _ rfl
   have c2 := ce 2 _ rfl
   have c3 := ce 3 _ rfl
   have c4 := ce 4 _ rfl
   have c5 := ce 5 _ rfl
   have c6 := ce 6 _ rfl
   have IH : Hid (∀ w', Below w.heap.size w w' → Calls Tryz.prog 70 #[.agg #[.int .i64 k0, .int .i64 a0, .bool lt0, .string nm0, vx0, vs0, va0]] w' (StrPost t0 w')) := ih.out k _ hx
   clear ce hx hxt
   have hzt : t0.length ≤ 1000000000000 := by rw [hnx] at hz1; simp only [lnA] at hz1; omega
   obtain ⟨x1, H1, l1, s1⟩ := add_to (bs l) (bs t0) l t0 rfl rfl (by omega)
   obtain ⟨x2, H2, l2, s2⟩ := add_to (bs x1) ⟨#[32]⟩ x1 [32] rfl rfl (by simp only [lnC, lnN]; omega)
   have HN : Hid (x2 = [98, 101, 103, 105, 110, 32] ++ spaced ((ss.map (·.2)).take (k + 1))) := by show x2 = _; rw [H2.out, H1.out, hnx, HL.out]; simp only [List.append_assoc]
   clear hnx hz1 H1 l1 H2 l2 hl
   go_wp2_with fail
   refine (IH.out _ hwr.out).mono ?_
   rintro e w2 ⟨rfl, hb2⟩
   have hB2 : Hid (Below W.heap.size W w2) := HBr.out.trans (hb2.mono HBr.out.size)
   clear hb2
   go_wp2_with fail
   exact ⟨⟨k + 1, x2, by omega, by go_num, rfl, HN, hB2.out⟩, by simp [intOf]; omega⟩
  ·obtain ⟨x1, H1, l1, s1⟩ := add_to (bs l) ⟨#[101, 110, 100]⟩ l [101, 110, 100] rfl rfl (by simp only [lnC, lnN]; omega)
   have HF : Hid (x1 = [98, 101, 103, 105, 110, 32] ++ spaced (ss.map (·.2)) ++ [101, 110, 100]) := by
    show x1 = _; rw [H1.out, HL.out, List.take_of_length_le (by simp; omega)]
   clear H1 l1 hl
   go_wp2_with fail
   go_ret
   exact ⟨ret_str (congrArg bs HF.out), HB.out.trans (HBr.out.mono HB.out.size)⟩
theorem st_block0 (w : World) (a : Int) (lt : Bool) (nm : ByteArray) (vx va : Value) :
  Calls Tryz.prog 70 #[.agg #[.int .i64 2, .int .i64 a, .bool lt, .string nm, vx, .slice none 0 0, va]] w (StrPost ([98, 101, 103, 105, 110, 32] ++ spaced [] ++ [101, 110, 100]) w) := by
 obtain ⟨x1, H1, l1, s1⟩ := add_to ⟨#[98, 101, 103, 105, 110, 32]⟩ ⟨#[101, 110, 100]⟩ [98, 101, 103, 105, 110, 32] [101, 110, 100] rfl rfl (by simp)
 go_enter Tryz.func70, Tryz.ntmps70
 go_wp2_with fail
 generalize hW : w.alloc (.cells #[.int .i64 2, .int .i64 a, .bool lt, .string nm, vx, .slice none 0 0, va] 93) = W
 obtain ⟨x0, xx1, xx2, xx3, xx4, xx5, xx6, HB, hc, hlt, hle⟩ := box_facts hW
 have X5 := hid xx5
 clear hc hle hW x0 xx1 xx2 xx3 xx4 xx5 xx6
 go_loopw [3, 4] (fun t i w' => i = .int .i64 0 ∧ t = .string ⟨#[98, 101, 103, 105, 110, 32]⟩ ∧ Hid (Below W.heap.size W w')) (fun _ _ _ => 0)
 case atStart => exact ⟨rfl, rfl, Below.refl _ _⟩
 case round =>
  obtain ⟨rfl, rfl, HBr⟩ := hrel
  have q5 : wr.cell? ⟨w.heap.size, 5, none⟩ = some (.slice none 0 0) := (HBr.out.cell (p := ⟨w.heap.size, 5, none⟩) hlt).trans X5.out
  go_wp2_with fail
  go_ret
  exact ⟨ret_str (congrArg bs (by rw [H1.out]; rfl)), HB.out.trans (HBr.out.mono HB.out.size)⟩
end Go.Proofs.YtimmmlnememjiaaGreatDoor
