import Derived.Test.YtlkhmcajedjojaaJ10
namespace Go.Proofs.Ytlkhmcajedjojaa
open Go.RowKit

theorem and_one (f : Nat) (hfl : f < 9223372036854775808) : bits BinOp.and IntKind.i64 (f : Int) 1 = ((f % 2 : Nat) : Int) := by
  have hk : ∀ (n : Int), 0 ≤ n → n < 2 ^ 63 → IntKind.i64.wrap n = n := fun n h0 h1 => wrapI n (by omega) (by omega)
  have h := bits_mask .i64 63 (by decide) hk 1 (by decide) (f : Int) (by omega) (by omega)
  have e7 : (2 : Int) ^ 1 = 2 := by decide
  have e8 : (2 : Int) - 1 = 1 := by decide
  rw [e7, e8] at h
  rw [h]; omega

set_option maxRecDepth 100000 in
set_option maxHeartbeats 8000000 in
theorem wo_slice (w : World) (nb no ab ao al ac vb vo nv cv : Nat) (an : Option Addr) (ln cn : Nat) (width num : Nat) (hw1 : 1 ≤ width) (hw2 : width ≤ 32) (h64 : (num : Int) ≤ 64)  (_k0 : w.cell? ⟨nb, no, none⟩ = some (.int .i64 5)) (_k1 : w.cell? ⟨nb, no + 1, none⟩ = some (.int .i64 (width : Int))) (_k2 : w.cell? ⟨nb, no + 2, none⟩ = some (.int .u64 (num : Int))) (_k3 : w.cell? ⟨nb, no + 3, none⟩ = some (.slice (some ⟨ab, ao, none⟩) al ac)) (i x : Nat) (hx : x < 18446744073709551616) (_hi : (i : Int) < (nv : Int)) (_hl0 : (0 : Int) < (al : Int)) (_c0 : w.cell? ⟨ab, ao, none⟩ = some (.int .i64 (i : Int))) (_v0 : w.cell? ⟨vb, vo + i, none⟩ = some (.int .u64 (x : Int))) :
    Calls Try.prog 38 #[.pointer (some ⟨nb, no, none⟩), .slice an ln cn, .slice (some ⟨vb, vo, none⟩) nv cv] w fun e w' => e = .returned (.int .u64 ((x / 2 ^ num % 2 ^ width : Nat) : Int)) ∧ ∃ q, w' = w.drewN q := by
  have MK : Hid (∀ w, Calls Try.prog 28 #[.int .i64 (width : Int)] w fun e w' => e = .returned (.int .u64 (maskN (width : Int))) ∧ w' = w) := fun w => pmask_int (width : Int) (by simp [widthOk]; omega) w
  go_enter Try.func38, Try.ntmps38
  go_wp2_with fail
  go_quiet ((go_at_call 28; exact Calls.quiet_of_same (MK.out _)))
  go_wp2
  go_ret
  refine ⟨ret_int ?_, _, rfl⟩
  rw [div_cast]
  exact and_mask _ width (Nat.lt_of_le_of_lt (Nat.div_le_self _ _) hx) hw2

set_option maxRecDepth 100000 in
set_option maxHeartbeats 8000000 in
theorem wo_ext (w : World) (nb no ab ao al ac vb vo nv cv : Nat) (an : Option Addr) (ln cn : Nat) (width num : Nat) (hw1 : 1 ≤ width) (hw2 : width ≤ 32)  (_k0 : w.cell? ⟨nb, no, none⟩ = some (.int .i64 6)) (_k1 : w.cell? ⟨nb, no + 1, none⟩ = some (.int .i64 (width : Int))) (_k2 : w.cell? ⟨nb, no + 2, none⟩ = some (.int .u64 (num : Int))) (_k3 : w.cell? ⟨nb, no + 3, none⟩ = some (.slice (some ⟨ab, ao, none⟩) al ac)) (i x : Nat) (hx : x < 18446744073709551616) (_hi : (i : Int) < (nv : Int)) (_hl0 : (0 : Int) < (al : Int)) (_c0 : w.cell? ⟨ab, ao, none⟩ = some (.int .i64 (i : Int))) (_v0 : w.cell? ⟨vb, vo + i, none⟩ = some (.int .u64 (x : Int))) :
    Calls Try.prog 38 #[.pointer (some ⟨nb, no, none⟩), .slice an ln cn, .slice (some ⟨vb, vo, none⟩) nv cv] w fun e w' => e = .returned (.int .u64 ((x % 2 ^ width : Nat) : Int)) ∧ ∃ q, w' = w.drewN q := by
  have MK : Hid (∀ w, Calls Try.prog 28 #[.int .i64 (width : Int)] w fun e w' => e = .returned (.int .u64 (maskN (width : Int))) ∧ w' = w) := fun w => pmask_int (width : Int) (by simp [widthOk]; omega) w
  go_enter Try.func38, Try.ntmps38
  go_wp2_with (go_at_call 28; refine (MK.out _).mono ?_; rintro e w' ⟨rfl, hw'⟩; subst w')
  go_ret
  exact ⟨ret_int (and_mask x width hx hw2), 0, rfl⟩

set_option maxRecDepth 100000 in
set_option maxHeartbeats 8000000 in
theorem wo_not (w : World) (nb no ab ao al ac vb vo nv cv : Nat) (an : Option Addr) (ln cn : Nat) (width num : Nat) (hw1 : 1 ≤ width) (hw2 : width ≤ 32)  (_k0 : w.cell? ⟨nb, no, none⟩ = some (.int .i64 8)) (_k1 : w.cell? ⟨nb, no + 1, none⟩ = some (.int .i64 (width : Int))) (_k2 : w.cell? ⟨nb, no + 2, none⟩ = some (.int .u64 (num : Int))) (_k3 : w.cell? ⟨nb, no + 3, none⟩ = some (.slice (some ⟨ab, ao, none⟩) al ac)) (i x : Nat) (hx : x < 18446744073709551616) (_hi : (i : Int) < (nv : Int)) (_hl0 : (0 : Int) < (al : Int)) (_c0 : w.cell? ⟨ab, ao, none⟩ = some (.int .i64 (i : Int))) (_v0 : w.cell? ⟨vb, vo + i, none⟩ = some (.int .u64 (x : Int))) :
    Calls Try.prog 38 #[.pointer (some ⟨nb, no, none⟩), .slice an ln cn, .slice (some ⟨vb, vo, none⟩) nv cv] w fun e w' => e = .returned (.int .u64 (((18446744073709551615 ^^^ x) % 2 ^ width : Nat) : Int)) ∧ ∃ q, w' = w.drewN q := by
  have MK : Hid (∀ w, Calls Try.prog 28 #[.int .i64 (width : Int)] w fun e w' => e = .returned (.int .u64 (maskN (width : Int))) ∧ w' = w) := fun w => pmask_int (width : Int) (by simp [widthOk]; omega) w
  go_enter Try.func38, Try.ntmps38
  go_wp2_with (go_at_call 28; refine (MK.out _).mono ?_; rintro e w' ⟨rfl, hw'⟩; subst w')
  go_ret
  refine ⟨ret_int ?_, 0, rfl⟩
  rw [show IntKind.u64.max = ((18446744073709551615 : Nat) : Int) from rfl, xor_bits _ _ (by decide) hx]
  exact and_mask _ width (xor_lt _ _ (by decide) hx) hw2

set_option maxRecDepth 100000 in
set_option maxHeartbeats 8000000 in
theorem wo_any (w : World) (nb no ab ao al ac vb vo nv cv : Nat) (an : Option Addr) (ln cn : Nat) (width num : Nat)  (_k0 : w.cell? ⟨nb, no, none⟩ = some (.int .i64 10)) (_k1 : w.cell? ⟨nb, no + 1, none⟩ = some (.int .i64 (width : Int))) (_k2 : w.cell? ⟨nb, no + 2, none⟩ = some (.int .u64 (num : Int))) (_k3 : w.cell? ⟨nb, no + 3, none⟩ = some (.slice (some ⟨ab, ao, none⟩) al ac)) (i x : Nat) (_hi : (i : Int) < (nv : Int)) (_hl0 : (0 : Int) < (al : Int)) (_c0 : w.cell? ⟨ab, ao, none⟩ = some (.int .i64 (i : Int))) (_v0 : w.cell? ⟨vb, vo + i, none⟩ = some (.int .u64 (x : Int))) :
    Calls Try.prog 38 #[.pointer (some ⟨nb, no, none⟩), .slice an ln cn, .slice (some ⟨vb, vo, none⟩) nv cv] w fun e w' => e = .returned (.int .u64 ((bitOf (decide (x ≠ 0)) : Nat) : Int)) ∧ ∃ q, w' = w.drewN q := by
  have ON : Hid (∀ b w, Calls Try.prog 41 #[.bool b] w fun e w' => e = .returned (.int .u64 ((bitOf b : Nat) : Int)) ∧ w' = w) := one_any
  go_enter Try.func38, Try.ntmps38
  go_wp2_with (go_at_call 41; refine (ON.out _ _).mono ?_; rintro e w' ⟨rfl, hw'⟩; subst w')
  go_ret
  exact ⟨ret_int (by congr 2; rw [Bool.eq_iff_iff]; simp), 0, rfl⟩

set_option maxRecDepth 100000 in
set_option maxHeartbeats 8000000 in
theorem wo_odd (w : World) (nb no ab ao al ac vb vo nv cv : Nat) (an : Option Addr) (ln cn : Nat) (width num : Nat)  (_k0 : w.cell? ⟨nb, no, none⟩ = some (.int .i64 11)) (_k1 : w.cell? ⟨nb, no + 1, none⟩ = some (.int .i64 (width : Int))) (_k2 : w.cell? ⟨nb, no + 2, none⟩ = some (.int .u64 (num : Int))) (_k3 : w.cell? ⟨nb, no + 3, none⟩ = some (.slice (some ⟨ab, ao, none⟩) al ac)) (i x : Nat) (hx : x < 18446744073709551616) (_hi : (i : Int) < (nv : Int)) (_hl0 : (0 : Int) < (al : Int)) (_c0 : w.cell? ⟨ab, ao, none⟩ = some (.int .i64 (i : Int))) (_v0 : w.cell? ⟨vb, vo + i, none⟩ = some (.int .u64 (x : Int))) :
    Calls Try.prog 38 #[.pointer (some ⟨nb, no, none⟩), .slice an ln cn, .slice (some ⟨vb, vo, none⟩) nv cv] w fun e w' => e = .returned (.int .u64 ((oddN 64 x : Nat) : Int)) ∧ ∃ q, w' = w.drewN q := by
  have OC : Hid (∀ w, Calls Try.prog 42 #[.int .u64 (x : Int)] w fun e w' => e = .returned (.int .i64 (((bitsD 64 x).sum : Nat) : Int)) ∧ w' = w) := fun w => ones_any x hx w
  have HO := hidden (odd_bits 64 x)
  have hs : (bitsD 64 x).sum ≤ 64 := by
    have : ∀ (l : List Nat), (∀ d, d ∈ l → d ≤ 1) → l.sum ≤ l.length := by
      intro l
      induction l with
      | nil => simp
      | cons a r ih => intro h; have h1 := h a (by simp); have h2 := ih (fun d hd => h d (by simp [hd])); simp only [List.sum_cons, List.length_cons]; omega
    have h := this _ (bits_lt 64 x)
    rw [bits_length] at h; exact h
  rw [HO.out]
  clear HO
  generalize (bitsD 64 x).sum = m at *
  have e1 : bits BinOp.and IntKind.i64 (m : Int) 1 = ((m % 2 : Nat) : Int) := and_one m (by omega)
  have e2 : IntKind.u64.wrap ((m : Int) % 2) = (m : Int) % 2 := wrapU _ (by omega) (by omega)
  go_enter Try.func38, Try.ntmps38
  go_wp2_with (go_at_call 42; refine (OC.out _).mono ?_; rintro e w' ⟨rfl, hw'⟩; subst w')
  go_ret
  exact ⟨ret_int (by simp), 0, rfl⟩

set_option maxRecDepth 100000 in
set_option maxHeartbeats 8000000 in
theorem wo_if1 (w : World) (nb no ab ao al ac vb vo nv cv : Nat) (an : Option Addr) (ln cn : Nat) (width num : Nat)  (_k0 : w.cell? ⟨nb, no, none⟩ = some (.int .i64 22)) (_k1 : w.cell? ⟨nb, no + 1, none⟩ = some (.int .i64 (width : Int))) (_k2 : w.cell? ⟨nb, no + 2, none⟩ = some (.int .u64 (num : Int))) (_k3 : w.cell? ⟨nb, no + 3, none⟩ = some (.slice (some ⟨ab, ao, none⟩) al ac)) (i x : Nat) (_hi : (i : Int) < (nv : Int)) (_hl0 : (0 : Int) < (al : Int)) (_c0 : w.cell? ⟨ab, ao, none⟩ = some (.int .i64 (i : Int))) (_v0 : w.cell? ⟨vb, vo + i, none⟩ = some (.int .u64 (x : Int))) (j y : Nat) (_hj : (j : Int) < (nv : Int)) (_hl1 : (1 : Int) < (al : Int)) (_c1 : w.cell? ⟨ab, ao + 1, none⟩ = some (.int .i64 (j : Int))) (_v1 : w.cell? ⟨vb, vo + j, none⟩ = some (.int .u64 (y : Int))) (hxz : (x : Int) ≠ 0) :
    Calls Try.prog 38 #[.pointer (some ⟨nb, no, none⟩), .slice an ln cn, .slice (some ⟨vb, vo, none⟩) nv cv] w fun e w' => e = .returned (.int .u64 ((y : Nat) : Int)) ∧ ∃ q, w' = w.drewN q := by
  go_enter Try.func38, Try.ntmps38
  go_wp2_with fail
  go_ret
  exact ⟨rfl, 0, rfl⟩

set_option maxRecDepth 100000 in
set_option maxHeartbeats 8000000 in
theorem wo_if0 (w : World) (nb no ab ao al ac vb vo nv cv : Nat) (an : Option Addr) (ln cn : Nat) (width num : Nat)  (_k0 : w.cell? ⟨nb, no, none⟩ = some (.int .i64 22)) (_k1 : w.cell? ⟨nb, no + 1, none⟩ = some (.int .i64 (width : Int))) (_k2 : w.cell? ⟨nb, no + 2, none⟩ = some (.int .u64 (num : Int))) (_k3 : w.cell? ⟨nb, no + 3, none⟩ = some (.slice (some ⟨ab, ao, none⟩) al ac)) (i x : Nat) (_hi : (i : Int) < (nv : Int)) (_hl0 : (0 : Int) < (al : Int)) (_c0 : w.cell? ⟨ab, ao, none⟩ = some (.int .i64 (i : Int))) (_v0 : w.cell? ⟨vb, vo + i, none⟩ = some (.int .u64 (x : Int))) (l z : Nat) (_hl : (l : Int) < (nv : Int)) (_hl2 : (2 : Int) < (al : Int)) (_c2 : w.cell? ⟨ab, ao + 2, none⟩ = some (.int .i64 (l : Int))) (_v2 : w.cell? ⟨vb, vo + l, none⟩ = some (.int .u64 (z : Int))) (hxz : x = 0) :
    Calls Try.prog 38 #[.pointer (some ⟨nb, no, none⟩), .slice an ln cn, .slice (some ⟨vb, vo, none⟩) nv cv] w fun e w' => e = .returned (.int .u64 ((z : Nat) : Int)) ∧ ∃ q, w' = w.drewN q := by
  subst hxz
  go_enter Try.func38, Try.ntmps38
  go_wp2_with fail
  go_ret
  exact ⟨rfl, 0, rfl⟩

end Go.Proofs.Ytlkhmcajedjojaa
