import Derived.Test.YtlkhmcajedjojaaJ09
namespace Go.Proofs.Ytlkhmcajedjojaa
open Go.RowKit

set_option maxRecDepth 100000 in
set_option maxHeartbeats 8000000 in
theorem op_num (w : World) (width : Nat) (hw1 : 1 ≤ width) (hw2 : width ≤ 32) (num : Nat) (aa : Option Addr) (n ca : Nat) (aw : Option Addr) (nw cw : Nat) (hx : num < 18446744073709551616)  :
    Calls Try.prog 39 #[.int .i64 1, .int .i64 width, .int .u64 num, .slice aa n ca, .slice aw nw cw] w fun e w' => e = .returned (.int .u64 ((num % 2 ^ width : Nat) : Int)) ∧ ∃ q, w' = w.drewN q := by
  have MK : Hid (∀ w, Calls Try.prog 19 #[.int .i64 (width : Int)] w fun e w' => e = .returned (.int .u64 (maskN (width : Int))) ∧ w' = w) := fun w => mask_int (width : Int) (by simp [widthOk]; omega) w
  go_enter Try.func39, Try.ntmps39
  go_wp2_with (go_at_call 19; refine (MK.out _).mono ?_; rintro e w' ⟨rfl, hw'⟩; subst w')
  go_ret
  exact ⟨ret_int (and_mask num width hx hw2), 0, rfl⟩

set_option maxRecDepth 100000 in
set_option maxHeartbeats 8000000 in
theorem op_ext (w : World) (width : Nat) (hw1 : 1 ≤ width) (hw2 : width ≤ 32) (num : Nat) (ab ao n ca : Nat) (aw : Option Addr) (nw cw : Nat) (x : Nat) (hx : x < 18446744073709551616) (hn : (0 : Int) < (n : Int)) (c0 : w.cell? ⟨ab, ao, none⟩ = some (.int .u64 (x : Int))) :
    Calls Try.prog 39 #[.int .i64 6, .int .i64 width, .int .u64 num, .slice (some ⟨ab, ao, none⟩) n ca, .slice aw nw cw] w fun e w' => e = .returned (.int .u64 ((x % 2 ^ width : Nat) : Int)) ∧ ∃ q, w' = w.drewN q := by
  have MK : Hid (∀ w, Calls Try.prog 19 #[.int .i64 (width : Int)] w fun e w' => e = .returned (.int .u64 (maskN (width : Int))) ∧ w' = w) := fun w => mask_int (width : Int) (by simp [widthOk]; omega) w
  go_enter Try.func39, Try.ntmps39
  go_wp2_with (go_at_call 19; refine (MK.out _).mono ?_; rintro e w' ⟨rfl, hw'⟩; subst w')
  go_ret
  exact ⟨ret_int (and_mask x width hx hw2), 0, rfl⟩

set_option maxRecDepth 100000 in
set_option maxHeartbeats 8000000 in
theorem op_any (w : World) (width : Nat) (hw1 : 1 ≤ width) (hw2 : width ≤ 32) (num : Nat) (ab ao n ca : Nat) (aw : Option Addr) (nw cw : Nat) (x : Nat) (hn : (0 : Int) < (n : Int)) (c0 : w.cell? ⟨ab, ao, none⟩ = some (.int .u64 (x : Int))) :
    Calls Try.prog 39 #[.int .i64 10, .int .i64 width, .int .u64 num, .slice (some ⟨ab, ao, none⟩) n ca, .slice aw nw cw] w fun e w' => e = .returned (.int .u64 ((bitOf (decide (x ≠ 0)) : Nat) : Int)) ∧ ∃ q, w' = w.drewN q := by
  have MK : Hid (∀ w, Calls Try.prog 19 #[.int .i64 (width : Int)] w fun e w' => e = .returned (.int .u64 (maskN (width : Int))) ∧ w' = w) := fun w => mask_int (width : Int) (by simp [widthOk]; omega) w
  have TR : Hid (∀ b w, Calls Try.prog 44 #[.bool b] w fun e w' => e = .returned (.int .u64 ((bitOf b : Nat) : Int)) ∧ w' = w) := truth_any
  go_enter Try.func39, Try.ntmps39
  go_wp2_with (first | (go_at_call 19; refine (MK.out _).mono ?_; rintro e w' ⟨rfl, hw'⟩; subst w') | (go_at_call 44; refine (TR.out _ _).mono ?_; rintro e w' ⟨rfl, rfl⟩))
  go_ret
  exact ⟨ret_int (by congr 2; rw [Bool.eq_iff_iff]; simp), 0, rfl⟩

set_option maxRecDepth 100000 in
set_option maxHeartbeats 8000000 in
theorem op_and (w : World) (width : Nat) (hw1 : 1 ≤ width) (hw2 : width ≤ 32) (num : Nat) (ab ao n ca : Nat) (aw : Option Addr) (nw cw : Nat) (x y : Nat) (hx : x < 18446744073709551616) (hy : y < 18446744073709551616) (hn : (1 : Int) < (n : Int)) (c0 : w.cell? ⟨ab, ao, none⟩ = some (.int .u64 (x : Int))) (c1 : w.cell? ⟨ab, ao + 1, none⟩ = some (.int .u64 (y : Int))) :
    Calls Try.prog 39 #[.int .i64 12, .int .i64 width, .int .u64 num, .slice (some ⟨ab, ao, none⟩) n ca, .slice aw nw cw] w fun e w' => e = .returned (.int .u64 ((x &&& y : Nat) : Int)) ∧ ∃ q, w' = w.drewN q := by
  have MK : Hid (∀ w, Calls Try.prog 19 #[.int .i64 (width : Int)] w fun e w' => e = .returned (.int .u64 (maskN (width : Int))) ∧ w' = w) := fun w => mask_int (width : Int) (by simp [widthOk]; omega) w
  go_enter Try.func39, Try.ntmps39
  go_wp2_with (go_at_call 19; refine (MK.out _).mono ?_; rintro e w' ⟨rfl, hw'⟩; subst w')
  go_quiet (fail)
  go_wp2
  go_ret
  exact ⟨ret_int (and_bits x y hx hy), _, rfl⟩

set_option maxRecDepth 100000 in
set_option maxHeartbeats 8000000 in
theorem op_or (w : World) (width : Nat) (hw1 : 1 ≤ width) (hw2 : width ≤ 32) (num : Nat) (ab ao n ca : Nat) (aw : Option Addr) (nw cw : Nat) (x y : Nat) (hx : x < 18446744073709551616) (hy : y < 18446744073709551616) (hn : (1 : Int) < (n : Int)) (c0 : w.cell? ⟨ab, ao, none⟩ = some (.int .u64 (x : Int))) (c1 : w.cell? ⟨ab, ao + 1, none⟩ = some (.int .u64 (y : Int))) :
    Calls Try.prog 39 #[.int .i64 13, .int .i64 width, .int .u64 num, .slice (some ⟨ab, ao, none⟩) n ca, .slice aw nw cw] w fun e w' => e = .returned (.int .u64 ((x ||| y : Nat) : Int)) ∧ ∃ q, w' = w.drewN q := by
  have MK : Hid (∀ w, Calls Try.prog 19 #[.int .i64 (width : Int)] w fun e w' => e = .returned (.int .u64 (maskN (width : Int))) ∧ w' = w) := fun w => mask_int (width : Int) (by simp [widthOk]; omega) w
  go_enter Try.func39, Try.ntmps39
  go_wp2_with (go_at_call 19; refine (MK.out _).mono ?_; rintro e w' ⟨rfl, hw'⟩; subst w')
  go_quiet (fail)
  go_wp2
  go_ret
  exact ⟨ret_int (or_bits x y hx hy), _, rfl⟩

set_option maxRecDepth 100000 in
set_option maxHeartbeats 8000000 in
theorem op_xor (w : World) (width : Nat) (hw1 : 1 ≤ width) (hw2 : width ≤ 32) (num : Nat) (ab ao n ca : Nat) (aw : Option Addr) (nw cw : Nat) (x y : Nat) (hx : x < 18446744073709551616) (hy : y < 18446744073709551616) (hn : (1 : Int) < (n : Int)) (c0 : w.cell? ⟨ab, ao, none⟩ = some (.int .u64 (x : Int))) (c1 : w.cell? ⟨ab, ao + 1, none⟩ = some (.int .u64 (y : Int))) :
    Calls Try.prog 39 #[.int .i64 14, .int .i64 width, .int .u64 num, .slice (some ⟨ab, ao, none⟩) n ca, .slice aw nw cw] w fun e w' => e = .returned (.int .u64 ((x ^^^ y : Nat) : Int)) ∧ ∃ q, w' = w.drewN q := by
  have MK : Hid (∀ w, Calls Try.prog 19 #[.int .i64 (width : Int)] w fun e w' => e = .returned (.int .u64 (maskN (width : Int))) ∧ w' = w) := fun w => mask_int (width : Int) (by simp [widthOk]; omega) w
  go_enter Try.func39, Try.ntmps39
  go_wp2_with (go_at_call 19; refine (MK.out _).mono ?_; rintro e w' ⟨rfl, hw'⟩; subst w')
  go_quiet (fail)
  go_wp2
  go_ret
  exact ⟨ret_int (xor_bits x y hx hy), _, rfl⟩

set_option maxRecDepth 100000 in
set_option maxHeartbeats 8000000 in
theorem op_add (w : World) (width : Nat) (hw1 : 1 ≤ width) (hw2 : width ≤ 32) (num : Nat) (ab ao n ca : Nat) (aw : Option Addr) (nw cw : Nat) (x y : Nat) (hn : (1 : Int) < (n : Int)) (c0 : w.cell? ⟨ab, ao, none⟩ = some (.int .u64 (x : Int))) (c1 : w.cell? ⟨ab, ao + 1, none⟩ = some (.int .u64 (y : Int))) :
    Calls Try.prog 39 #[.int .i64 15, .int .i64 width, .int .u64 num, .slice (some ⟨ab, ao, none⟩) n ca, .slice aw nw cw] w fun e w' => e = .returned (.int .u64 (((x + y) % 18446744073709551616 % 2 ^ width : Nat) : Int)) ∧ ∃ q, w' = w.drewN q := by
  have MK : Hid (∀ w, Calls Try.prog 19 #[.int .i64 (width : Int)] w fun e w' => e = .returned (.int .u64 (maskN (width : Int))) ∧ w' = w) := fun w => mask_int (width : Int) (by simp [widthOk]; omega) w
  go_enter Try.func39, Try.ntmps39
  go_wp2_with (go_at_call 19; refine (MK.out _).mono ?_; rintro e w' ⟨rfl, hw'⟩; subst w')
  go_quiet (fail)
  go_wp2
  go_ret
  exact ⟨ret_int (by rw [add_wrap]; exact and_mask _ width (Nat.mod_lt _ (by decide)) hw2), _, rfl⟩

set_option maxRecDepth 100000 in
set_option maxHeartbeats 8000000 in
theorem op_sub (w : World) (width : Nat) (hw1 : 1 ≤ width) (hw2 : width ≤ 32) (num : Nat) (ab ao n ca : Nat) (aw : Option Addr) (nw cw : Nat) (x y : Nat) (hy : y < 18446744073709551616) (hn : (1 : Int) < (n : Int)) (c0 : w.cell? ⟨ab, ao, none⟩ = some (.int .u64 (x : Int))) (c1 : w.cell? ⟨ab, ao + 1, none⟩ = some (.int .u64 (y : Int))) :
    Calls Try.prog 39 #[.int .i64 16, .int .i64 width, .int .u64 num, .slice (some ⟨ab, ao, none⟩) n ca, .slice aw nw cw] w fun e w' => e = .returned (.int .u64 (((x + (18446744073709551616 - y)) % 18446744073709551616 % 2 ^ width : Nat) : Int)) ∧ ∃ q, w' = w.drewN q := by
  have MK : Hid (∀ w, Calls Try.prog 19 #[.int .i64 (width : Int)] w fun e w' => e = .returned (.int .u64 (maskN (width : Int))) ∧ w' = w) := fun w => mask_int (width : Int) (by simp [widthOk]; omega) w
  go_enter Try.func39, Try.ntmps39
  go_wp2_with (go_at_call 19; refine (MK.out _).mono ?_; rintro e w' ⟨rfl, hw'⟩; subst w')
  go_quiet (fail)
  go_wp2
  go_ret
  exact ⟨ret_int (by rw [sub_wrap _ _ hy]; exact and_mask _ width (Nat.mod_lt _ (by decide)) hw2), _, rfl⟩

set_option maxRecDepth 100000 in
set_option maxHeartbeats 8000000 in
theorem op_mul (w : World) (width : Nat) (hw1 : 1 ≤ width) (hw2 : width ≤ 32) (num : Nat) (ab ao n ca : Nat) (aw : Option Addr) (nw cw : Nat) (x y : Nat) (hn : (1 : Int) < (n : Int)) (c0 : w.cell? ⟨ab, ao, none⟩ = some (.int .u64 (x : Int))) (c1 : w.cell? ⟨ab, ao + 1, none⟩ = some (.int .u64 (y : Int))) :
    Calls Try.prog 39 #[.int .i64 17, .int .i64 width, .int .u64 num, .slice (some ⟨ab, ao, none⟩) n ca, .slice aw nw cw] w fun e w' => e = .returned (.int .u64 (((x * y) % 18446744073709551616 % 2 ^ width : Nat) : Int)) ∧ ∃ q, w' = w.drewN q := by
  have MK : Hid (∀ w, Calls Try.prog 19 #[.int .i64 (width : Int)] w fun e w' => e = .returned (.int .u64 (maskN (width : Int))) ∧ w' = w) := fun w => mask_int (width : Int) (by simp [widthOk]; omega) w
  go_enter Try.func39, Try.ntmps39
  go_wp2_with (go_at_call 19; refine (MK.out _).mono ?_; rintro e w' ⟨rfl, hw'⟩; subst w')
  go_quiet (fail)
  go_wp2
  go_ret
  exact ⟨ret_int (by rw [mul_wrap]; exact and_mask _ width (Nat.mod_lt _ (by decide)) hw2), _, rfl⟩

set_option maxRecDepth 100000 in
set_option maxHeartbeats 8000000 in
theorem op_not (w : World) (width : Nat) (hw1 : 1 ≤ width) (hw2 : width ≤ 32) (num : Nat) (ab ao n ca : Nat) (aw : Option Addr) (nw cw : Nat) (x : Nat) (hx : x < 18446744073709551616) (hn : (0 : Int) < (n : Int)) (c0 : w.cell? ⟨ab, ao, none⟩ = some (.int .u64 (x : Int))) :
    Calls Try.prog 39 #[.int .i64 8, .int .i64 width, .int .u64 num, .slice (some ⟨ab, ao, none⟩) n ca, .slice aw nw cw] w fun e w' => e = .returned (.int .u64 (((18446744073709551615 ^^^ x) % 2 ^ width : Nat) : Int)) ∧ ∃ q, w' = w.drewN q := by
  have MK : Hid (∀ w, Calls Try.prog 19 #[.int .i64 (width : Int)] w fun e w' => e = .returned (.int .u64 (maskN (width : Int))) ∧ w' = w) := fun w => mask_int (width : Int) (by simp [widthOk]; omega) w
  go_enter Try.func39, Try.ntmps39
  go_wp2_with (go_at_call 19; refine (MK.out _).mono ?_; rintro e w' ⟨rfl, hw'⟩; subst w')
  go_ret
  refine ⟨ret_int ?_, 0, rfl⟩
  rw [show IntKind.u64.max = ((18446744073709551615 : Nat) : Int) from rfl, xor_bits _ _ (by decide) hx]
  exact and_mask _ width (xor_lt _ _ (by decide) hx) hw2

set_option maxRecDepth 100000 in
set_option maxHeartbeats 8000000 in
theorem op_slice (w : World) (width : Nat) (hw1 : 1 ≤ width) (hw2 : width ≤ 32) (num : Nat) (ab ao n ca : Nat) (aw : Option Addr) (nw cw : Nat) (x : Nat) (hx : x < 18446744073709551616) (hn : (0 : Int) < (n : Int)) (h64 : (num : Int) ≤ 64) (c0 : w.cell? ⟨ab, ao, none⟩ = some (.int .u64 (x : Int))) :
    Calls Try.prog 39 #[.int .i64 5, .int .i64 width, .int .u64 num, .slice (some ⟨ab, ao, none⟩) n ca, .slice aw nw cw] w fun e w' => e = .returned (.int .u64 ((x / 2 ^ num % 2 ^ width : Nat) : Int)) ∧ ∃ q, w' = w.drewN q := by
  have MK : Hid (∀ w, Calls Try.prog 19 #[.int .i64 (width : Int)] w fun e w' => e = .returned (.int .u64 (maskN (width : Int))) ∧ w' = w) := fun w => mask_int (width : Int) (by simp [widthOk]; omega) w
  go_enter Try.func39, Try.ntmps39
  go_wp2_with (go_at_call 19; refine (MK.out _).mono ?_; rintro e w' ⟨rfl, hw'⟩; subst w')
  go_ret
  refine ⟨ret_int ?_, 0, rfl⟩
  rw [div_cast]
  exact and_mask _ width (Nat.lt_of_le_of_lt (Nat.div_le_self _ _) hx) hw2

set_option maxRecDepth 100000 in
set_option maxHeartbeats 8000000 in
theorem op_if1 (w : World) (width : Nat) (hw1 : 1 ≤ width) (hw2 : width ≤ 32) (num : Nat) (ab ao n ca : Nat) (aw : Option Addr) (nw cw : Nat) (x y : Nat) (hx : (x : Int) ≠ 0) (hn : (1 : Int) < (n : Int)) (c0 : w.cell? ⟨ab, ao, none⟩ = some (.int .u64 (x : Int))) (c1 : w.cell? ⟨ab, ao + 1, none⟩ = some (.int .u64 (y : Int))) :
    Calls Try.prog 39 #[.int .i64 22, .int .i64 width, .int .u64 num, .slice (some ⟨ab, ao, none⟩) n ca, .slice aw nw cw] w fun e w' => e = .returned (.int .u64 ((y : Nat) : Int)) ∧ ∃ q, w' = w.drewN q := by
  have MK : Hid (∀ w, Calls Try.prog 19 #[.int .i64 (width : Int)] w fun e w' => e = .returned (.int .u64 (maskN (width : Int))) ∧ w' = w) := fun w => mask_int (width : Int) (by simp [widthOk]; omega) w
  go_enter Try.func39, Try.ntmps39
  go_wp2_with (go_at_call 19; refine (MK.out _).mono ?_; rintro e w' ⟨rfl, hw'⟩; subst w')
  go_ret
  exact ⟨rfl, 0, rfl⟩

set_option maxRecDepth 100000 in
set_option maxHeartbeats 8000000 in
theorem op_if0 (w : World) (width : Nat) (hw1 : 1 ≤ width) (hw2 : width ≤ 32) (num : Nat) (ab ao n ca : Nat) (aw : Option Addr) (nw cw : Nat) (x y : Nat) (hx : (x : Int) = 0) (hn : (2 : Int) < (n : Int)) (c0 : w.cell? ⟨ab, ao, none⟩ = some (.int .u64 (x : Int))) (c1 : w.cell? ⟨ab, ao + 2, none⟩ = some (.int .u64 (y : Int))) :
    Calls Try.prog 39 #[.int .i64 22, .int .i64 width, .int .u64 num, .slice (some ⟨ab, ao, none⟩) n ca, .slice aw nw cw] w fun e w' => e = .returned (.int .u64 ((y : Nat) : Int)) ∧ ∃ q, w' = w.drewN q := by
  have MK : Hid (∀ w, Calls Try.prog 19 #[.int .i64 (width : Int)] w fun e w' => e = .returned (.int .u64 (maskN (width : Int))) ∧ w' = w) := fun w => mask_int (width : Int) (by simp [widthOk]; omega) w
  rw [hx] at c0
  go_enter Try.func39, Try.ntmps39
  go_wp2_with (go_at_call 19; refine (MK.out _).mono ?_; rintro e w' ⟨rfl, hw'⟩; subst w')
  go_ret
  exact ⟨rfl, 0, rfl⟩

set_option maxRecDepth 100000 in
set_option maxHeartbeats 8000000 in
theorem op_eq (w : World) (width : Nat) (hw1 : 1 ≤ width) (hw2 : width ≤ 32) (num : Nat) (ab ao n ca : Nat) (aw : Option Addr) (nw cw : Nat) (x y : Nat) (hn : (1 : Int) < (n : Int)) (c0 : w.cell? ⟨ab, ao, none⟩ = some (.int .u64 (x : Int))) (c1 : w.cell? ⟨ab, ao + 1, none⟩ = some (.int .u64 (y : Int))) :
    Calls Try.prog 39 #[.int .i64 20, .int .i64 width, .int .u64 num, .slice (some ⟨ab, ao, none⟩) n ca, .slice aw nw cw] w fun e w' => e = .returned (.int .u64 ((bitOf (decide (x = y)) : Nat) : Int)) ∧ ∃ q, w' = w.drewN q := by
  have MK : Hid (∀ w, Calls Try.prog 19 #[.int .i64 (width : Int)] w fun e w' => e = .returned (.int .u64 (maskN (width : Int))) ∧ w' = w) := fun w => mask_int (width : Int) (by simp [widthOk]; omega) w
  have TR : Hid (∀ b w, Calls Try.prog 44 #[.bool b] w fun e w' => e = .returned (.int .u64 ((bitOf b : Nat) : Int)) ∧ w' = w) := truth_any
  go_enter Try.func39, Try.ntmps39
  go_wp2_with (go_at_call 19; refine (MK.out _).mono ?_; rintro e w' ⟨rfl, hw'⟩; subst w')
  go_quiet ((go_at_call 44; exact Calls.quiet_of_same (TR.out _ _)))
  go_wp2
  go_ret
  exact ⟨ret_int (by first | rfl | (congr 2; done) | (congr 2; rw [Bool.eq_iff_iff]; first | (simp; done) | (simp; omega))), _, rfl⟩

set_option maxRecDepth 100000 in
set_option maxHeartbeats 8000000 in
theorem op_lt (w : World) (width : Nat) (hw1 : 1 ≤ width) (hw2 : width ≤ 32) (num : Nat) (ab ao n ca : Nat) (aw : Option Addr) (nw cw : Nat) (x y : Nat) (hn : (1 : Int) < (n : Int)) (c0 : w.cell? ⟨ab, ao, none⟩ = some (.int .u64 (x : Int))) (c1 : w.cell? ⟨ab, ao + 1, none⟩ = some (.int .u64 (y : Int))) :
    Calls Try.prog 39 #[.int .i64 21, .int .i64 width, .int .u64 num, .slice (some ⟨ab, ao, none⟩) n ca, .slice aw nw cw] w fun e w' => e = .returned (.int .u64 ((bitOf (decide (x < y)) : Nat) : Int)) ∧ ∃ q, w' = w.drewN q := by
  have MK : Hid (∀ w, Calls Try.prog 19 #[.int .i64 (width : Int)] w fun e w' => e = .returned (.int .u64 (maskN (width : Int))) ∧ w' = w) := fun w => mask_int (width : Int) (by simp [widthOk]; omega) w
  have TR : Hid (∀ b w, Calls Try.prog 44 #[.bool b] w fun e w' => e = .returned (.int .u64 ((bitOf b : Nat) : Int)) ∧ w' = w) := truth_any
  go_enter Try.func39, Try.ntmps39
  go_wp2_with (go_at_call 19; refine (MK.out _).mono ?_; rintro e w' ⟨rfl, hw'⟩; subst w')
  go_quiet ((go_at_call 44; exact Calls.quiet_of_same (TR.out _ _)))
  go_wp2
  go_ret
  exact ⟨ret_int (by first | rfl | (congr 2; done) | (congr 2; rw [Bool.eq_iff_iff]; first | (simp; done) | (simp; omega))), _, rfl⟩

set_option maxRecDepth 100000 in
set_option maxHeartbeats 8000000 in
theorem op_all (w : World) (width : Nat) (hw1 : 1 ≤ width) (hw2 : width ≤ 32) (num : Nat) (ab ao n ca : Nat) (nw cw : Nat) (wb wo : Nat) (x v : Nat) (hv1 : 1 ≤ v) (hv2 : v ≤ 32) (hn : (0 : Int) < (n : Int)) (hnw : (0 : Int) < (nw : Int)) (c0 : w.cell? ⟨ab, ao, none⟩ = some (.int .u64 (x : Int))) (cw0 : w.cell? ⟨wb, wo, none⟩ = some (.int .i64 (v : Int))) :
    Calls Try.prog 39 #[.int .i64 9, .int .i64 width, .int .u64 num, .slice (some ⟨ab, ao, none⟩) n ca, .slice (some ⟨wb, wo, none⟩) nw cw] w fun e w' => e = .returned (.int .u64 ((bitOf (decide (x = 2 ^ v - 1)) : Nat) : Int)) ∧ ∃ q, w' = w.drewN q := by
  have MK : Hid (∀ w, Calls Try.prog 19 #[.int .i64 (width : Int)] w fun e w' => e = .returned (.int .u64 (maskN (width : Int))) ∧ w' = w) := fun w => mask_int (width : Int) (by simp [widthOk]; omega) w
  have TR : Hid (∀ b w, Calls Try.prog 44 #[.bool b] w fun e w' => e = .returned (.int .u64 ((bitOf b : Nat) : Int)) ∧ w' = w) := truth_any
  have MV : Hid (∀ w, Calls Try.prog 19 #[.int .i64 (v : Int)] w fun e w' => e = .returned (.int .u64 (maskN (v : Int))) ∧ w' = w) := fun w => mask_int (v : Int) (by simp [widthOk]; omega) w
  go_enter Try.func39, Try.ntmps39
  go_wp2_with (go_at_call 19; refine (MK.out _).mono ?_; rintro e w' ⟨rfl, hw'⟩; subst w')
  go_quiet (first | (go_at_call 44; exact Calls.quiet_of_same (TR.out _ _)) | (go_at_call 19; exact Calls.quiet_of_same (MV.out _)))
  go_wp2
  go_ret
  refine ⟨ret_int ?_, _, rfl⟩
  congr 2
  rw [Bool.eq_iff_iff]
  simp only [beq_iff_eq, decide_eq_true_eq, maskN, Int.toNat_natCast]
  have := Nat.one_le_two_pow (n := v)
  omega

set_option maxRecDepth 100000 in
set_option maxHeartbeats 8000000 in
theorem op_shl1 (w : World) (width : Nat) (hw1 : 1 ≤ width) (hw2 : width ≤ 32) (num : Nat) (ab ao n ca : Nat) (aw : Option Addr) (nw cw : Nat) (x y : Nat) (hy : (width : Int) ≤ (y : Int)) (hn : (1 : Int) < (n : Int)) (_c0 : w.cell? ⟨ab, ao, none⟩ = some (.int .u64 (x : Int))) (c1 : w.cell? ⟨ab, ao + 1, none⟩ = some (.int .u64 (y : Int))) :
    Calls Try.prog 39 #[.int .i64 18, .int .i64 width, .int .u64 num, .slice (some ⟨ab, ao, none⟩) n ca, .slice aw nw cw] w fun e w' => e = .returned (.int .u64 ((0 : Nat) : Int)) ∧ ∃ q, w' = w.drewN q := by
  have MK : Hid (∀ w, Calls Try.prog 19 #[.int .i64 (width : Int)] w fun e w' => e = .returned (.int .u64 (maskN (width : Int))) ∧ w' = w) := fun w => mask_int (width : Int) (by simp [widthOk]; omega) w
  have e1 : IntKind.u64.wrap (width : Int) = (width : Int) := wrapU _ (by omega) (by omega)
  go_enter Try.func39, Try.ntmps39
  go_wp2_with (go_at_call 19; refine (MK.out _).mono ?_; rintro e w' ⟨rfl, hw'⟩; subst w')
  go_ret
  exact ⟨rfl, 0, rfl⟩

set_option maxRecDepth 100000 in
set_option maxHeartbeats 8000000 in
theorem op_shl0 (w : World) (width : Nat) (hw1 : 1 ≤ width) (hw2 : width ≤ 32) (num : Nat) (ab ao n ca : Nat) (aw : Option Addr) (nw cw : Nat) (x y : Nat) (hy : ¬ (width : Int) ≤ (y : Int)) (hn : (1 : Int) < (n : Int)) (c0 : w.cell? ⟨ab, ao, none⟩ = some (.int .u64 (x : Int))) (c1 : w.cell? ⟨ab, ao + 1, none⟩ = some (.int .u64 (y : Int))) :
    Calls Try.prog 39 #[.int .i64 18, .int .i64 width, .int .u64 num, .slice (some ⟨ab, ao, none⟩) n ca, .slice aw nw cw] w fun e w' => e = .returned (.int .u64 (((x * 2 ^ y) % 18446744073709551616 % 2 ^ width : Nat) : Int)) ∧ ∃ q, w' = w.drewN q := by
  have MK : Hid (∀ w, Calls Try.prog 19 #[.int .i64 (width : Int)] w fun e w' => e = .returned (.int .u64 (maskN (width : Int))) ∧ w' = w) := fun w => mask_int (width : Int) (by simp [widthOk]; omega) w
  have e1 : IntKind.u64.wrap (width : Int) = (width : Int) := wrapU _ (by omega) (by omega)
  have h64 : (y : Int) ≤ 64 := by omega
  go_enter Try.func39, Try.ntmps39
  go_wp2_with (go_at_call 19; refine (MK.out _).mono ?_; rintro e w' ⟨rfl, hw'⟩; subst w')
  go_quiet (fail)
  go_wp2
  go_ret
  refine ⟨ret_int ?_, _, rfl⟩
  rw [shl_wrap]
  exact and_mask _ width (Nat.mod_lt _ (by decide)) hw2

set_option maxRecDepth 100000 in
set_option maxHeartbeats 8000000 in
theorem op_shr1 (w : World) (width : Nat) (hw1 : 1 ≤ width) (hw2 : width ≤ 32) (num : Nat) (ab ao n ca : Nat) (aw : Option Addr) (nw cw : Nat) (x y : Nat) (hy : (width : Int) ≤ (y : Int)) (hn : (1 : Int) < (n : Int)) (_c0 : w.cell? ⟨ab, ao, none⟩ = some (.int .u64 (x : Int))) (c1 : w.cell? ⟨ab, ao + 1, none⟩ = some (.int .u64 (y : Int))) :
    Calls Try.prog 39 #[.int .i64 19, .int .i64 width, .int .u64 num, .slice (some ⟨ab, ao, none⟩) n ca, .slice aw nw cw] w fun e w' => e = .returned (.int .u64 ((0 : Nat) : Int)) ∧ ∃ q, w' = w.drewN q := by
  have MK : Hid (∀ w, Calls Try.prog 19 #[.int .i64 (width : Int)] w fun e w' => e = .returned (.int .u64 (maskN (width : Int))) ∧ w' = w) := fun w => mask_int (width : Int) (by simp [widthOk]; omega) w
  have e1 : IntKind.u64.wrap (width : Int) = (width : Int) := wrapU _ (by omega) (by omega)
  go_enter Try.func39, Try.ntmps39
  go_wp2_with (go_at_call 19; refine (MK.out _).mono ?_; rintro e w' ⟨rfl, hw'⟩; subst w')
  go_ret
  exact ⟨rfl, 0, rfl⟩

set_option maxRecDepth 100000 in
set_option maxHeartbeats 8000000 in
theorem op_shr0 (w : World) (width : Nat) (hw1 : 1 ≤ width) (hw2 : width ≤ 32) (num : Nat) (ab ao n ca : Nat) (aw : Option Addr) (nw cw : Nat) (x y : Nat) (hy : ¬ (width : Int) ≤ (y : Int)) (hn : (1 : Int) < (n : Int)) (c0 : w.cell? ⟨ab, ao, none⟩ = some (.int .u64 (x : Int))) (c1 : w.cell? ⟨ab, ao + 1, none⟩ = some (.int .u64 (y : Int))) :
    Calls Try.prog 39 #[.int .i64 19, .int .i64 width, .int .u64 num, .slice (some ⟨ab, ao, none⟩) n ca, .slice aw nw cw] w fun e w' => e = .returned (.int .u64 ((x / 2 ^ y : Nat) : Int)) ∧ ∃ q, w' = w.drewN q := by
  have MK : Hid (∀ w, Calls Try.prog 19 #[.int .i64 (width : Int)] w fun e w' => e = .returned (.int .u64 (maskN (width : Int))) ∧ w' = w) := fun w => mask_int (width : Int) (by simp [widthOk]; omega) w
  have e1 : IntKind.u64.wrap (width : Int) = (width : Int) := wrapU _ (by omega) (by omega)
  have h64 : (y : Int) ≤ 64 := by omega
  go_enter Try.func39, Try.ntmps39
  go_wp2_with (go_at_call 19; refine (MK.out _).mono ?_; rintro e w' ⟨rfl, hw'⟩; subst w')
  go_quiet (fail)
  go_wp2
  go_ret
  refine ⟨ret_int ?_, _, rfl⟩
  exact div_cast x y

end Go.Proofs.Ytlkhmcajedjojaa
