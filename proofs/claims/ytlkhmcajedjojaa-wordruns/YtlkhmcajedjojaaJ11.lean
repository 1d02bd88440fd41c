import Derived.Test.YtlkhmcajedjojaaJ10
namespace Go.Proofs.Ytlkhmcajedjojaa
open Go.RowKit

theorem bit_lt (b : Bool) : bitOf b < 18446744073709551616 := by cases b <;> decide
theorem both_lt (kind : Int) (x y : Nat) (hx : x < 18446744073709551616) (hy : y < 18446744073709551616) : bothN kind x y < 18446744073709551616 := by
  unfold bothN
  split
  · exact Nat.lt_of_le_of_lt Nat.and_le_left hx
  split
  · exact Nat.or_lt_two_pow (n := 64) hx hy
  split
  · exact xor_lt x y hx hy
  split
  · exact Nat.mod_lt _ (by decide)
  split
  · exact Nat.mod_lt _ (by decide)
  split
  · exact Nat.mod_lt _ (by decide)
  split
  · exact Nat.mod_lt _ (by decide)
  split
  · exact Nat.lt_of_le_of_lt (Nat.div_le_self _ _) hx
  split
  · exact bit_lt _
  · exact bit_lt _

set_option maxRecDepth 100000 in
set_option maxHeartbeats 8000000 in
theorem wo_both (w : World) (nb no ab ao al ac vb vo nv cv : Nat) (an : Option Addr) (ln cn : Nat) (width num : Nat) (hw1 : 1 ≤ width) (hw2 : width ≤ 32) (kind : Int)  (_k0 : w.cell? ⟨nb, no, none⟩ = some (.int .i64 kind)) (_k1 : w.cell? ⟨nb, no + 1, none⟩ = some (.int .i64 (width : Int))) (_k2 : w.cell? ⟨nb, no + 2, none⟩ = some (.int .u64 (num : Int))) (_k3 : w.cell? ⟨nb, no + 3, none⟩ = some (.slice (some ⟨ab, ao, none⟩) al ac)) (i x : Nat) (hx : x < 18446744073709551616) (_hi : (i : Int) < (nv : Int)) (_hl0 : (0 : Int) < (al : Int)) (_c0 : w.cell? ⟨ab, ao, none⟩ = some (.int .i64 (i : Int))) (_v0 : w.cell? ⟨vb, vo + i, none⟩ = some (.int .u64 (x : Int))) (j y : Nat) (hy : y < 18446744073709551616) (_hj : (j : Int) < (nv : Int)) (_hl1 : (1 : Int) < (al : Int)) (_c1 : w.cell? ⟨ab, ao + 1, none⟩ = some (.int .i64 (j : Int))) (_v1 : w.cell? ⟨vb, vo + j, none⟩ = some (.int .u64 (y : Int))) (hk : kind = 12 ∨ kind = 13 ∨ kind = 14 ∨ kind = 15 ∨ kind = 16 ∨ kind = 17 ∨ kind = 18 ∨ kind = 19 ∨ kind = 20 ∨ kind = 21) :
    Calls Try.prog 38 #[.pointer (some ⟨nb, no, none⟩), .slice an ln cn, .slice (some ⟨vb, vo, none⟩) nv cv] w fun e w' => e = .returned (.int .u64 ((bothN kind x y % 2 ^ width : Nat) : Int)) ∧ ∃ q, w' = w.drewN q := by
  have MK : Hid (∀ w, Calls Try.prog 28 #[.int .i64 (width : Int)] w fun e w' => e = .returned (.int .u64 (maskN (width : Int))) ∧ w' = w) := fun w => pmask_int (width : Int) (by simp [widthOk]; omega) w
  have OB : Hid (∀ w, Calls Try.prog 43 #[.int .i64 kind, .int .u64 (x : Int), .int .u64 (y : Int)] w fun e w' => e = .returned (.int .u64 ((bothN kind x y : Nat) : Int)) ∧ w' = w) := fun w => ofBoth_any kind x y hx hy hk w
  have hbn : bothN kind x y < 18446744073709551616 := both_lt kind x y hx hy
  generalize bothN kind x y = m at *
  rcases hk with rfl | rfl | rfl | rfl | rfl | rfl | rfl | rfl | rfl | rfl
  all_goals
    go_enter Try.func38, Try.ntmps38
    go_wp2_with fail
    go_quiet (first | (go_at_call 28; exact Calls.quiet_of_same (MK.out _)) | (go_at_call 43; exact Calls.quiet_of_same (OB.out _)))
    go_wp2
    go_ret
    exact ⟨ret_int (and_mask m width hbn hw2), _, rfl⟩

end Go.Proofs.Ytlkhmcajedjojaa
