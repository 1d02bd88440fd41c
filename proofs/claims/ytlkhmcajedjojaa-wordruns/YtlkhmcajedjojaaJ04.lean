import Derived.Test.YtlkhmcajedjojaaJ02
namespace Go.Proofs.Ytlkhmcajedjojaa
open Go.RowKit

set_option maxHeartbeats 4000000 in
theorem fits_same (w : World) (kind width num : Int) (aa : Option Addr) (al ac : Nat) (hk : kind = 20 ∨ kind = 21) (b o : Nat) (hb : b < w.heap.size) (x y : Int) (n cw : Nat) (hn : (1 : Int) < (n : Int)) (c0 : w.cell? ⟨b, o, none⟩ = some (.int .i64 x)) (c1 : w.cell? ⟨b, o + 1, none⟩ = some (.int .i64 y)) :
    Calls Try.prog 31 #[.agg #[.int .i64 kind, .int .i64 width, .int .u64 num, .slice aa al ac], .slice (some ⟨b, o, none⟩) n cw] w fun e w' => e = .returned (.bool (decide (x = y ∧ width = 1))) ∧ Below w.heap.size w w' := by
  by_cases h : x = y
  · subst h
    rcases hk with rfl | rfl
    all_goals
      go_enter Try.func31, Try.ntmps31
      go_wp2
      go_quiet (fail)
      go_wp2
      go_ret
      exact ⟨ret_bool (by rw [Bool.eq_iff_iff]; simp), Below.drewN ((Below.refl _ _).alloc (Nat.le_refl _) _) _⟩
  · have hd : (x == y) = false := by simp [h]
    rcases hk with rfl | rfl
    all_goals
      go_enter Try.func31, Try.ntmps31
      go_wp2
      go_quiet (fail)
      go_wp2
      go_ret
      exact ⟨ret_bool (by rw [Bool.eq_iff_iff]; simp [h]), Below.drewN ((Below.refl _ _).alloc (Nat.le_refl _) _) _⟩

set_option maxHeartbeats 4000000 in
theorem fits_if (w : World) (width num : Int) (aa : Option Addr) (al ac : Nat) (b o : Nat) (hb : b < w.heap.size) (x y z : Int) (n cw : Nat) (hn1 : (1 : Int) < (n : Int)) (hn2 : (2 : Int) < (n : Int)) (c0 : w.cell? ⟨b, o, none⟩ = some (.int .i64 x)) (c1 : w.cell? ⟨b, o + 1, none⟩ = some (.int .i64 y)) (c2 : w.cell? ⟨b, o + 2, none⟩ = some (.int .i64 z)) :
    Calls Try.prog 31 #[.agg #[.int .i64 22, .int .i64 width, .int .u64 num, .slice aa al ac], .slice (some ⟨b, o, none⟩) n cw] w fun e w' => e = .returned (.bool (decide (x = 1 ∧ y = width ∧ z = width))) ∧ Below w.heap.size w w' := by
  by_cases h : x = 1
  · subst h
    by_cases h2 : y = width
    · subst h2
      go_enter Try.func31, Try.ntmps31
      go_wp2
      go_quiet (fail)
      go_wp2
      go_ret
      exact ⟨ret_bool (by rw [Bool.eq_iff_iff]; simp), Below.drewN ((Below.refl _ _).alloc (Nat.le_refl _) _) _⟩
    · have hd : (y == width) = false := by simp [h2]
      go_enter Try.func31, Try.ntmps31
      go_wp2
      go_quiet (fail)
      go_wp2
      go_ret
      exact ⟨ret_bool (by rw [Bool.eq_iff_iff]; simp [h2]), Below.drewN ((Below.refl _ _).alloc (Nat.le_refl _) _) _⟩
  · have hd : (x == 1) = false := by simp [h]
    go_enter Try.func31, Try.ntmps31
    go_wp2
    go_quiet (fail)
    go_wp2
    go_ret
    exact ⟨ret_bool (by rw [Bool.eq_iff_iff]; simp [h]), Below.drewN ((Below.refl _ _).alloc (Nat.le_refl _) _) _⟩

set_option maxHeartbeats 4000000 in
theorem fits_slice (w : World) (width num : Int) (h0 : 0 ≤ num) (hw0 : 1 ≤ width) (hw1 : width ≤ 32) (aa : Option Addr) (al ac : Nat) (b o : Nat) (hb : b < w.heap.size) (x : Int) (hx0 : 1 ≤ x) (hx1 : x ≤ 32) (n cw : Nat) (hn0 : (0 : Int) < (n : Int)) (c0 : w.cell? ⟨b, o, none⟩ = some (.int .i64 x)) :
    Calls Try.prog 31 #[.agg #[.int .i64 5, .int .i64 width, .int .u64 num, .slice aa al ac], .slice (some ⟨b, o, none⟩) n cw] w fun e w' => e = .returned (.bool (decide (num < x ∧ num + width ≤ x))) ∧ Below w.heap.size w w' := by
  have e1 : IntKind.u64.wrap x = x := wrapU _ (by omega) (by omega)
  by_cases h : num < x
  · have e2 : IntKind.i64.wrap num = num := wrapI _ (by omega) (by omega)
    have e3 : IntKind.i64.wrap (num + width) = num + width := wrapI _ (by omega) (by omega)
    go_enter Try.func31, Try.ntmps31
    go_wp2
    go_quiet (fail)
    go_wp2
    go_ret
    exact ⟨ret_bool (by rw [Bool.eq_iff_iff]; simp [h]), Below.drewN ((Below.refl _ _).alloc (Nat.le_refl _) _) _⟩
  · have hd : decide (num < x) = false := by simp [h]
    go_enter Try.func31, Try.ntmps31
    go_wp2
    go_quiet (fail)
    go_wp2
    go_ret
    exact ⟨ret_bool (by first | (symm; rw [decide_eq_false_iff_not]; omega) | (rw [Bool.eq_iff_iff]; simp; omega)), Below.drewN ((Below.refl _ _).alloc (Nat.le_refl _) _) _⟩

set_option maxHeartbeats 4000000 in
theorem fits_num (w : World) (width : Nat) (num : Int) (hw0 : 1 ≤ width) (hw1 : width ≤ 32) (aa : Option Addr) (al ac : Nat) (aw : Option Addr) (n cw : Nat) :
    Calls Try.prog 31 #[.agg #[.int .i64 1, .int .i64 (width : Int), .int .u64 num, .slice aa al ac], .slice aw n cw] w fun e w' => e = .returned (.bool (decide (num ≤ ((2 ^ width : Nat) : Int) - 1))) ∧ Below w.heap.size w w' := by
  have M := hidden (fun w => mask_any width hw0 hw1 w)
  go_enter Try.func31, Try.ntmps31
  go_wp2
  go_quiet ((go_at_call 19; exact Calls.quiet_of_same (M.out _)))
  go_wp2
  go_ret
  exact ⟨rfl, Below.drewN ((Below.refl _ _).alloc (Nat.le_refl _) _) _⟩

end Go.Proofs.Ytlkhmcajedjojaa
