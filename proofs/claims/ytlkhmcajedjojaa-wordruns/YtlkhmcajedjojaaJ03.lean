import Derived.Test.YtlkhmcajedjojaaJ02
namespace Go.Proofs.Ytlkhmcajedjojaa
open Go.RowKit

set_option maxHeartbeats 4000000 in
theorem fits_width (w : World) (kind width num : Int) (aa : Option Addr) (al ac : Nat) (hk : kind = 9 ∨ kind = 10 ∨ kind = 11) (aw : Option Addr) (n cw : Nat) :
    Calls Try.prog 31 #[.agg #[.int .i64 kind, .int .i64 width, .int .u64 num, .slice aa al ac], .slice aw n cw] w fun e w' => e = .returned (.bool (decide (width = 1))) ∧ Below w.heap.size w w' := by
  rcases hk with rfl | rfl | rfl
  all_goals
    go_enter Try.func31, Try.ntmps31
    go_wp2
    go_ret
    exact ⟨rfl, ((Below.refl _ _).alloc (Nat.le_refl _) _)⟩

set_option maxHeartbeats 4000000 in
theorem fits_other (w : World) (kind width num : Int) (aa : Option Addr) (al ac : Nat) (h1 : kind ≠ 5) (h2 : kind ≠ 7) (h3 : kind ≠ 8) (h4 : kind ≠ 9) (h5 : kind ≠ 10) (h6 : kind ≠ 11) (h7 : kind ≠ 12) (h8 : kind ≠ 13) (h9 : kind ≠ 14) (h10 : kind ≠ 15) (h11 : kind ≠ 16) (h12 : kind ≠ 17) (h13 : kind ≠ 18) (h14 : kind ≠ 19) (h15 : kind ≠ 20) (h16 : kind ≠ 21) (h17 : kind ≠ 22) (h18 : kind ≠ 1) (aw : Option Addr) (n cw : Nat) :
    Calls Try.prog 31 #[.agg #[.int .i64 kind, .int .i64 width, .int .u64 num, .slice aa al ac], .slice aw n cw] w fun e w' => e = .returned (.bool true) ∧ Below w.heap.size w w' := by
  go_enter Try.func31, Try.ntmps31
  go_wp2
  go_ret
  exact ⟨rfl, ((Below.refl _ _).alloc (Nat.le_refl _) _)⟩

set_option maxHeartbeats 4000000 in
theorem fits_two (w : World) (kind width num : Int) (aa : Option Addr) (al ac : Nat) (hk : kind = 12 ∨ kind = 13 ∨ kind = 14 ∨ kind = 15 ∨ kind = 16 ∨ kind = 17) (b o : Nat) (hb : b < w.heap.size) (x y : Int) (n cw : Nat) (hn : (1 : Int) < (n : Int)) (c0 : w.cell? ⟨b, o, none⟩ = some (.int .i64 x)) (c1 : w.cell? ⟨b, o + 1, none⟩ = some (.int .i64 y)) :
    Calls Try.prog 31 #[.agg #[.int .i64 kind, .int .i64 width, .int .u64 num, .slice aa al ac], .slice (some ⟨b, o, none⟩) n cw] w fun e w' => e = .returned (.bool (decide (x = width ∧ y = width))) ∧ Below w.heap.size w w' := by
  by_cases h : x = width
  · subst h
    rcases hk with rfl | rfl | rfl | rfl | rfl | rfl
    all_goals
      go_enter Try.func31, Try.ntmps31
      go_wp2
      go_quiet (fail)
      go_wp2
      go_ret
      exact ⟨ret_bool (by rw [Bool.eq_iff_iff]; simp), Below.drewN ((Below.refl _ _).alloc (Nat.le_refl _) _) _⟩
  · have hd : (x == width) = false := by simp [h]
    rcases hk with rfl | rfl | rfl | rfl | rfl | rfl
    all_goals
      go_enter Try.func31, Try.ntmps31
      go_wp2
      go_quiet (fail)
      go_wp2
      go_ret
      exact ⟨ret_bool (by rw [Bool.eq_iff_iff]; simp [h]), Below.drewN ((Below.refl _ _).alloc (Nat.le_refl _) _) _⟩

end Go.Proofs.Ytlkhmcajedjojaa
