import Derived.Test.YtfemaahmafndmaaWdB
import Derived.Deep.QuietTactic
import Derived.BigQuiet
namespace Go.Proofs.Ytfemaahmafndmaa
open Go.RowKit

theorem Below.drewN {B : Nat} {a w : World} (h : Below B a w) (n : Nat) : Below B a (w.drewN n) := ⟨h.os, h.tape, h.output, h.size, h.block⟩

theorem hidden {p : Prop} (h : p) : Hid p := h
def at0 (l : List Int) (k : Nat) : Int := l[k]?.getD 0
/-- have the arguments the widths that a node wants? -/
def fitsOf (kind width num : Int) (ws : List Int) : Bool :=
  if kind = 5 then decide (num < at0 ws 0 ∧ num + width ≤ at0 ws 0)
  else if kind = 7 then decide (ws.sum = width)
  else if kind = 8 then decide (at0 ws 0 = width)
  else if kind = 9 ∨ kind = 10 ∨ kind = 11 then decide (width = 1)
  else if 12 ≤ kind ∧ kind ≤ 17 then decide (at0 ws 0 = width ∧ at0 ws 1 = width)
  else if kind = 18 ∨ kind = 19 then decide (at0 ws 0 = width)
  else if kind = 20 ∨ kind = 21 then decide (at0 ws 0 = at0 ws 1 ∧ width = 1)
  else if kind = 22 then decide (at0 ws 0 = 1 ∧ at0 ws 1 = width ∧ at0 ws 2 = width)
  else if kind = 1 then decide (num ≤ ((2 ^ width.toNat : Nat) : Int) - 1)
  else true

theorem fits_cases (k : Int) : (k = 5 ∨ k = 7 ∨ k = 8 ∨ (k = 9 ∨ k = 10 ∨ k = 11) ∨ (k = 12 ∨ k = 13 ∨ k = 14 ∨ k = 15 ∨ k = 16 ∨ k = 17) ∨ (k = 18 ∨ k = 19) ∨ (k = 20 ∨ k = 21) ∨ k = 22 ∨ k = 1) ∨
    (k ≠ 5 ∧ k ≠ 7 ∧ k ≠ 8 ∧ k ≠ 9 ∧ k ≠ 10 ∧ k ≠ 11 ∧ k ≠ 12 ∧ k ≠ 13 ∧ k ≠ 14 ∧ k ≠ 15 ∧ k ≠ 16 ∧ k ≠ 17 ∧ k ≠ 18 ∧ k ≠ 19 ∧ k ≠ 20 ∧ k ≠ 21 ∧ k ≠ 22 ∧ k ≠ 1) := by omega

theorem RowAt.int {B : Nat} {w : World} {a : Option Addr} {xs : List Int} (h : RowAt B w a 1 (xs.map intC)) {i : Nat} (hi : i < xs.length) :
    ∃ b o, a = some ⟨b, o, none⟩ ∧ b < B ∧ ∀ (i : Nat), i < xs.length → w.cell? ⟨b, o + i, none⟩ = some (.int .i64 (at0 xs i)) := by
  obtain ⟨b, o, ha, hlt, hc⟩ := h (by intro e; have : xs = [] := List.map_eq_nil_iff.1 e; rw [this] at hi; simp at hi)
  refine ⟨b, o, ha, hlt, fun j hj => ?_⟩
  have := hc j [.int .i64 (at0 xs j)] (by simp [intC, at0, List.getElem?_eq_getElem hj]) 0 _ rfl
  simpa using this

set_option maxHeartbeats 4000000 in
theorem fits_one (w : World) (kind width num : Int) (aa : Option Addr) (al ac : Nat) (hk : kind = 8 ∨ kind = 18 ∨ kind = 19) (b o : Nat) (hb : b < w.heap.size) (x : Int) (n cw : Nat) (hn : (0 : Int) < (n : Int)) (c0 : w.cell? ⟨b, o, none⟩ = some (.int .i64 x)) :
    Calls Try.prog 31 #[.agg #[.int .i64 kind, .int .i64 width, .int .u64 num, .slice aa al ac], .slice (some ⟨b, o, none⟩) n cw] w fun e w' => e = .returned (.bool (decide (x = width))) ∧ Below w.heap.size w w' := by
  rcases hk with rfl | rfl | rfl
  all_goals
    go_enter Try.func31, Try.ntmps31
    go_wp2
    go_quiet (fail)
    go_wp2
    go_ret
    exact ⟨rfl, Below.drewN ((Below.refl _ _).alloc (Nat.le_refl _) _) _⟩

end Go.Proofs.Ytfemaahmafndmaa
