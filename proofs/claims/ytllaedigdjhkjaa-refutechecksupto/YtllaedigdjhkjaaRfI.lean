import Derived.Test.YtllaedigdjhkjaaRfH
namespace Go.Proofs.Ytllaedigdjhkjaa
open Go.RowKit

/-- a literal as the board numbers it -/
def litN (n : Int) : Nat := if n < 0 then 2 * (n.natAbs - 1) + 1 else 2 * (n.natAbs - 1)
/-- the opposite, as the board numbers it -/
def oppN (m : Nat) : Nat := if m % 2 = 0 then m + 1 else m - 1
theorem wrap32 (n : Int) (h1 : -2147483648 ≤ n) (h2 : n ≤ 2147483647) : IntKind.i32.wrap n = n := by
  rw [IntKind.wrap_i32]; omega
theorem nat_xor_one (m : Nat) : m ^^^ 1 = oppN m := by
  unfold oppN
  apply Nat.eq_of_testBit_eq
  intro i
  rw [Nat.testBit_xor]
  cases i with
  | zero =>
    by_cases h : m % 2 = 0
    · rw [if_pos h, Nat.testBit_zero, Nat.testBit_zero, Nat.testBit_zero, show (m + 1) % 2 = 1 by omega, h]; rfl
    · rw [if_neg h, Nat.testBit_zero, Nat.testBit_zero, Nat.testBit_zero, show (m - 1) % 2 = 0 by omega, show m % 2 = 1 by omega]; rfl
  | succ i =>
    rw [Nat.testBit_succ, Nat.testBit_succ, Nat.testBit_succ]
    by_cases h : m % 2 = 0
    · rw [if_pos h, show (m + 1) / 2 = m / 2 by omega]; simp
    · rw [if_neg h, show (m - 1) / 2 = m / 2 by omega]; simp
theorem xor_one (m : Nat) (h : m ≤ 200000) : bits BinOp.xor IntKind.i32 (m : Int) 1 = ((oppN m : Nat) : Int) := by
  rw [← nat_xor_one]
  have h1 : m ^^^ 1 ≤ 200001 := by rw [nat_xor_one]; unfold oppN; split <;> omega
  have e : (BitVec.ofInt 32 (m : Int) ^^^ BitVec.ofInt 32 1).toNat = m ^^^ 1 := by
    rw [BitVec.toNat_xor]
    rw [show BitVec.ofInt 32 (m : Int) = BitVec.ofNat 32 m by simp]
    rw [BitVec.toNat_ofNat, Nat.mod_eq_of_lt (by omega)]
    rfl
  show IntKind.i32.wrap (((BitVec.ofInt 32 (m : Int) ^^^ BitVec.ofInt 32 1).toNat : Nat) : Int) = _
  rw [e]
  exact wrap32 _ (by omega) (by omega)
set_option maxRecDepth 100000 in
set_option maxHeartbeats 2000000 in
theorem literalOf_any (w : World) (n : Int) (h0 : n ≠ 0) (h1 : n.natAbs ≤ 100000) :
    Calls Try.prog 43 #[.int .i64 n] w fun e w' => e = .returned (.int .i32 (litN n)) ∧ w' = w := by
  obtain ⟨m, hm⟩ : ∃ m, m = litN n := ⟨_, rfl⟩
  rw [← hm]
  unfold litN at hm
  by_cases hn : n < 0
  · rw [if_pos hn] at hm
    have hmI : (m : Int) = 2 * (-n - 1) + 1 := by omega
    have e1 : IntKind.i64.wrap (-n) = -n := wrapI _ (by omega) (by omega)
    have e2 : IntKind.i64.wrap (-n - 1) = -n - 1 := wrapI _ (by omega) (by omega)
    have e3 : IntKind.i64.wrap (2 * (-n - 1)) = 2 * (-n - 1) := wrapI _ (by omega) (by omega)
    have e4 : IntKind.i64.wrap (2 * (-n - 1) + 1) = 2 * (-n - 1) + 1 := wrapI _ (by omega) (by omega)
    have e5 : IntKind.i32.wrap (2 * (-n - 1) + 1) = (m : Int) := by rw [← hmI]; exact wrap32 _ (by omega) (by omega)
    clear hm hmI
    go_enter Try.func43, Try.ntmps43
    go_wp2
    go_ret
    exact ⟨rfl, rfl⟩
  · rw [if_neg hn] at hm
    have hmI : (m : Int) = 2 * (n - 1) := by omega
    have e2 : IntKind.i64.wrap (n - 1) = n - 1 := wrapI _ (by omega) (by omega)
    have e3 : IntKind.i64.wrap (2 * (n - 1)) = 2 * (n - 1) := wrapI _ (by omega) (by omega)
    have e5 : IntKind.i32.wrap (2 * (n - 1)) = (m : Int) := by rw [← hmI]; exact wrap32 _ (by omega) (by omega)
    clear hm hmI
    go_enter Try.func43, Try.ntmps43
    go_wp2
    go_ret
    exact ⟨rfl, rfl⟩
theorem oppN_lit (n : Int) (h : n ≠ 0) : oppN (litN n) = litN (-n) := by
  unfold oppN litN
  by_cases hn : n < 0
  · rw [if_pos hn, if_neg (by omega), if_neg (by omega)]; omega
  · rw [if_neg hn, if_pos (by omega), if_pos (by omega)]; omega
set_option maxRecDepth 100000 in
set_option maxHeartbeats 2000000 in
theorem variable_any (w : World) (m : Nat) (h : m ≤ 200000) :
    Calls Try.prog 71 #[.int .i32 m] w fun e w' => e = .returned (.int .i64 ((m / 2 : Nat) : Int)) ∧ w' = w := by
  go_enter Try.func71, Try.ntmps71
  go_wp2
  go_ret
  exact ⟨by simp [go_sem], rfl⟩
set_option maxRecDepth 100000 in
set_option maxHeartbeats 2000000 in
theorem opposite_any (w : World) (m : Nat) (h : m ≤ 200000) :
    Calls Try.prog 44 #[.int .i32 m] w fun e w' => e = .returned (.int .i32 (oppN m)) ∧ w' = w := by
  have e1 := xor_one m h
  generalize oppN m = r at *
  go_enter Try.func44, Try.ntmps44
  go_wp2
  go_ret
  exact ⟨rfl, rfl⟩

end Go.Proofs.Ytllaedigdjhkjaa
