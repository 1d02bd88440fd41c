import Derived.Test.YtlaljeobdddegaaAhB
import Derived.Laws.BitsAllLaws
import Derived.Laws.BitsLemmas
namespace Go.Proofs.Ytlaljeobdddegaa
open Go.RowKit

theorem xor_twoH (a b : Nat) (ha : a < 9223372036854775808) (hb : b < 9223372036854775808) : bits BinOp.xor IntKind.i64 (a : Int) (b : Int) = ((a ^^^ b : Nat) : Int) := by
  show IntKind.i64.wrap ((BitVec.ofInt 64 (a : Int) ^^^ BitVec.ofInt 64 (b : Int)).toNat : Int) = _
  have hx : a ^^^ b < 2 ^ 63 := Nat.xor_lt_two_pow (by omega) (by omega)
  rw [BitVec.toNat_xor, ofInt_u64 a (by omega), ofInt_u64 b (by omega), IntKind.wrap_i64]
  omega
theorem nat_xor_mod (a : Nat) : (a ^^^ 1) % 2 = (a + 1) % 2 := by
  have h : (a ^^^ 1).testBit 0 = (a.testBit 0 ^^ (1 : Nat).testBit 0) := Nat.testBit_xor ..
  simp only [Nat.testBit_zero] at h
  generalize a ^^^ 1 = c at *
  by_cases ha : a % 2 = 1
  · have : ¬ c % 2 = 1 := by intro e; simp [ha, e] at h
    omega
  · have : c % 2 = 1 := by
      by_cases e : c % 2 = 1
      · exact e
      · simp [ha, e] at h
    omega
theorem nat_xor1 (a : Nat) : a ^^^ 1 = if a % 2 = 0 then a + 1 else a - 1 := by
  have h1 : (a ^^^ 1) / 2 = a / 2 := by rw [Nat.xor_div_two]; simp
  have h2 : (a ^^^ 1) % 2 = (a + 1) % 2 := nat_xor_mod a
  split <;> omega
theorem xor_one (x : Int) (h0 : 0 ≤ x) (h1 : x < 9223372036854775808) : bits BinOp.xor IntKind.i64 x 1 = flipI x := by
  obtain ⟨a, rfl⟩ := Int.eq_ofNat_of_zero_le h0
  have := xor_twoH a 1 (by omega) (by omega)
  rw [nat_xor1] at this
  unfold flipI
  rw [show ((1 : Int)) = ((1 : Nat) : Int) by rfl, this]
  by_cases ha : a % 2 = 0
  · rw [if_pos ha, if_pos (by omega)]; simp
  · rw [if_neg ha, if_neg (by omega)]; omega
theorem xor_zero (x : Int) (h0 : 0 ≤ x) (h1 : x < 9223372036854775808) : bits BinOp.xor IntKind.i64 x 0 = x := by
  obtain ⟨a, rfl⟩ := Int.eq_ofNat_of_zero_le h0
  have := xor_twoH a 0 (by omega) (by omega)
  simpa using this
theorem and_one (n : Int) : bits BinOp.and IntKind.i64 n 1 = n % 2 := by
  have h1 : (BitVec.ofInt 64 1).toNat = 2 ^ 1 - 1 := by decide
  have key : (BitVec.ofInt 64 n &&& BitVec.ofInt 64 1).toNat = (n % ((2 ^ 64 : Nat) : Int)).toNat % 2 ^ 1 := by
    rw [BitVec.toNat_and, BitVec.toNat_ofInt, h1, Nat.and_two_pow_sub_one_eq_mod]
  show IntKind.i64.wrap ((BitVec.ofInt 64 n &&& BitVec.ofInt 64 1).toNat : Nat) = n % 2
  rw [key, IntKind.wrap_i64]
  omega
theorem opposite_any (x : Int) (h0 : 0 ≤ x) (h1 : x < 9223372036854775807) (w : World) : Calls Try.prog 65 #[.int .i64 x] w fun e w' => e = .returned (.int .i64 (flipI x)) ∧ w' = w := by
  go_enter Try.func65, Try.ntmps65
  go_wp2
  refine bodyPost_ret (v := .int .i64 (flipI x)) (by simp [results, Try.results65, go_sem, xor_one x h0 (by omega), *]) rfl ⟨rfl, rfl⟩
set_option maxHeartbeats 4000000 in
/-- what Hash's closure gives: a literal by the new literals -/
theorem ren_any (w : World) (q : Nat) (lb n v : Nat) (x l : Int) (hbox : w.cell? ⟨q, 0, none⟩ = some (.slice (some ⟨lb, 0, none⟩) n n)) (hn : n < 1000000) (h0 : 0 ≤ l) (hv : (l / 2).toNat = v) (hvn : v < n) (hc : w.cell? ⟨lb, v, none⟩ = some (.int .i64 x)) (hx0 : 0 ≤ x) (hx : x < 9223372036854775807) : Calls Try.prog 50 #[.int .i64 l, .pointer (some ⟨q, 0, none⟩)] w fun e w' => e = .returned (.int .i64 (if l % 2 = 1 then flipI x else x)) ∧ w' = w := by
  have q1 : Int.tdiv l 2 = (v : Int) := by rw [Int.tdiv_eq_ediv_of_nonneg h0]; omega
  have e1 : IntKind.i64.wrap (v : Int) = (v : Int) := wrapI _ (by omega) (by omega)
  have hvI : (v : Int) < (n : Int) := by omega
  have q2 := and_one l
  have q3 : bits BinOp.xor IntKind.i64 x (l % 2) = (if l % 2 = 1 then flipI x else x) := by
    split
    · next h => rw [h]; exact xor_one x hx0 (by omega)
    · next h => rw [show l % 2 = 0 by omega]; exact xor_zero x hx0 (by omega)
  generalize (if l % 2 = 1 then flipI x else x) = r at *
  go_enter Try.func50, Try.ntmps50
  go_wp2
  refine bodyPost_ret (v := .int .i64 r) (by simp [results, Try.results50, go_sem, *]) rfl ⟨rfl, rfl⟩

end Go.Proofs.Ytlaljeobdddegaa
