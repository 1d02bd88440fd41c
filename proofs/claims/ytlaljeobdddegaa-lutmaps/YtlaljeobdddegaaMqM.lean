import Derived.Test.YtlaljeobdddegaaMqL
namespace Go.Proofs.Ytlaljeobdddegaa
open Go.RowKit Mp

theorem tb_bit (x i : Nat) : x / 2 ^ i % 2 = if x.testBit i then 1 else 0 := by
  rw [Nat.testBit_eq_decide_div_mod_eq]
  have : x / 2 ^ i % 2 = 0 ∨ x / 2 ^ i % 2 = 1 := by omega
  rcases this with h | h
  · rw [h]; simp
  · rw [h]; simp
theorem one_bit (b : Bool) (p q : Nat) : ((if b then 1 else 0) * 2 ^ p).testBit q = (b && decide (p = q)) := by
  cases b
  · simp
  · simp only [if_true, Nat.one_mul, Bool.true_and]; exact Nat.testBit_two_pow
theorem mkB_or (k : Nat) (f : Nat → Bool) : mkB k f ||| ((if f k then 1 else 0) * 2 ^ k) = mkB (k + 1) f := by
  refine nat_eq (fun q => ?_)
  rw [Nat.testBit_or, one_bit, mkB_bit, mkB_bit]
  by_cases h1 : q < k
  · have h2 : q < k + 1 := by omega
    have h3 : ¬ k = q := by omega
    simp [h1, h2, h3]
  · by_cases h2 : k = q
    · subst h2; simp
    · have h3 : ¬ q < k + 1 := by omega
      simp [h1, h2, h3]
/-- bits put at places, one after the other -/
def spS (ps : List Nat) (k : Nat) : Nat → Nat
  | 0 => 0
  | j + 1 => spS ps k j ||| ((k / 2 ^ j % 2) * 2 ^ (ps.getD j 0))
theorem spS_bit (ps : List Nat) (k j q : Nat) : (spS ps k j).testBit q = (List.range j).any fun i => decide (ps.getD i 0 = q) && k.testBit i := by
  induction j with
  | zero => simp [spS]
  | succ j ih =>
    unfold spS
    rw [Nat.testBit_or, ih, tb_bit, one_bit, List.range_succ, List.any_append]
    simp [Bool.and_comm]
theorem spS_all {ps : List Nat} (h : ∀ p, p ∈ ps → p < 4) (k : Nat) : spS ps k ps.length = putB ps k := by
  refine nat_eq (fun q => ?_)
  unfold putB
  rw [spS_bit, mkB_bit]
  have e : (List.range ps.length).any (fun i => decide (ps.getD i 0 = q) && k.testBit i) = (List.range ps.length).any (fun i => decide (ps[i]? = some q) && k.testBit i) := any_congr' (fun i hi => by
    have hi := List.mem_range.1 hi
    have : ps[i]? = some (ps.getD i 0) := by rw [List.getD_eq_getElem?_getD, List.getElem?_eq_getElem hi]; rfl
    rw [this]
    simp)
  rw [e]
  by_cases hq : q < 4
  · simp [hq]
  · simp only [hq, decide_false, Bool.false_and]
    rw [List.any_eq_false]
    intro i _ hh
    rw [Bool.and_eq_true] at hh
    exact hq (h q (List.mem_of_getElem? (of_decide_eq_true hh.1)))
/-- bits taken from places -/
def spB (ps : List Nat) (k : Nat) : Nat → Nat
  | 0 => 0
  | j + 1 => spB ps k j ||| ((k / 2 ^ (ps.getD j 0) % 2) * 2 ^ j)
theorem spB_bit (ps : List Nat) (k j q : Nat) : (spB ps k j).testBit q = (decide (q < j) && k.testBit (ps.getD q 0)) := by
  induction j with
  | zero => simp [spB]
  | succ j ih =>
    unfold spB
    rw [Nat.testBit_or, ih, tb_bit, one_bit]
    by_cases h1 : q < j
    · have h2 : q < j + 1 := by omega
      have h3 : ¬ j = q := by omega
      simp [h1, h2, h3]
    · by_cases h2 : j = q
      · subst h2; simp
      · have h3 : ¬ q < j + 1 := by omega
        simp [h1, h2, h3]
theorem spB_all (ps : List Nat) (k : Nat) : spB ps k ps.length = spAt ps k := by
  refine nat_eq (fun q => ?_)
  rw [spB_bit, spAt_bit]
  by_cases h : q < ps.length
  · rw [List.getElem?_eq_getElem h, List.getD_eq_getElem?_getD, List.getElem?_eq_getElem h]
    simp [h]
  · rw [List.getElem?_eq_none (by omega)]
    simp [h]
theorem spS_lt {ps : List Nat} (h : ∀ p, p ∈ ps → p < 4) (k : Nat) : ∀ j, j ≤ ps.length → spS ps k j < 16
  | 0, _ => by show 0 < 16; omega
  | j + 1, hj => by
    unfold spS
    refine Nat.or_lt_two_pow (n := 4) (spS_lt h k j (by omega)) ?_
    have hp : ps.getD j 0 < 4 := h _ (by rw [List.getD_eq_getElem?_getD, List.getElem?_eq_getElem (show j < ps.length by omega)]; exact List.getElem_mem _)
    have h1 : 2 ^ (ps.getD j 0) ≤ 2 ^ 3 := Nat.pow_le_pow_right (by omega) (by omega)
    have h2 : k / 2 ^ j % 2 ≤ 1 := by omega
    have h3 := Nat.mul_le_mul h2 h1
    omega
theorem spB_lt (ps : List Nat) (k : Nat) : ∀ j, spB ps k j < 2 ^ j
  | 0 => by show 0 < 1; omega
  | j + 1 => by
    unfold spB
    have h1 := spB_lt ps k j
    have h2 : k / 2 ^ (ps.getD j 0) % 2 ≤ 1 := by omega
    have h3 := Nat.mul_le_mul_right (2 ^ j) h2
    refine Nat.or_lt_two_pow (n := j + 1) (by rw [Nat.pow_succ]; omega) (by rw [Nat.pow_succ]; omega)
theorem or_two (a b : Nat) (ha : a < 9223372036854775808) (hb : b < 9223372036854775808) : bits BinOp.or IntKind.i64 (a : Int) (b : Int) = ((a ||| b : Nat) : Int) := by
  show IntKind.i64.wrap ((BitVec.ofInt 64 (a : Int) ||| BitVec.ofInt 64 (b : Int)).toNat : Int) = _
  have hx : a ||| b < 2 ^ 63 := Nat.or_lt_two_pow (by omega) (by omega)
  rw [BitVec.toNat_or, ofInt_u64 a (by omega), ofInt_u64 b (by omega), IntKind.wrap_i64]
  omega
theorem and_oneI (n : Int) : bits BinOp.and IntKind.i64 n 1 = n % 2 := by
  have h1 : (BitVec.ofInt 64 1).toNat = 2 ^ 1 - 1 := by decide
  have key : (BitVec.ofInt 64 n &&& BitVec.ofInt 64 1).toNat = (n % ((2 ^ 64 : Nat) : Int)).toNat % 2 ^ 1 := by
    rw [BitVec.toNat_and, BitVec.toNat_ofInt, h1, Nat.and_two_pow_sub_one_eq_mod]
  show IntKind.i64.wrap ((BitVec.ofInt 64 n &&& BitVec.ofInt 64 1).toNat : Nat) = n % 2
  rw [key, IntKind.wrap_i64]
  omega
theorem wrap64_of (x : Int) (h0 : -9223372036854775808 ≤ x) (h1 : x < 9223372036854775808) : wrap64 x = x := by
  unfold wrap64; omega
/-- one bit moved, as the walk leaves it -/
theorem or_bit (s k i j : Nat) (hs : s < 65536) (hj : j ≤ 16) : bits BinOp.or IntKind.i64 (s : Int) (wrap64 (bits BinOp.and IntKind.i64 ((k : Int) / 2 ^ i) 1 * 2 ^ j)) = ((s ||| (k / 2 ^ i % 2) * 2 ^ j : Nat) : Int) := by
  rw [and_oneI]
  have e1 : (k : Int) / 2 ^ i % 2 = ((k / 2 ^ i % 2 : Nat) : Int) := by push_cast; rfl
  have e2 : ((2 : Int) ^ j) = ((2 ^ j : Nat) : Int) := by push_cast; rfl
  rw [e1, e2, ← Int.natCast_mul]
  have h2 : 2 ^ j ≤ 2 ^ 16 := Nat.pow_le_pow_right (by omega) hj
  have h3 : k / 2 ^ i % 2 ≤ 1 := by omega
  have h4 := Nat.mul_le_mul h3 h2
  rw [wrap64_of _ (by omega) (by omega), or_two _ _ (by omega) (by omega)]
end Go.Proofs.Ytlaljeobdddegaa
