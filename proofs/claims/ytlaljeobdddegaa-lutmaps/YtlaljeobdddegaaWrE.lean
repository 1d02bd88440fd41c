import Derived.Test.YtlaljeobdddegaaAgL
import Derived.Laws.BitsAllLaws
import Derived.Laws.BitsLemmas
namespace Go.Proofs.Ytlaljeobdddegaa

theorem and_bits (a b : Nat) (ha : a < 18446744073709551616) (hb : b < 18446744073709551616) : bits BinOp.and IntKind.u64 (a : Int) (b : Int) = ((a &&& b : Nat) : Int) := bits_and_u64_nat a b ha hb
theorem add_wrap (a b : Nat) : IntKind.u64.wrap ((a : Int) + (b : Int)) = (((a + b) % 18446744073709551616 : Nat) : Int) := by
  rw [IntKind.wrap_u64]; omega
/-- digits of so many bits, the lowest first -/
def valD (k : Nat) : List Nat → Nat
  | [] => 0
  | d :: r => d + 2 ^ k * valD k r
def pairsD : List Nat → List Nat
  | a :: b :: r => (a + b) :: pairsD r
  | l => l
def bitsD : Nat → Nat → List Nat
  | 0, _ => []
  | f + 1, v => v % 2 :: bitsD f (v / 2)
theorem val_bits (f v : Nat) (h : v < 2 ^ f) : valD 1 (bitsD f v) = v := by
  induction f generalizing v with
  | zero => simp at h; simp [bitsD, valD, h]
  | succ f ih =>
    rw [Nat.pow_succ] at h
    simp only [bitsD, valD]
    rw [ih (v / 2) (by omega)]; omega
theorem bits_length (f v : Nat) : (bitsD f v).length = f := by
  induction f generalizing v with
  | zero => rfl
  | succ f ih => simp [bitsD, ih]
theorem bits_lt (f v : Nat) : ∀ d, d ∈ bitsD f v → d ≤ 1 := by
  induction f generalizing v with
  | zero => intro d hd; simp [bitsD] at hd
  | succ f ih =>
    intro d hd
    simp only [bitsD, List.mem_cons] at hd
    rcases hd with rfl | hd
    · omega
    · exact ih _ d hd
theorem xor_two (a b : Nat) (ha : a < 2) (hb : b < 2) : a ^^^ b = (a + b) % 2 := by
  have h1 : a = 0 ∨ a = 1 := by omega
  have h2 : b = 0 ∨ b = 1 := by omega
  rcases h1 with rfl | rfl <;> rcases h2 with rfl | rfl <;> rfl
theorem pairs_sum (l : List Nat) : (pairsD l).sum = l.sum := by
  fun_induction pairsD l with
  | case1 a b r ih => simp only [List.sum_cons, ih]; omega
  | case2 l h => rfl
theorem and_split (m lo hi lo' hi' : Nat) (h : lo < 2 ^ m) (h' : lo' < 2 ^ m) : (lo + 2 ^ m * hi) &&& (lo' + 2 ^ m * hi') = (lo &&& lo') + 2 ^ m * (hi &&& hi') := by
  have hl : lo &&& lo' < 2 ^ m := Nat.lt_of_le_of_lt Nat.and_le_left h
  apply Nat.eq_of_testBit_eq
  intro j
  rw [Nat.testBit_and, Nat.add_comm lo, Nat.add_comm lo', Nat.add_comm (lo &&& lo'), Nat.testBit_two_pow_mul_add _ h, Nat.testBit_two_pow_mul_add _ h', Nat.testBit_two_pow_mul_add _ hl]
  split
  · rw [Nat.testBit_and]
  · rw [Nat.testBit_and]

/-- the mask that leaves every other digit -/
def evens (k : Nat) : Nat → Nat
  | 0 => 0
  | n + 1 => (2 ^ k - 1) + 2 ^ (2 * k) * evens k n
theorem two_mul_pow (k : Nat) : 2 ^ (2 * k) = 2 ^ k * 2 ^ k := by rw [Nat.two_mul, Nat.pow_add]
theorem low_and (k a c : Nat) (ha : a < 2 ^ k) : (a + 2 ^ k * c) &&& (2 ^ k - 1) = a := by
  rw [Nat.and_two_pow_sub_one_eq_mod, Nat.add_mul_mod_self_left, Nat.mod_eq_of_lt ha]
theorem lt_two {k a c : Nat} (ha : a < 2 ^ k) (hc : c < 2 ^ k) : a + 2 ^ k * c < 2 ^ (2 * k) := by
  rw [two_mul_pow]
  have : 2 ^ k * (c + 1) ≤ 2 ^ k * 2 ^ k := Nat.mul_le_mul_left _ hc
  rw [Nat.mul_add, Nat.mul_one] at this
  omega
theorem mask_lt (k : Nat) : 2 ^ k - 1 < 2 ^ (2 * k) := by
  rw [two_mul_pow]
  have h1 := Nat.one_le_two_pow (n := k)
  have h2 : 2 ^ k * 1 ≤ 2 ^ k * 2 ^ k := Nat.mul_le_mul_left _ h1
  omega
theorem val_two (k a b R : Nat) : a + 2 ^ k * (b + 2 ^ k * R) = (a + 2 ^ k * b) + 2 ^ (2 * k) * R := by
  rw [two_mul_pow, Nat.mul_add, Nat.mul_assoc, Nat.add_assoc]
/-- the digits at even places, at odd ones -/
theorem step_even (k n : Nat) (l : List Nat) (hl : l.length = 2 * n) (hd : ∀ d, d ∈ l → d < 2 ^ k) : ∃ es os : List Nat, es.length = n ∧ os.length = n ∧ valD k l &&& evens k n = valD (2 * k) es ∧ (valD k l / 2 ^ k) &&& evens k n = valD (2 * k) os ∧ (∀ i, i < n → True) ∧ List.zipWith (· + ·) es os = pairsD l := by
  induction n generalizing l with
  | zero =>
    have : l = [] := List.length_eq_zero_iff.1 (by omega)
    subst this
    exact ⟨[], [], rfl, rfl, by simp [valD, evens], by simp [valD, evens], fun _ _ => trivial, rfl⟩
  | succ n ih =>
    match l, hl, hd with
    | a :: b :: r, hl, hd =>
      have ha := hd a (by simp)
      have hb := hd b (by simp)
      obtain ⟨es, os, h1, h2, h3, h4, -, h6⟩ := ih r (by simp at hl; omega) (fun d h => hd d (by simp [h]))
      refine ⟨a :: es, b :: os, by simp [h1], by simp [h2], ?_, ?_, fun _ _ => trivial, by simp [pairsD, h6]⟩
      · simp only [valD, evens]
        rw [val_two, and_split (2 * k) _ _ _ _ (lt_two ha hb) (mask_lt k), low_and k a b ha, h3]
      · simp only [valD, evens]
        have e1 : (a + 2 ^ k * (b + 2 ^ k * valD k r)) / 2 ^ k = b + 2 ^ k * valD k r := by
          rw [Nat.add_mul_div_left _ _ (Nat.two_pow_pos k), Nat.div_eq_of_lt ha, Nat.zero_add]
        have e2 : b + 2 ^ k * valD k r = (b + 2 ^ k * (valD k r % 2 ^ k)) + 2 ^ (2 * k) * (valD k r / 2 ^ k) := by
          rw [two_mul_pow, Nat.mul_assoc, Nat.add_assoc, ← Nat.mul_add, Nat.mod_add_div]
        rw [e1, e2, and_split (2 * k) _ _ _ _ (lt_two hb (Nat.mod_lt _ (Nat.two_pow_pos k))) (mask_lt k), low_and k b _ hb, h4]
theorem val_zip (k : Nat) (a b : List Nat) (h : a.length = b.length) : valD k a + valD k b = valD k (List.zipWith (· + ·) a b) := by
  induction a generalizing b with
  | nil => cases b with
    | nil => rfl
    | cons => simp at h
  | cons x r ih =>
    cases b with
    | nil => simp at h
    | cons y s =>
      simp only [List.zipWith_cons_cons, valD]
      rw [← ih s (by simpa using h), Nat.mul_add]; omega
/-- one step of counting -/
theorem count_step (k n : Nat) (l : List Nat) (hl : l.length = 2 * n) (hd : ∀ d, d ∈ l → d < 2 ^ k) : (valD k l / 2 ^ k &&& evens k n) + (valD k l &&& evens k n) = valD (2 * k) (pairsD l) := by
  obtain ⟨es, os, h1, h2, h3, h4, -, h6⟩ := step_even k n l hl hd
  rw [h3, h4, Nat.add_comm, val_zip _ _ _ (h1.trans h2.symm), h6]
theorem pairs_length (l : List Nat) (n : Nat) (h : l.length = 2 * n) : (pairsD l).length = n := by
  induction n generalizing l with
  | zero => have : l = [] := List.length_eq_zero_iff.1 (by omega)
            subst this; rfl
  | succ n ih =>
    match l, h with
    | a :: b :: r, h => simp only [pairsD, List.length_cons]; rw [ih r (by simp at h; omega)]
theorem pairs_le (l : List Nat) (n m : Nat) (h : l.length = 2 * n) (hd : ∀ d, d ∈ l → d ≤ m) : ∀ d, d ∈ pairsD l → d ≤ 2 * m := by
  induction n generalizing l with
  | zero => have : l = [] := List.length_eq_zero_iff.1 (by omega)
            subst this; intro d hd; simp [pairsD] at hd
  | succ n ih =>
    match l, h, hd with
    | a :: b :: r, h, hd =>
      have ha := hd a (by simp)
      have hb := hd b (by simp)
      intro d hx
      simp only [pairsD, List.mem_cons] at hx
      rcases hx with rfl | hx
      · omega
      · exact ih r (by simp at h; omega) (fun d h => hd d (by simp [h])) d hx

end Go.Proofs.Ytlaljeobdddegaa
