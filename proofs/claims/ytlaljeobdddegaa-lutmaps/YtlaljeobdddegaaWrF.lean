import Derived.Test.YtlaljeobdddegaaWrE
namespace Go.Proofs.Ytlaljeobdddegaa
open Go.RowKit

theorem val_mod (k : Nat) (m : Nat) (l : List Nat) (hd : ∀ d, d ∈ l → d ≤ m) (hm : m < 2 ^ k) : valD k l % 2 ^ k ≤ m := by
  cases l with
  | nil => simp [valD]
  | cons d r =>
    have := hd d (by simp)
    simp only [valD]
    rw [Nat.add_mul_mod_self_left, Nat.mod_eq_of_lt (by omega)]; exact this
theorem sum_and (k n m : Nat) (hm : 2 * m < 2 ^ k) (l : List Nat) (hl : l.length = 2 * n) (hd : ∀ d, d ∈ l → d ≤ m) : (valD k l / 2 ^ k + valD k l) &&& evens k n = valD (2 * k) (pairsD l) := by
  induction n generalizing l with
  | zero =>
    have : l = [] := List.length_eq_zero_iff.1 (by omega)
    subst this
    simp [valD, evens, pairsD]
  | succ n ih =>
    match l, hl, hd with
    | a :: b :: r, hl, hd =>
      have ha := hd a (by simp)
      have hb := hd b (by simp)
      have hr := val_mod k m r (fun d h => hd d (by simp [h])) (by omega)
      have hi := ih r (by simp at hl; omega) (fun d h => hd d (by simp [h]))
      simp only [valD, evens, pairsD]
      have e1 : (a + 2 ^ k * (b + 2 ^ k * valD k r)) / 2 ^ k = b + 2 ^ k * valD k r := by
        rw [Nat.add_mul_div_left _ _ (Nat.two_pow_pos k), Nat.div_eq_of_lt (by omega), Nat.zero_add]
      have e2 : b + 2 ^ k * valD k r + (a + 2 ^ k * (b + 2 ^ k * valD k r)) = ((a + b) + 2 ^ k * (b + valD k r % 2 ^ k)) + 2 ^ (2 * k) * (valD k r / 2 ^ k + valD k r) := by
        have e3 : 2 ^ k * valD k r = 2 ^ k * (valD k r % 2 ^ k) + 2 ^ (2 * k) * (valD k r / 2 ^ k) := by
          rw [two_mul_pow, Nat.mul_assoc, ← Nat.mul_add, Nat.mod_add_div]
        have e4 : 2 ^ k * (2 ^ k * valD k r) = 2 ^ (2 * k) * valD k r := by rw [two_mul_pow, Nat.mul_assoc]
        rw [Nat.mul_add, e4, Nat.mul_add, Nat.mul_add]
        omega
      rw [e1, e2, and_split (2 * k) _ _ _ _ (lt_two (by omega) (by omega)) (mask_lt k), low_and k (a + b) _ (by omega), hi]
theorem m0 : evens 1 32 = 6148914691236517205 := by decide
theorem m1 : evens 2 16 = 3689348814741910323 := by decide
theorem m2 : evens 4 8 = 1085102592571150095 := by decide

theorem and_div (a q M : Nat) (ha : a < 18446744073709551616) (hM : M < 18446744073709551616) : bits BinOp.and IntKind.u64 ((a : Int) / (q : Int)) (M : Int) = ((a / q &&& M : Nat) : Int) := by
  have := and_bits (a / q) M (Nat.lt_of_le_of_lt (Nat.div_le_self _ _) ha) hM
  rw [Int.natCast_ediv] at this
  exact this
theorem add_small (a b : Nat) (h : a + b < 18446744073709551616) : IntKind.u64.wrap ((a : Int) + (b : Int)) = ((a + b : Nat) : Int) := by
  rw [add_wrap, Nat.mod_eq_of_lt h]
theorem add_div (a q : Nat) (h : a / q + a < 18446744073709551616) : IntKind.u64.wrap ((a : Int) / (q : Int) + (a : Int)) = ((a / q + a : Nat) : Int) := by
  rw [← Int.natCast_ediv, add_small _ _ h]
theorem add_div' (a q : Nat) (h : a + a / q < 18446744073709551616) : IntKind.u64.wrap ((a : Int) + (a : Int) / (q : Int)) = ((a + a / q : Nat) : Int) := by
  rw [← Int.natCast_ediv, add_small _ _ h]
theorem and_le (a b : Nat) : a &&& b ≤ b := Nat.and_le_right

theorem dv (a b : Nat) (h : a < 256) : (a + 256 * b) / 256 = b := by omega
theorem add2 (a b A B : Nat) : a + 256 * A + (b + 256 * B) = (a + b) + 256 * (A + B) := by omega
theorem add1 (a b A : Nat) : a + 256 * A + b = (a + b) + 256 * A := by omega
theorem low7 (a b A B : Nat) (h : a + b < 128) : (a + 256 * A + (b + 256 * B)) % 128 = a + b := by omega
theorem val_le (m : Nat) (l : List Nat) (h : ∀ d, d ∈ l → d ≤ m) : valD 8 l ≤ m * valD 8 (List.replicate l.length 1) := by
  induction l with
  | nil => simp [valD]
  | cons d r ih =>
    have h1 := h d (by simp)
    have h2 := ih (fun x hx => h x (by simp [hx]))
    simp only [valD, List.length_cons, List.replicate_succ]
    rw [Nat.mul_add, Nat.mul_one, Nat.mul_left_comm]
    have h3 := Nat.mul_le_mul_left (2 ^ 8) h2
    omega
/-- eight digits of eight bits, added up -/
theorem sum_bytes (l : List Nat) (hl : l.length = 8) (hd : ∀ d, d ∈ l → d ≤ 8) (c d e : Nat) (hc : c = valD 8 l) (hdd : d = c + c / 256) (he : e = d + d / 65536) : c < 1152921504606846976 ∧ (e + e / 4294967296) % 128 = l.sum := by
  constructor
  · have := val_le 8 l hd
    rw [hl] at this
    rw [hc]
    have e8 : valD 8 (List.replicate 8 1) = 72340172838076673 := by decide
    rw [e8] at this
    omega
  · match l, hl, hd, hc with
    | [d0, d1, d2, d3, d4, d5, d6, d7], _, hd, hc =>
      have h0 := hd d0 (by simp)
      have h1 := hd d1 (by simp)
      have h2 := hd d2 (by simp)
      have h3 := hd d3 (by simp)
      have h4 := hd d4 (by simp)
      have h5 := hd d5 (by simp)
      have h6 := hd d6 (by simp)
      have h7 := hd d7 (by simp)
      clear hd
      have e0 : c = d0 + 256 * (d1 + 256 * (d2 + 256 * (d3 + 256 * (d4 + 256 * (d5 + 256 * (d6 + 256 * (d7))))))) := by rw [hc]; simp [valD]
      have a1 : c / 256 = d1 + 256 * (d2 + 256 * (d3 + 256 * (d4 + 256 * (d5 + 256 * (d6 + 256 * (d7)))))) := by rw [e0]; exact dv _ _ (by omega)
      have a2 : d = (d0 + d1) + 256 * ((d1 + d2) + 256 * ((d2 + d3) + 256 * ((d3 + d4) + 256 * ((d4 + d5) + 256 * ((d5 + d6) + 256 * ((d6 + d7) + 256 * (d7))))))) := by
        rw [hdd, a1, e0, add2, add2, add2, add2, add2, add2, add1]
      have a3 : d / 65536 = (d2 + d3) + 256 * ((d3 + d4) + 256 * ((d4 + d5) + 256 * ((d5 + d6) + 256 * ((d6 + d7) + 256 * (d7))))) := by
        rw [a2, show 65536 = 256 * 256 from rfl, ← Nat.div_div_eq_div_mul, dv _ _ (by omega), dv _ _ (by omega)]
      have a4 : e = ((d0 + d1) + (d2 + d3)) + 256 * (((d1 + d2) + (d3 + d4)) + 256 * (((d2 + d3) + (d4 + d5)) + 256 * (((d3 + d4) + (d5 + d6)) + 256 * (((d4 + d5) + (d6 + d7)) + 256 * (((d5 + d6) + d7) + 256 * ((d6 + d7) + 256 * (d7))))))) := by
        rw [he, a3, a2, add2, add2, add2, add2, add2, add1]
      have a5 : e / 4294967296 = ((d4 + d5) + (d6 + d7)) + 256 * (((d5 + d6) + d7) + 256 * ((d6 + d7) + 256 * (d7))) := by
        rw [a4, show 4294967296 = 256 * 256 * 256 * 256 from rfl, ← Nat.div_div_eq_div_mul, ← Nat.div_div_eq_div_mul, ← Nat.div_div_eq_div_mul, dv _ _ (by omega), dv _ _ (by omega), dv _ _ (by omega), dv _ _ (by omega)]
      rw [a5, a4, low7 _ _ _ _ (by omega)]
      simp only [List.sum_cons, List.sum_nil]
      omega

end Go.Proofs.Ytlaljeobdddegaa
