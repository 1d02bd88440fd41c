import Derived.Test.YtlkhmcajedjojaaJ09
namespace Go.Proofs.Ytlkhmcajedjojaa
open Go.RowKit

theorem val_mod (k : Nat) (m : Nat) (l : List Nat) (hd : ∀ d, d ∈ l → d ≤ m) (hm : m < 2 ^ k) : valD k l % 2 ^ k ≤ m := by
  cases l with
  | nil => simp [valD]
  | cons d r =>
    have := hd d (by simp)
    simp only [valD]
    rw [Nat.add_mul_mod_self_left, Nat.mod_eq_of_lt (by omega)]; exact this
theorem sum_and (k n m : Nat) (hm : 2 * m < 2 ^ k) (l : List Nat) (hl : l.length = 2 * n) (hd : ∀ d, d ∈ l → d ≤ m) : (valD k l / 2 ^ k + valD k l) &&& evens k n = valD (2 * k) (pairsD l) := by
  induction n generalizing l with
  | zero =>
    have : l = [] := List.length_eq_zero_iff.1 (by omega)
    subst this
    simp [valD, evens, pairsD]
  | succ n ih =>
    match l, hl, hd with
    | a :: b :: r, hl, hd =>
      have ha := hd a (by simp)
      have hb := hd b (by simp)
      have hr := val_mod k m r (fun d h => hd d (by simp [h])) (by omega)
      have hi := ih r (by simp at hl; omega) (fun d h => hd d (by simp [h]))
      simp only [valD, evens, pairsD]
      have e1 : (a + 2 ^ k * (b + 2 ^ k * valD k r)) / 2 ^ k = b + 2 ^ k * valD k r := by
        rw [Nat.add_mul_div_left _ _ (Nat.two_pow_pos k), Nat.div_eq_of_lt (by omega), Nat.zero_add]
      have e2 : b + 2 ^ k * valD k r + (a + 2 ^ k * (b + 2 ^ k * valD k r)) = ((a + b) + 2 ^ k * (b + valD k r % 2 ^ k)) + 2 ^ (2 * k) * (valD k r / 2 ^ k + valD k r) := by
        have e3 : 2 ^ k * valD k r = 2 ^ k * (valD k r % 2 ^ k) + 2 ^ (2 * k) * (valD k r / 2 ^ k) := by
          rw [two_mul_pow, Nat.mul_assoc, ← Nat.mul_add, Nat.mod_add_div]
        have e4 : 2 ^ k * (2 ^ k * valD k r) = 2 ^ (2 * k) * valD k r := by rw [two_mul_pow, Nat.mul_assoc]
        rw [Nat.mul_add, e4, Nat.mul_add, Nat.mul_add]
        omega
      rw [e1, e2, and_split (2 * k) _ _ _ _ (lt_two (by omega) (by omega)) (mask_lt k), low_and k (a + b) _ (by omega), hi]
theorem m0 : evens 1 32 = 6148914691236517205 := by decide
theorem m1 : evens 2 16 = 3689348814741910323 := by decide
theorem m2 : evens 4 8 = 1085102592571150095 := by decide

theorem and_div (a q M : Nat) (ha : a < 18446744073709551616) (hM : M < 18446744073709551616) : bits BinOp.and IntKind.u64 ((a : Int) / (q : Int)) (M : Int) = ((a / q &&& M : Nat) : Int) := by
  have := and_bits (a / q) M (Nat.lt_of_le_of_lt (Nat.div_le_self _ _) ha) hM
  rw [Int.natCast_ediv] at this
  exact this
theorem add_small (a b : Nat) (h : a + b < 18446744073709551616) : IntKind.u64.wrap ((a : Int) + (b : Int)) = ((a + b : Nat) : Int) := by
  rw [add_wrap, Nat.mod_eq_of_lt h]
theorem add_div (a q : Nat) (h : a / q + a < 18446744073709551616) : IntKind.u64.wrap ((a : Int) / (q : Int) + (a : Int)) = ((a / q + a : Nat) : Int) := by
  rw [← Int.natCast_ediv, add_small _ _ h]
theorem add_div' (a q : Nat) (h : a + a / q < 18446744073709551616) : IntKind.u64.wrap ((a : Int) + (a : Int) / (q : Int)) = ((a + a / q : Nat) : Int) := by
  rw [← Int.natCast_ediv, add_small _ _ h]
theorem and_le (a b : Nat) : a &&& b ≤ b := Nat.and_le_right

theorem dv (a b : Nat) (h : a < 256) : (a + 256 * b) / 256 = b := by omega
theorem add2 (a b A B : Nat) : a + 256 * A + (b + 256 * B) = (a + b) + 256 * (A + B) := by omega
theorem add1 (a b A : Nat) : a + 256 * A + b = (a + b) + 256 * A := by omega
theorem low7 (a b A B : Nat) (h : a + b < 128) : (a + 256 * A + (b + 256 * B)) % 128 = a + b := by omega
theorem val_le (m : Nat) (l : List Nat) (h : ∀ d, d ∈ l → d ≤ m) : valD 8 l ≤ m * valD 8 (List.replicate l.length 1) := by
  induction l with
  | nil => simp [valD]
  | cons d r ih =>
    have h1 := h d (by simp)
    have h2 := ih (fun x hx => h x (by simp [hx]))
    simp only [valD, List.length_cons, List.replicate_succ]
    rw [Nat.mul_add, Nat.mul_one, Nat.mul_left_comm]
    have h3 := Nat.mul_le_mul_left (2 ^ 8) h2
    omega
/-- eight digits of eight bits, added up -/
theorem sum_bytes (l : List Nat) (hl : l.length = 8) (hd : ∀ d, d ∈ l → d ≤ 8) (c d e : Nat) (hc : c = valD 8 l) (hdd : d = c + c / 256) (he : e = d + d / 65536) : c < 1152921504606846976 ∧ (e + e / 4294967296) % 128 = l.sum := by
  constructor
  · have := val_le 8 l hd
    rw [hl] at this
    rw [hc]
    have e8 : valD 8 (List.replicate 8 1) = 72340172838076673 := by decide
    rw [e8] at this
    omega
  · match l, hl, hd, hc with
    | [d0, d1, d2, d3, d4, d5, d6, d7], _, hd, hc =>
      have h0 := hd d0 (by simp)
      have h1 := hd d1 (by simp)
      have h2 := hd d2 (by simp)
      have h3 := hd d3 (by simp)
      have h4 := hd d4 (by simp)
      have h5 := hd d5 (by simp)
      have h6 := hd d6 (by simp)
      have h7 := hd d7 (by simp)
      clear hd
      have e0 : c = d0 + 256 * (d1 + 256 * (d2 + 256 * (d3 + 256 * (d4 + 256 * (d5 + 256 * (d6 + 256 * (d7))))))) := by rw [hc]; simp [valD]
      have a1 : c / 256 = d1 + 256 * (d2 + 256 * (d3 + 256 * (d4 + 256 * (d5 + 256 * (d6 + 256 * (d7)))))) := by rw [e0]; exact dv _ _ (by omega)
      have a2 : d = (d0 + d1) + 256 * ((d1 + d2) + 256 * ((d2 + d3) + 256 * ((d3 + d4) + 256 * ((d4 + d5) + 256 * ((d5 + d6) + 256 * ((d6 + d7) + 256 * (d7))))))) := by
        rw [hdd, a1, e0, add2, add2, add2, add2, add2, add2, add1]
      have a3 : d / 65536 = (d2 + d3) + 256 * ((d3 + d4) + 256 * ((d4 + d5) + 256 * ((d5 + d6) + 256 * ((d6 + d7) + 256 * (d7))))) := by
        rw [a2, show 65536 = 256 * 256 from rfl, ← Nat.div_div_eq_div_mul, dv _ _ (by omega), dv _ _ (by omega)]
      have a4 : e = ((d0 + d1) + (d2 + d3)) + 256 * (((d1 + d2) + (d3 + d4)) + 256 * (((d2 + d3) + (d4 + d5)) + 256 * (((d3 + d4) + (d5 + d6)) + 256 * (((d4 + d5) + (d6 + d7)) + 256 * (((d5 + d6) + d7) + 256 * ((d6 + d7) + 256 * (d7))))))) := by
        rw [he, a3, a2, add2, add2, add2, add2, add2, add1]
      have a5 : e / 4294967296 = ((d4 + d5) + (d6 + d7)) + 256 * (((d5 + d6) + d7) + 256 * ((d6 + d7) + 256 * (d7))) := by
        rw [a4, show 4294967296 = 256 * 256 * 256 * 256 from rfl, ← Nat.div_div_eq_div_mul, ← Nat.div_div_eq_div_mul, ← Nat.div_div_eq_div_mul, dv _ _ (by omega), dv _ _ (by omega), dv _ _ (by omega), dv _ _ (by omega)]
      rw [a5, a4, low7 _ _ _ _ (by omega)]
      simp only [List.sum_cons, List.sum_nil]
      omega

end Go.Proofs.Ytlkhmcajedjojaa

namespace Go.Proofs.Ytlkhmcajedjojaa
open Go.RowKit

theorem w64 (x : Int) : IntKind.i64.wrap x = wrap64 x := by rw [IntKind.wrap_i64]; unfold wrap64; rfl
theorem and_127 (f : Nat) (hfl : f < 9223372036854775808) : bits BinOp.and IntKind.i64 (f : Int) 127 = ((f % 128 : Nat) : Int) := by
  have hk : ∀ (n : Int), 0 ≤ n → n < 2 ^ 63 → IntKind.i64.wrap n = n := fun n h0 h1 => wrapI n (by omega) (by omega)
  have h := bits_mask .i64 63 (by decide) hk 7 (by decide) (f : Int) (by omega) (by omega)
  have e7 : (2 : Int) ^ 7 = 128 := by decide
  have e8 : (128 : Int) - 1 = 127 := by decide
  rw [e7, e8] at h
  rw [h]; omega

set_option maxHeartbeats 1000000 in
theorem ones_any (x : Nat) (hx : x < 18446744073709551616) (w : World) :
    Calls Try.prog 42 #[.int .u64 (x : Int)] w fun e w' => e = .returned (.int .i64 (((bitsD 64 x).sum : Nat) : Int)) ∧ w' = w := by
  have hb := bits_length 64 x
  have h0 := count_step 1 32 (bitsD 64 x) hb (fun d h => by have := bits_lt 64 x d h; omega)
  rw [val_bits 64 x hx, m0] at h0
  have l1 := pairs_length _ 32 hb
  have s1 := pairs_le _ 32 1 hb (bits_lt 64 x)
  have h1 := count_step 2 16 _ l1 (fun d h => by have := s1 d h; omega)
  rw [m1] at h1
  have l2 := pairs_length _ 16 l1
  have s2 := pairs_le _ 16 2 l1 s1
  have h2 := sum_and 4 8 4 (by decide) _ l2 s2
  rw [m2] at h2
  have l3 := pairs_length _ 8 l2
  have s3 := pairs_le _ 8 4 l2 s2
  obtain ⟨c, hc⟩ : ∃ c, c = valD 8 (pairsD (pairsD (pairsD (bitsD 64 x)))) := ⟨_, rfl⟩
  obtain ⟨d, hd⟩ : ∃ d, d = c + c / 256 := ⟨_, rfl⟩
  obtain ⟨e, he⟩ : ∃ e, e = d + d / 65536 := ⟨_, rfl⟩
  obtain ⟨hclt, hsum⟩ := sum_bytes _ l3 s3 c d e hc hd he
  rw [pairs_sum, pairs_sum, pairs_sum] at hsum
  rw [← hsum]
  replace h2 : _ = c := h2.trans hc.symm
  clear hsum l1 l2 l3 s1 s2 s3 hb hc
  generalize valD (2 * 2) (pairsD (pairsD (bitsD 64 x))) = b at *
  generalize valD (2 * 1) (pairsD (bitsD 64 x)) = a at *
  obtain ⟨x1, hx1⟩ : ∃ y : Nat, y = x / 2 ^ 1 &&& 6148914691236517205 := ⟨_, rfl⟩
  obtain ⟨x2, hx2⟩ : ∃ y : Nat, y = x &&& 6148914691236517205 := ⟨_, rfl⟩
  have b0 : x1 ≤ 6148914691236517205 := by rw [hx1]; exact and_le _ _
  have b0' : x2 ≤ 6148914691236517205 := by rw [hx2]; exact and_le _ _
  have q1 : bits BinOp.and IntKind.u64 ((x : Int) / 2) 6148914691236517205 = (x1 : Int) := by rw [hx1]; exact and_div x 2 6148914691236517205 hx (by decide)
  have q2 : bits BinOp.and IntKind.u64 (x : Int) 6148914691236517205 = (x2 : Int) := by rw [hx2]; exact and_bits x 6148914691236517205 hx (by decide)
  rw [← hx1, ← hx2] at h0
  clear hx1 hx2
  have q3 : IntKind.u64.wrap ((x1 : Int) + (x2 : Int)) = (a : Int) := by rw [add_small _ _ (by omega), h0]
  have ha : a < 18446744073709551616 := by omega
  obtain ⟨a1, ha1⟩ : ∃ y : Nat, y = a / 2 ^ 2 &&& 3689348814741910323 := ⟨_, rfl⟩
  obtain ⟨a2, ha2⟩ : ∃ y : Nat, y = a &&& 3689348814741910323 := ⟨_, rfl⟩
  have b1 : a1 ≤ 3689348814741910323 := by rw [ha1]; exact and_le _ _
  have b1' : a2 ≤ 3689348814741910323 := by rw [ha2]; exact and_le _ _
  have q4 : bits BinOp.and IntKind.u64 ((a : Int) / 4) 3689348814741910323 = (a1 : Int) := by rw [ha1]; exact and_div a 4 3689348814741910323 ha (by decide)
  have q5 : bits BinOp.and IntKind.u64 (a : Int) 3689348814741910323 = (a2 : Int) := by rw [ha2]; exact and_bits a 3689348814741910323 ha (by decide)
  rw [← ha1, ← ha2] at h1
  clear ha1 ha2
  have q6 : IntKind.u64.wrap ((a1 : Int) + (a2 : Int)) = (b : Int) := by rw [add_small _ _ (by omega), h1]
  have hb : b < 7378697629483820648 := by omega
  have hb4 : b / 2 ^ 4 ≤ b := Nat.div_le_self _ _
  obtain ⟨b3, hb3⟩ : ∃ y : Nat, y = b / 2 ^ 4 + b := ⟨_, rfl⟩
  have hb3l : b3 < 18446744073709551616 := by omega
  have q7 : IntKind.u64.wrap ((b : Int) / 16 + (b : Int)) = (b3 : Int) := by rw [hb3]; exact add_div b 16 (by omega)
  rw [← hb3] at h2
  clear hb3
  have q8 : bits BinOp.and IntKind.u64 (b3 : Int) 1085102592571150095 = (c : Int) := by rw [← h2]; exact and_bits b3 1085102592571150095 hb3l (by decide)
  have k1 : c / 256 ≤ c := Nat.div_le_self _ _
  have k2 : d / 65536 ≤ d := Nat.div_le_self _ _
  have k3 : e / 4294967296 ≤ e := Nat.div_le_self _ _
  have q9 : IntKind.u64.wrap ((c : Int) + (c : Int) / 256) = (d : Int) := by rw [hd]; exact add_div' c 256 (by omega)
  have q10 : IntKind.u64.wrap ((d : Int) + (d : Int) / 65536) = (e : Int) := by rw [he]; exact add_div' d 65536 (by omega)
  obtain ⟨f, hf⟩ : ∃ y : Nat, y = e + e / 4294967296 := ⟨_, rfl⟩
  have q11 : IntKind.u64.wrap ((e : Int) + (e : Int) / 4294967296) = (f : Int) := by rw [hf]; exact add_div' e 4294967296 (by omega)
  have hfl : f < 9223372036854775808 := by omega
  rw [← hf]
  clear hf k1 k2 k3
  have q13 : wrap64 (f : Int) = (f : Int) := by rw [← w64]; exact wrapI _ (by omega) (by omega)
  have q14 : bits BinOp.and IntKind.i64 (f : Int) 127 = ((f % 128 : Nat) : Int) := and_127 f hfl
  clear h0 h1 h2 hd he b0 b0' b1 b1' hb4 hb ha hclt hfl hx hb3l
  go_enter Try.func42, Try.ntmps42
  go_wp2
  go_ret
  refine ⟨ret_int ?_, rfl⟩
  exact (Int.natCast_emod f 128).symm

end Go.Proofs.Ytlkhmcajedjojaa

namespace Go.Proofs.Ytlkhmcajedjojaa
open Go.RowKit

theorem shift_l (x y : Nat) : Op.shift BinOp.shl IntKind.u64 (x : Int) IntKind.u64 (y : Int) = pure (Value.int IntKind.u64 (((x * 2 ^ (min y 64)) % 18446744073709551616 : Nat) : Int)) := by
  rw [Op.shift.eq_1, if_neg (by omega)]
  simp only [Int.toNat_natCast]
  rw [show IntKind.u64.bits = 64 from rfl, shl_wrap]
theorem shift_r (x y : Nat) : Op.shift BinOp.shr IntKind.u64 (x : Int) IntKind.u64 (y : Int) = pure (Value.int IntKind.u64 ((x / 2 ^ (min y 64) : Nat) : Int)) := by
  rw [Op.shift.eq_1, if_neg (by omega)]
  simp only [Int.toNat_natCast]
  rw [show IntKind.u64.bits = 64 from rfl, Int.fdiv_eq_ediv_of_nonneg _ (Int.le_of_lt (Int.pow_pos (by decide))), div_cast]
/-- an operation with two operands -/
def bothN (kind : Int) (x y : Nat) : Nat :=
  if kind = 12 then x &&& y else if kind = 13 then x ||| y else if kind = 14 then x ^^^ y
  else if kind = 15 then (x + y) % 18446744073709551616 else if kind = 16 then (x + (18446744073709551616 - y)) % 18446744073709551616 else if kind = 17 then (x * y) % 18446744073709551616
  else if kind = 18 then (x * 2 ^ (min y 64)) % 18446744073709551616 else if kind = 19 then x / 2 ^ (min y 64)
  else if kind = 20 then bitOf (decide (x = y)) else bitOf (decide (x < y))

set_option maxHeartbeats 4000000 in
theorem ofBoth_any (kind : Int) (x y : Nat) (hx : x < 18446744073709551616) (hy : y < 18446744073709551616) (hk : kind = 12 ∨ kind = 13 ∨ kind = 14 ∨ kind = 15 ∨ kind = 16 ∨ kind = 17 ∨ kind = 18 ∨ kind = 19 ∨ kind = 20 ∨ kind = 21) (w : World) :
    Calls Try.prog 43 #[.int .i64 kind, .int .u64 (x : Int), .int .u64 (y : Int)] w fun e w' => e = .returned (.int .u64 ((bothN kind x y : Nat) : Int)) ∧ w' = w := by
  have ON : Hid (∀ b w, Calls Try.prog 41 #[.bool b] w fun e w' => e = .returned (.int .u64 ((bitOf b : Nat) : Int)) ∧ w' = w) := one_any
  have sl := shift_l x y
  have sr := shift_r x y
  rcases hk with rfl | rfl | rfl | rfl | rfl | rfl | rfl | rfl | rfl | rfl
  all_goals
    go_enter Try.func43, Try.ntmps43
    go_wp2_with (go_at_call 41; refine (ON.out _ _).mono ?_; rintro e w' ⟨rfl, hw'⟩; subst w')
    go_ret
    refine ⟨ret_int ?_, rfl⟩
  · exact and_bits x y hx hy
  · exact or_bits x y hx hy
  · exact xor_bits x y hx hy
  · exact add_wrap x y
  · exact sub_wrap x y hy
  · exact mul_wrap x y
  · rfl
  · rfl
  · show ((bitOf _ : Nat) : Int) = ((bitOf _ : Nat) : Int)
    congr 2; rw [Bool.eq_iff_iff]; simp; omega
  · show ((bitOf _ : Nat) : Int) = ((bitOf _ : Nat) : Int)
    first | rfl | (congr 2; done) | (congr 2; rw [Bool.eq_iff_iff]; done) | (congr 2; rw [Bool.eq_iff_iff]; simp)

end Go.Proofs.Ytlkhmcajedjojaa
