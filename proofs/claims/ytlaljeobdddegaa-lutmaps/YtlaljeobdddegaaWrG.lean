import Derived.Test.YtlaljeobdddegaaWrF
namespace Go.Proofs.Ytlaljeobdddegaa
open Go.RowKit

theorem w64 (x : Int) : IntKind.i64.wrap x = wrap64 x := by rw [IntKind.wrap_i64]; unfold wrap64; rfl
theorem and_127 (f : Nat) (hfl : f < 9223372036854775808) : bits BinOp.and IntKind.i64 (f : Int) 127 = ((f % 128 : Nat) : Int) := by
  have hk : ∀ (n : Int), 0 ≤ n → n < 2 ^ 63 → IntKind.i64.wrap n = n := fun n h0 h1 => wrapI n (by omega) (by omega)
  have h := bits_mask .i64 63 (by decide) hk 7 (by decide) (f : Int) (by omega) (by omega)
  have e7 : (2 : Int) ^ 7 = 128 := by decide
  have e8 : (128 : Int) - 1 = 127 := by decide
  rw [e7, e8] at h
  rw [h]; omega

set_option maxHeartbeats 1000000 in
theorem ones_any (x : Nat) (hx : x < 18446744073709551616) (w : World) :
    Calls Try.prog 74 #[.int .u64 (x : Int)] w fun e w' => e = .returned (.int .i64 (((bitsD 64 x).sum : Nat) : Int)) ∧ w' = w := by
  have hb := bits_length 64 x
  have h0 := count_step 1 32 (bitsD 64 x) hb (fun d h => by have := bits_lt 64 x d h; omega)
  rw [val_bits 64 x hx, m0] at h0
  have l1 := pairs_length _ 32 hb
  have s1 := pairs_le _ 32 1 hb (bits_lt 64 x)
  have h1 := count_step 2 16 _ l1 (fun d h => by have := s1 d h; omega)
  rw [m1] at h1
  have l2 := pairs_length _ 16 l1
  have s2 := pairs_le _ 16 2 l1 s1
  have h2 := sum_and 4 8 4 (by decide) _ l2 s2
  rw [m2] at h2
  have l3 := pairs_length _ 8 l2
  have s3 := pairs_le _ 8 4 l2 s2
  obtain ⟨c, hc⟩ : ∃ c, c = valD 8 (pairsD (pairsD (pairsD (bitsD 64 x)))) := ⟨_, rfl⟩
  obtain ⟨d, hd⟩ : ∃ d, d = c + c / 256 := ⟨_, rfl⟩
  obtain ⟨e, he⟩ : ∃ e, e = d + d / 65536 := ⟨_, rfl⟩
  obtain ⟨hclt, hsum⟩ := sum_bytes _ l3 s3 c d e hc hd he
  rw [pairs_sum, pairs_sum, pairs_sum] at hsum
  rw [← hsum]
  replace h2 : _ = c := h2.trans hc.symm
  clear hsum l1 l2 l3 s1 s2 s3 hb hc
  generalize valD (2 * 2) (pairsD (pairsD (bitsD 64 x))) = b at *
  generalize valD (2 * 1) (pairsD (bitsD 64 x)) = a at *
  obtain ⟨x1, hx1⟩ : ∃ y : Nat, y = x / 2 ^ 1 &&& 6148914691236517205 := ⟨_, rfl⟩
  obtain ⟨x2, hx2⟩ : ∃ y : Nat, y = x &&& 6148914691236517205 := ⟨_, rfl⟩
  have b0 : x1 ≤ 6148914691236517205 := by rw [hx1]; exact and_le _ _
  have b0' : x2 ≤ 6148914691236517205 := by rw [hx2]; exact and_le _ _
  have q1 : bits BinOp.and IntKind.u64 ((x : Int) / 2) 6148914691236517205 = (x1 : Int) := by rw [hx1]; exact and_div x 2 6148914691236517205 hx (by decide)
  have q2 : bits BinOp.and IntKind.u64 (x : Int) 6148914691236517205 = (x2 : Int) := by rw [hx2]; exact and_bits x 6148914691236517205 hx (by decide)
  rw [← hx1, ← hx2] at h0
  clear hx1 hx2
  have q3 : IntKind.u64.wrap ((x1 : Int) + (x2 : Int)) = (a : Int) := by rw [add_small _ _ (by omega), h0]
  have ha : a < 18446744073709551616 := by omega
  obtain ⟨a1, ha1⟩ : ∃ y : Nat, y = a / 2 ^ 2 &&& 3689348814741910323 := ⟨_, rfl⟩
  obtain ⟨a2, ha2⟩ : ∃ y : Nat, y = a &&& 3689348814741910323 := ⟨_, rfl⟩
  have b1 : a1 ≤ 3689348814741910323 := by rw [ha1]; exact and_le _ _
  have b1' : a2 ≤ 3689348814741910323 := by rw [ha2]; exact and_le _ _
  have q4 : bits BinOp.and IntKind.u64 ((a : Int) / 4) 3689348814741910323 = (a1 : Int) := by rw [ha1]; exact and_div a 4 3689348814741910323 ha (by decide)
  have q5 : bits BinOp.and IntKind.u64 (a : Int) 3689348814741910323 = (a2 : Int) := by rw [ha2]; exact and_bits a 3689348814741910323 ha (by decide)
  rw [← ha1, ← ha2] at h1
  clear ha1 ha2
  have q6 : IntKind.u64.wrap ((a1 : Int) + (a2 : Int)) = (b : Int) := by rw [add_small _ _ (by omega), h1]
  have hb : b < 7378697629483820648 := by omega
  have hb4 : b / 2 ^ 4 ≤ b := Nat.div_le_self _ _
  obtain ⟨b3, hb3⟩ : ∃ y : Nat, y = b / 2 ^ 4 + b := ⟨_, rfl⟩
  have hb3l : b3 < 18446744073709551616 := by omega
  have q7 : IntKind.u64.wrap ((b : Int) / 16 + (b : Int)) = (b3 : Int) := by rw [hb3]; exact add_div b 16 (by omega)
  rw [← hb3] at h2
  clear hb3
  have q8 : bits BinOp.and IntKind.u64 (b3 : Int) 1085102592571150095 = (c : Int) := by rw [← h2]; exact and_bits b3 1085102592571150095 hb3l (by decide)
  have k1 : c / 256 ≤ c := Nat.div_le_self _ _
  have k2 : d / 65536 ≤ d := Nat.div_le_self _ _
  have k3 : e / 4294967296 ≤ e := Nat.div_le_self _ _
  have q9 : IntKind.u64.wrap ((c : Int) + (c : Int) / 256) = (d : Int) := by rw [hd]; exact add_div' c 256 (by omega)
  have q10 : IntKind.u64.wrap ((d : Int) + (d : Int) / 65536) = (e : Int) := by rw [he]; exact add_div' d 65536 (by omega)
  obtain ⟨f, hf⟩ : ∃ y : Nat, y = e + e / 4294967296 := ⟨_, rfl⟩
  have q11 : IntKind.u64.wrap ((e : Int) + (e : Int) / 4294967296) = (f : Int) := by rw [hf]; exact add_div' e 4294967296 (by omega)
  have hfl : f < 9223372036854775808 := by omega
  rw [← hf]
  clear hf k1 k2 k3
  have q13 : wrap64 (f : Int) = (f : Int) := by rw [← w64]; exact wrapI _ (by omega) (by omega)
  have q14 : bits BinOp.and IntKind.i64 (f : Int) 127 = ((f % 128 : Nat) : Int) := and_127 f hfl
  clear h0 h1 h2 hd he b0 b0' b1 b1' hb4 hb ha hclt hfl hx hb3l
  go_enter Try.func74, Try.ntmps74
  go_wp2
  go_ret
  refine ⟨ret_int ?_, rfl⟩
  exact (Int.natCast_emod f 128).symm

end Go.Proofs.Ytlaljeobdddegaa
