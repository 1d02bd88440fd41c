import Derived.Test.YtlaljeobdddegaaMrG
namespace Go.Proofs.Ytlaljeobdddegaa
open Go.RowKit Mp

theorem xor_twoN (a b : Nat) (ha : a < 9223372036854775808) (hb : b < 9223372036854775808) : bits BinOp.xor IntKind.i64 (a : Int) (b : Int) = ((a ^^^ b : Nat) : Int) := by
  show IntKind.i64.wrap ((BitVec.ofInt 64 (a : Int) ^^^ BitVec.ofInt 64 (b : Int)).toNat : Int) = _
  have hx : a ^^^ b < 2 ^ 63 := Nat.xor_lt_two_pow (by omega) (by omega)
  rw [BitVec.toNat_xor, ofInt_u64 a (by omega), ofInt_u64 b (by omega), IntKind.wrap_i64]
  omega
set_option maxRecDepth 100000 in
set_option maxHeartbeats 8000000 in
theorem turned_any (w : World) (b p n : Nat) (hp : p < n) (hn : n ≤ 4) :
    Calls Try.prog 54 #[.int .i64 (b : Nat), .int .i64 (p : Nat), .int .i64 (n : Nat)] w fun e w' => e = .returned (.int .i64 (trnT b p n : Nat)) ∧ w' = w := by
  unfold trnT
  obtain ⟨N, HN⟩ := exh (2 ^ n)
  have hN16 : N ≤ 16 := by rw [HN.out]; exact Nat.pow_le_pow_right (n := 2) (by omega) hn
  have hN : wrap64 (2 ^ n) = (N : Int) := by
    have e : ((2 : Int) ^ n) = ((2 ^ n : Nat) : Int) := by push_cast; rfl
    rw [e, ← HN.out]; exact wrap64_of _ (by omega) (by omega)
  have HPN : Hid (2 ^ p < 2 ^ n) := Nat.pow_lt_pow_right (by omega) hp
  rw [← HN.out] at HPN
  rw [← HN.out]
  have HXL : Hid (∀ k, k < N → k ^^^ 2 ^ p < 16) := fun k hk => by
    have h1 : k < 2 ^ n := by rw [← HN.out]; exact hk
    have h2 : 2 ^ p < 2 ^ n := by rw [← HN.out]; exact HPN.out
    have := Nat.xor_lt_two_pow h1 h2
    rw [← HN.out] at this
    omega
  have hn0 : (0 : Int) ≤ (n : Int) := by omega
  have hp0 : (0 : Int) ≤ (p : Int) := by omega
  clear HN
  go_enter Try.func54, Try.ntmps54
  go_wp2_with fail
  generalize wrap64 (2 ^ n) = NI at *
  subst hN
  go_loopw [7, 8, 11] (fun t' _ i' w' => ∃ (k t : Nat), k ≤ N ∧ i' = .int .i64 (k : Int) ∧ t' = .int .i64 (t : Int) ∧ Hid (t = mkB k fun k => b.testBit (k ^^^ 2 ^ p)) ∧ Hid (w' = w)) (fun _ _ i' _ => N - (intOf i').toNat)
  case atStart => exact ⟨0, 0, Nat.zero_le _, rfl, rfl, rfl, rfl⟩
  case round =>
    obtain ⟨k, t, hk, rfl, rfl, HT, HW⟩ := hrel
    obtain rfl := HW.out
    clear HW
    have ht : t < 65536 := by
      rw [HT.out]
      exact Nat.lt_of_lt_of_le (mkB_lt k _) (Nat.pow_le_pow_right (n := 2) (j := 16) (by omega) (by omega))
    by_cases hlt : k < N
    · have hltI : (k : Int) < (N : Int) := by omega
      have e2 : IntKind.i64.wrap ((k : Int) + 1) = (k : Int) + 1 := wrapI _ (by omega) (by omega)
      have hk0 : (0 : Int) ≤ (k : Int) := by omega
      have hxs := HXL.out k hlt
      have hpw : 2 ^ p ≤ 16 := Nat.le_trans (Nat.le_of_lt HPN.out) hN16
      have hxr : bits BinOp.xor IntKind.i64 (k : Int) (wrap64 (2 ^ p)) = ((k ^^^ 2 ^ p : Nat) : Int) := by
        have e : ((2 : Int) ^ p) = ((2 ^ p : Nat) : Int) := by push_cast; rfl
        rw [e]
        generalize 2 ^ p = M at hpw ⊢
        rw [wrap64_of _ (by omega) (by omega)]
        exact xor_twoN _ _ (by omega) (by omega)
      have HNT : Hid ((t ||| (b / 2 ^ (k ^^^ 2 ^ p) % 2) * 2 ^ k) = mkB (k + 1) fun k => b.testBit (k ^^^ 2 ^ p)) := by
        show _ = _
        rw [tb_bit, HT.out]
        exact mkB_or k fun k => b.testBit (k ^^^ 2 ^ p)
      clear HT hpw
      generalize k ^^^ 2 ^ p = s at *
      have hs0 : (0 : Int) ≤ (s : Int) := by omega
      have hor := or_bit t b s k ht (by omega)
      have hms : min s 64 = s := by omega
      generalize (t ||| (b / 2 ^ s % 2) * 2 ^ k) = t2 at *
      clear hxs
      go_wp2
      go_roundw
      case measure => simp [intOf]; omega
      case rel => exact ⟨k + 1, t2, by omega, by simp, rfl, HNT.out, True.intro⟩
    · have hge : ¬ (k : Int) < (N : Int) := by omega
      have hkN : k = N := by omega
      have HF : Hid (t = mkB N fun k => b.testBit (k ^^^ 2 ^ p)) := by rw [← hkN]; exact HT.out
      clear HT hkN
      go_wp2
      go_ret
      exact ⟨ret_int (by rw [HF.out]), rfl⟩
end Go.Proofs.Ytlaljeobdddegaa
