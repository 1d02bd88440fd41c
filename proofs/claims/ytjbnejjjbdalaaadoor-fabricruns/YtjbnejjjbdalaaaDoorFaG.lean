import Derived.Test.YtjbnejjjbdalaaaDoorFaF
namespace Go.Proofs.YtjbnejjjbdalaaaDoor
open Go.RowKit

theorem bitN_over (bs : List Nat) (p : Nat) (h : 8 * bs.length ≤ p) : bitN bs p = 0 := by
  unfold bitN
  rw [show bs.getD (p / 8) 0 = 0 by rw [List.getD_eq_getElem?_getD, List.getElem?_eq_none (by omega)]; rfl]
  simp
theorem bitN_min (bs : List Nat) (p : Nat) : bitN bs (min p (8 * bs.length)) = bitN bs p := by
  by_cases h : p ≤ 8 * bs.length
  · rw [Nat.min_eq_left h]
  · rw [Nat.min_eq_right (by omega), bitN_over _ _ (Nat.le_refl _), bitN_over _ _ (by omega)]
theorem or_bit (a b : Nat) (hb : b < 2) : a * 2 ||| b = 2 * a + b := by
  have := or_mul a b 1 (by omega)
  rw [Nat.pow_one] at this
  rw [this]; omega
theorem or_i64 (a b : Nat) (ha : a < 9223372036854775808) (hb : b < 9223372036854775808) : bits BinOp.or IntKind.i64 (a : Int) (b : Int) = ((a ||| b : Nat) : Int) := by
  show IntKind.i64.wrap ((BitVec.ofInt 64 (a : Int) ||| BitVec.ofInt 64 (b : Int)).toNat : Int) = _
  have hx : a ||| b < 2 ^ 63 := Nat.or_lt_two_pow (by omega) (by omega)
  rw [BitVec.toNat_or, ofInt_u64 a (by omega), ofInt_u64 b (by omega), IntKind.wrap_i64]
  omega
/-- the reader behind so many bits -/
def ldQ (a : Option Addr) (bs : List Nat) (c p : Nat) (wrong : Bool) : Array Value := ldA a bs.length c (min p (8 * bs.length) : Nat) (wrong || decide (8 * bs.length < p))

set_option maxRecDepth 100000 in
set_option maxHeartbeats 8000000 in
theorem number_any (B : Nat) (w : World) (lb : Nat) (hB : B ≤ lb) (a : Option Addr) (c : Nat) (bs : List Nat) (p n : Nat) (wrong : Bool) (hb : Blk w lb 79 (ldQ a bs c p wrong)) (R : RowAt B w a 1 (bs.map byteC)) (hl : bs.length < 281474976710656) (hby : ∀ x, x ∈ bs → x < 256) (hn : n ≤ 16) :
    Calls Tryd.prog 39 #[.pointer (some ⟨lb, 0, none⟩), .int .i64 (n : Int)] w fun e w' => e = .returned (.int .i64 ((numN bs p n : Nat) : Int)) ∧ But lb w w' ∧ Blk w' lb 79 (ldQ a bs c (p + n) wrong) := by
  have HBT : Hid (∀ (v : World) (i : Nat), But lb w v → Blk v lb 79 (ldQ a bs c (p + i) wrong) → Calls Tryd.prog 45 #[.pointer (some ⟨lb, 0, none⟩)] v fun e w' => e = .returned (.int .i64 ((bitN bs (p + i) : Nat) : Int)) ∧ But lb w w' ∧ Blk w' lb 79 (ldQ a bs c (p + (i + 1)) wrong)) := fun v i hv hk => by
    refine (bit_any B v lb hB a c bs _ _ hk (R.to (hv.below hB (by have := hb.lt; omega))) hl hby (Nat.min_le_right _ _)).mono ?_
    rintro e w' ⟨rfl, h1, h2⟩
    refine ⟨by rw [bitN_min], hv.trans h1, ?_⟩
    have e1 : min (min (p + i) (8 * bs.length) + 1) (8 * bs.length) = min (p + (i + 1)) (8 * bs.length) := by omega
    have e2 : ((wrong || decide (8 * bs.length < p + i)) || decide (8 * bs.length < min (p + i) (8 * bs.length) + 1)) = (wrong || decide (8 * bs.length < p + (i + 1))) := by
      cases wrong
      · by_cases g : 8 * bs.length < p + (i + 1)
        · by_cases g2 : 8 * bs.length < p + i
          · simp [g, g2]
          · have : 8 * bs.length < min (p + i) (8 * bs.length) + 1 := by omega
            simp [g, this]
        · have g2 : ¬ 8 * bs.length < p + i := by omega
          have g3 : ¬ 8 * bs.length < min (p + i) (8 * bs.length) + 1 := by omega
          simp only [decide_eq_false g, decide_eq_false g2, decide_eq_false g3, Bool.false_or]
      · simp
    rw [e1, e2] at h2
    exact h2
  have HB0 := hidden hb
  have HBL : Hid (∀ i, bitN bs (p + i) < 2) := fun i => bitN_lt bs (p + i)
  have HNL : Hid (∀ i, numN bs p i < 2 ^ i) := fun i => numN_lt bs p i
  clear hb R hby hB
  go_enter Tryd.func39, Tryd.ntmps39
  go_wp2_with fail
  go_loopw [7, 5] (fun i' v' w' => ∃ (i v : Nat), i ≤ n ∧ i' = .int .i64 i ∧ v' = .int .i64 v ∧ v < 65536 ∧ Hid (v = numN bs p i) ∧ Hid (But lb w w') ∧ Hid (Blk w' lb 79 (ldQ a bs c (p + i) wrong))) (fun i' _ _ => n - (intOf i').toNat)
  case atStart => exact ⟨0, 0, Nat.zero_le _, rfl, rfl, by decide, rfl, But.refl _ _, HB0.out⟩
  case round =>
    obtain ⟨i, v, hi, rfl, rfl, hv, HV, HBu, HBk⟩ := hrel
    by_cases hlt : i < n
    · have hltI : (i : Int) < (n : Int) := by omega
      have ei : IntKind.i64.wrap ((i : Int) + 1) = (i : Int) + 1 := wrapI _ (by omega) (by omega)
      have ev : IntKind.i64.wrap ((v : Int) * 2) = (v : Int) * 2 := wrapI _ (by omega) (by omega)
      obtain ⟨q, HQ⟩ : ∃ q, Hid (bitN bs (p + i) = q) := ⟨_, rfl⟩
      have hq : q < 2 := by rw [← HQ.out]; exact HBL.out i
      have HCL := hidden (HBT.out wr i HBu.out HBk.out)
      rw [HQ.out] at HCL
      have HN1 : Hid (2 * v + q = numN bs p (i + 1)) := by show _ = _; rw [numN, ← HV.out, HQ.out]
      have hn1 : 2 * v + q < 65536 := by
        have h1 := HNL.out (i + 1)
        have h2 : 2 ^ (i + 1) ≤ 2 ^ 16 := Nat.pow_le_pow_right (by decide) (by omega)
        rw [← HN1.out] at h1
        omega
      have HE : Hid (bits BinOp.or IntKind.i64 ((v : Int) * 2) (q : Int) = ((2 * v + q : Nat) : Int)) := by
        show _ = _
        rw [← or_bit v q hq]
        exact or_i64 (v * 2) q (by omega) (by omega)
      go_wp2_with (go_at_call 45; refine HCL.out.mono ?_; rintro e v1 ⟨rfl, h1, h2⟩; have HB1 := hidden h1; have HB2 := hidden h2; clear h1 h2)
      go_roundw
      case measure => simp [intOf]; omega
      case rel => exact ⟨i + 1, 2 * v + q, by omega, by simp, by rw [← HE.out], hn1, HN1.out, HB1.out, HB2.out⟩
    · have hge : ¬ ((i : Int) < (n : Int)) := by omega
      have HF : Hid (v = numN bs p n) := by show _ = _; rw [HV.out, show i = n by omega]
      have HG : Hid (Blk wr lb 79 (ldQ a bs c (p + n) wrong)) := by have := HBk.out; rwa [show i = n by omega] at this
      go_wp2
      go_ret
      exact ⟨ret_int (by rw [HF.out]), HBu.out, HG.out⟩

end Go.Proofs.YtjbnejjjbdalaaaDoor
