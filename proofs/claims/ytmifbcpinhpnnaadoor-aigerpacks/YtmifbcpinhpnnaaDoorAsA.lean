import Derived.Test.YtmifbcpinhpnnaaDoorArG
namespace Go.Proofs.YtmifbcpinhpnnaaDoor
open Go.RowKit

/-- a number in bytes of seven bits -/
def sevenT (n : Nat) : List UInt8 := if n ≤ 127 then [UInt8.ofNat n] else UInt8.ofNat (n % 128 + 128) :: sevenT (n / 128)
termination_by n
decreasing_by omega
theorem sevenT_small (n : Nat) (h : n ≤ 127) : sevenT n = [UInt8.ofNat n] := by rw [sevenT, if_pos h]
theorem sevenT_big (n : Nat) (h : 127 < n) : sevenT n = UInt8.ofNat (n % 128 + 128) :: sevenT (n / 128) := by rw [sevenT, if_neg (by omega)]
theorem sevenT_len (d n : Nat) (h : n < 128 ^ (d + 1)) : (sevenT n).length ≤ d + 1 := by
  induction d generalizing n with
  | zero => rw [sevenT_small n (by omega)]; simp
  | succ d ih =>
    by_cases h9 : n ≤ 127
    · rw [sevenT_small n h9]; simp
    · rw [sevenT_big n (by omega)]
      have := ih (n / 128) (by rw [Nat.div_lt_iff_lt_mul (by decide)]; rw [Nat.pow_succ] at h; exact h)
      simp; omega
theorem seven_len (n : Nat) (h : n < 4294967296) : (sevenT n).length ≤ 5 := sevenT_len 4 n (by omega)
theorem seven_pos (n : Nat) : 0 < (sevenT n).length := by
  by_cases h : n ≤ 127
  · rw [sevenT_small n h]; simp
  · rw [sevenT_big n (by omega)]; simp
theorem byte_nat (m : Nat) (h : m < 256) : ((UInt8.ofNat m).toNat : Int) = (m : Int) := by
  rw [UInt8.toNat_ofNat']
  omega

set_option maxRecDepth 100000 in
set_option maxHeartbeats 8000000 in
theorem appendPacked_any (B : Nat) (w : World) (v : Value) (t : List UInt8) (h : Txt B w v t) (hB : B ≤ w.heap.size) (hl : t.length ≤ 60000000) (n : Nat) (hn : n < 4294967296) :
    Calls Tryd.prog 33 #[v, .int .i64 (n : Int)] w fun e w' => ∃ v', e = .returned v' ∧ Txt B w' v' (t ++ sevenT n) ∧ Step w v w' v' := by
  obtain ⟨i0, hi, hz, hs, hb⟩ := info_u8
  have HI := hidden hi
  have HZ := hidden hz
  have HS := hidden hs
  have HBY := hidden hb
  have HTX := hidden h
  clear hi hz hs hb h
  go_enter Tryd.func33, Tryd.ntmps33
  go_wp2_with fail
  go_loopw [0, 1] (fun b' i' w' => ∃ (k : Nat) (l : List UInt8), k ≤ n ∧ i' = .int .i64 (k : Int) ∧ Hid (sevenT n = l ++ sevenT k) ∧ Hid (Txt B w' b' (t ++ l)) ∧ Hid (Step w v w' b')) (fun _ i' _ => (intOf i').toNat)
  case atStart => exact ⟨n, [], Nat.le_refl _, rfl, by simp [Hid], by show Txt _ _ _ _; simpa using HTX.out, Step.refl _ _⟩
  case round =>
    obtain ⟨k, l, hk, rfl, HL, HT, HSt⟩ := hrel
    have hsz := HSt.out.1.size
    have hll : l.length ≤ 10 := by
      have h1 := seven_len n hn
      rw [HL.out, List.length_append] at h1
      omega
    have hlen : (t ++ l).length ≤ 100000000 := by rw [List.length_append]; omega
    by_cases h9 : 128 ≤ k
    · obtain ⟨c, hc⟩ : ∃ c : UInt8, c = UInt8.ofNat (k % 128 + 128) := ⟨_, rfl⟩
      have hcn : (c.toNat : Int) = ((k % 128 + 128 : Nat) : Int) := by rw [hc]; exact byte_nat _ (by omega)
      have q1 : Int.tmod (k : Int) 128 = ((k % 128 : Nat) : Int) := by rw [Int.tmod_eq_emod_of_nonneg (by omega)]; omega
      have q2 : Int.tdiv (k : Int) 128 = ((k / 128 : Nat) : Int) := by rw [Int.tdiv_eq_ediv_of_nonneg (by omega)]; omega
      have HNX : Hid (sevenT n = (l ++ [c]) ++ sevenT (k / 128)) := by
        show _ = _
        rw [HL.out, sevenT_big k (by omega), hc]; simp
      have hgeI : (128 : Int) ≤ (k : Int) := by omega
      have hk2 : k / 128 < k := by omega
      have hk3 : k / 128 ≤ n := by omega
      have e0 : IntKind.i64.wrap ((k % 128 : Nat) : Int) = ((k % 128 : Nat) : Int) := wrapI _ (by omega) (by omega)
      have e1 : IntKind.i64.wrap (((k % 128 : Nat) : Int) + 128) = ((k % 128 : Nat) : Int) + 128 := wrapI _ (by omega) (by omega)
      have E1 : Hid (((k % 128 : Nat) : Int) + 128 = (c.toNat : Int)) := by show _ = _; omega
      have e2 : IntKind.u8.wrap (((k % 128 : Nat) : Int) + 128) = ((k % 128 : Nat) : Int) + 128 := by rw [IntKind.wrap_u8]; omega
      have e3 : IntKind.i64.wrap ((k / 128 : Nat) : Int) = ((k / 128 : Nat) : Int) := wrapI _ (by omega) (by omega)
      generalize k % 128 = a at *
      generalize k / 128 = kd at *
      have HOA : Hid (OwnM (wr.alloc (.cells #[.int .u8 ((a : Int) + 128)] 5)) B 5 u0 (t ++ l).length (bC8 (t ++ l))) := OwnM.alloc HT.out _
      have hb1 : (t ++ l).length + 1 ≤ 1000000000000 := by omega
      have hB1 : B ≤ (wr.alloc (.cells #[.int .u8 ((a : Int) + 128)] 5)).heap.size := by simp; omega
      clear HL hc hcn
      have tok : True := trivial
      go_wp2_with (have _t := tok; at_builtin; (refine wpList_appendM _ rfl (.tmp 7) (.tmp 12) 33 rfl B 5 i0 Tryd.underlying33 HI.out HZ.out HS.out HBY.out u0 _ _ rfl HOA.out ⟨wr.heap.size, 0, none⟩ 1 1 [.int .u8 ((a : Int) + 128)] rfl rfl (World.news_of_block (heap_new _ _)) (by simp [Value.oneCell']) hb1 hB1 ?_; intro v4 w4 hown4 hst4; clear tok))
      have HT4 : Hid (Txt B w4 v4 (t ++ (l ++ [c]))) := by
        show Txt _ _ _ _
        rw [E1.out] at hown4
        rw [← List.append_assoc]; exact txt_one hown4
      have HS4 : Hid (Step w v w4 v4) := (HSt.out.trans (Step.same ((Below.refl _ _).alloc (Nat.le_refl _) _))).trans hst4
      clear hown4 hst4 HT HSt HOA hb1 hB1
      go_roundw
      case measure => simp [intOf]; omega
      case rel => exact ⟨kd, l ++ [c], hk3, rfl, HNX.out, HT4.out, HS4.out⟩
    · obtain ⟨c, hc⟩ : ∃ c : UInt8, c = UInt8.ofNat k := ⟨_, rfl⟩
      have hcn : (c.toNat : Int) = (k : Int) := by rw [hc]; exact byte_nat _ (by omega)
      have hge : ¬ ((128 : Int) ≤ (k : Int)) := by omega
      have e2 : IntKind.u8.wrap (k : Int) = (c.toNat : Int) := by rw [IntKind.wrap_u8]; omega
      have HNX : Hid (sevenT n = l ++ [c]) := by
        show _ = _
        rw [HL.out, sevenT_small k (by omega), hc]
      have HOA : Hid (OwnM (wr.alloc (.cells #[.int .u8 (c.toNat : Int)] 5)) B 5 u0 (t ++ l).length (bC8 (t ++ l))) := OwnM.alloc HT.out _
      have hb1 : (t ++ l).length + 1 ≤ 1000000000000 := by omega
      have hB1 : B ≤ (wr.alloc (.cells #[.int .u8 (c.toNat : Int)] 5)).heap.size := by simp; omega
      clear HL hc hcn
      have tok : True := trivial
      go_wp2_with (have _t := tok; at_builtin; (refine wpList_appendM _ rfl (.tmp 16) (.tmp 19) 33 rfl B 5 i0 Tryd.underlying33 HI.out HZ.out HS.out HBY.out u0 _ _ rfl HOA.out ⟨wr.heap.size, 0, none⟩ 1 1 [.int .u8 (c.toNat : Int)] rfl rfl (World.news_of_block (heap_new _ _)) (by simp [Value.oneCell']) hb1 hB1 ?_; intro v4 w4 hown4 hst4; clear tok))
      go_ret
      refine ⟨v4, rfl, ?_, (HSt.out.trans (Step.same ((Below.refl _ _).alloc (Nat.le_refl _) _))).trans hst4⟩
      rw [HNX.out, ← List.append_assoc]; exact txt_one hown4

end Go.Proofs.YtmifbcpinhpnnaaDoor
