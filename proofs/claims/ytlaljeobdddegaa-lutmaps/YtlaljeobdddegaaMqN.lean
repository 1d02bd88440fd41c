import Derived.Test.YtlaljeobdddegaaMqM
namespace Go.Proofs.Ytlaljeobdddegaa
open Go.RowKit Mp

theorem or_tab (t c s k : Nat) (ht : t < 65536) (hc : c < 65536) (hs : s < 16) (hk : k < 16) : bits BinOp.or IntKind.i64 (t : Int) (wrap64 (wrap64 (bits BinOp.and IntKind.u16 ((c : Int) / 2 ^ min s 16) 1) * 2 ^ k)) = ((t ||| (c / 2 ^ s % 2) * 2 ^ k : Nat) : Int) := by
  rw [Nat.min_eq_left (by omega)]
  have e1 : (c : Int) / 2 ^ s = ((c / 2 ^ s : Nat) : Int) := by push_cast; rfl
  have h1 : c / 2 ^ s ≤ c := Nat.div_le_self _ _
  have e2 := u16_and_nat (c / 2 ^ s) 1 (by omega) (by omega)
  rw [e1]
  rw [show ((1 : Nat) : Int) = 1 from rfl] at e2
  rw [e2, nat_mask1]
  have h3 : c / 2 ^ s % 2 ≤ 1 := by omega
  rw [wrap64_of ((c / 2 ^ s % 2 : Nat) : Int) (by omega) (by omega)]
  have e3 : ((2 : Int) ^ k) = ((2 ^ k : Nat) : Int) := by push_cast; rfl
  have h2 : 2 ^ k ≤ 2 ^ 16 := Nat.pow_le_pow_right (by omega) (by omega)
  have h4 := Nat.mul_le_mul h3 h2
  rw [e3, ← Int.natCast_mul, wrap64_of _ (by omega) (by omega), or_two _ _ (by omega) (by omega)]
set_option maxRecDepth 100000 in
set_option maxHeartbeats 8000000 in
theorem bits_any (w : World) (b o : Nat) (c : Ct) (h : CtAt w b o c) (la : Option Addr) (lc : Nat) (ps : List Nat) (hl : ps.length ≤ 4) (hr : NumR w la ps) (h4 : ∀ p, p ∈ ps → p < 4) (htb : c.tb < 65536) :
    Calls Try.prog 63 #[.pointer (some ⟨b, o, none⟩), .slice la ps.length lc] w fun e w' => e = .returned (.int .i64 (bitT ps c.tb : Nat)) ∧ w' = w := by
  have HR := hidden hr
  have H4 := hidden h4
  have c7 := h.c7
  have HE : Hid (bitT ps c.tb = mkB (2 ^ ps.length) fun k => c.tb.testBit (spS ps k ps.length)) := by
    show _ = _
    unfold bitT
    congr 1
    funext k
    rw [spS_all h4]
  rw [HE.out]
  have HSL : Hid (∀ k j, j ≤ ps.length → spS ps k j < 16) := fun k => spS_lt h4 k
  obtain ⟨n, En⟩ := exh ps.length
  rw [← En.out] at hl ⊢
  rw [← En.out] at HSL
  generalize c.tb = tb at *
  obtain ⟨N, HN⟩ := exh (2 ^ n)
  have hN16 : N ≤ 16 := by rw [HN.out]; exact Nat.pow_le_pow_right (n := 2) (by omega) hl
  have hN : wrap64 (2 ^ n) = (N : Int) := by
    have e : ((2 : Int) ^ n) = ((2 ^ n : Nat) : Int) := by push_cast; rfl
    rw [e, ← HN.out]; exact wrap64_of _ (by omega) (by omega)
  rw [← HN.out]
  clear hr h4 HE h HN
  go_enter Try.func63, Try.ntmps63
  go_wp2_with fail
  generalize wrap64 (2 ^ n) = NI at *
  subst hN
  go_loopw [5, 6, 7, 13] (fun t' _ _ i' w' => ∃ (k t : Nat), k ≤ N ∧ i' = .int .i64 (k : Int) ∧ t' = .int .i64 (t : Int) ∧ Hid (t = mkB k fun k => tb.testBit (spS ps k n)) ∧ Hid (w' = w)) (fun _ _ _ i' _ => N - (intOf i').toNat)
  case atStart => exact ⟨0, 0, Nat.zero_le _, rfl, rfl, rfl, rfl⟩
  case round =>
    obtain ⟨k, t, hk, rfl, rfl, HT, HW⟩ := hrel
    obtain rfl := HW.out
    clear HW
    have ht : t < 65536 := by
      rw [HT.out]
      exact Nat.lt_of_lt_of_le (mkB_lt k _) (Nat.pow_le_pow_right (n := 2) (j := 16) (by omega) (by omega))
    by_cases hlt : k < N
    · have hltI : (k : Int) < (N : Int) := by omega
      have e2 : IntKind.i64.wrap ((k : Int) + 1) = (k : Int) + 1 := wrapI _ (by omega) (by omega)
      have e2' : wrap64 ((k : Int) + 1) = (k : Int) + 1 := wrap64_of _ (by omega) (by omega)
      have hk0 : (0 : Int) ≤ (k : Int) := by omega
      have HNT : Hid ((t ||| (tb / 2 ^ (spS ps k n) % 2) * 2 ^ k) = mkB (k + 1) fun k => tb.testBit (spS ps k n)) := by
        show _ = _
        rw [tb_bit, HT.out]
        exact mkB_or k fun k => tb.testBit (spS ps k n)
      have HK16 : Hid (k < 16) := by show _ < _; omega
      clear HT
      go_wp2_with fail
      obtain ⟨W, EW⟩ := exh wr
      rw [← EW.out] at c7 HR
      go_loopw [7, 8, 9, 18] (fun s' _ _ i' w' => ∃ (j s : Nat), j ≤ n ∧ i' = .int .i64 (j : Int) ∧ s' = .int .i64 (s : Int) ∧ Hid (s = spS ps k j) ∧ Hid (w' = W)) (fun _ _ _ i' _ => n - (intOf i').toNat)
      case atStart => exact ⟨0, 0, Nat.zero_le _, rfl, rfl, rfl, EW.out.symm⟩
      case round =>
        obtain ⟨j, s, hj, rfl, rfl, HS, HW⟩ := hrel
        obtain rfl := HW.out
        clear HW
        have HS16 : Hid (s < 16) := by show _ < _; rw [HS.out]; exact HSL.out k j hj
        by_cases hlt2 : j < n
        · have hltJ : (j : Int) < (n : Int) := by omega
          obtain ⟨p, hp⟩ := getElem_lt (show j < ps.length by rw [← En.out]; exact hlt2)
          obtain ⟨b', o', ea, cx⟩ := HR.out j p hp
          have HP4 := hidden (H4.out p (List.mem_of_getElem? hp))
          have hp4 : (p : Int) < 4 := by have := HP4.out; omega
          have hp0 : (0 : Int) ≤ (p : Int) := by omega
          have hj0 : (0 : Int) ≤ (j : Int) := by omega
          have e3 : IntKind.i64.wrap ((j : Int) + 1) = (j : Int) + 1 := wrapI _ (by omega) (by omega)
          have hor := or_bit s k j p (by have := HS16.out; omega) (by have := HP4.out; omega)
          have HNS : Hid ((s ||| (k / 2 ^ j % 2) * 2 ^ p) = spS ps k (j + 1)) := by
            show _ = spS ps k j ||| _
            rw [HS.out, List.getD_eq_getElem?_getD, hp]; rfl
          generalize (s ||| (k / 2 ^ j % 2) * 2 ^ p) = s2 at *
          subst ea
          clear hp HS HS16
          go_wp2
          go_roundw
          case measure => simp [intOf]; omega
          case rel => exact ⟨j + 1, s2, by omega, by simp, rfl, HNS.out, True.intro⟩
        · have hge : ¬ (j : Int) < (n : Int) := by omega
          have hor := or_tab t tb s k ht htb HS16.out HK16.out
          have HNS : Hid ((t ||| (tb / 2 ^ s % 2) * 2 ^ k) = mkB (k + 1) fun k => tb.testBit (spS ps k n)) := by
            show _ = _
            rw [HS.out, show j = n by omega]; exact HNT.out
          generalize (t ||| (tb / 2 ^ s % 2) * 2 ^ k) = t2 at *
          have hs0 : (0 : Int) ≤ (s : Int) := by omega
          clear HS HS16 HNT
          go_wp2
          go_roundw
          case measure => simp [intOf]; omega
          case rel => exact ⟨k + 1, t2, by omega, by simp, rfl, HNS.out, EW.out⟩
    · have hge : ¬ (k : Int) < (N : Int) := by omega
      have hkN : k = N := by omega
      have HF : Hid (t = mkB N fun k => tb.testBit (spS ps k n)) := by rw [← hkN]; exact HT.out
      clear HT hkN
      go_wp2
      go_ret
      exact ⟨ret_int (by rw [HF.out]), rfl⟩
end Go.Proofs.Ytlaljeobdddegaa
