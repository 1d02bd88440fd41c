import Derived.Test.YtdiahnommkhkiaaDoorJ05
namespace Go.Proofs.YtdiahnommkhkiaaDoor
open Go.RowKit

theorem ret_fig {a b : Int} {x y : Bool} (h : a = b) (h' : x = y) : Ending.returned (.tuple #[.int .i64 a, .bool x]) = .returned (.tuple #[.int .i64 b, .bool y]) := by rw [h, h']
set_option maxRecDepth 100000 in
set_option maxHeartbeats 1000000 in
theorem figures_any (l : List UInt8) (hl : l.length ≤ 1048576) (w : World) :
    Calls Tryd.prog 45 #[.string (bs l)] w fun e w' => e = .returned (.tuple #[.int .i64 (if numOk l then numV l else 0), .bool (numOk l)]) ∧ w' = w := by
  have hz := bs_size l
  have he := bs_empty l
  have HG : Hid (∀ k c, l[k]? = some c → ∀ hk, (bs l)[k]'hk = c) := fun k c h hk => bs_get l k c h hk
  generalize bs l = s at *
  obtain ⟨r0, HR0⟩ : ∃ r, Hid (numOk l = r) := ⟨_, rfl⟩
  obtain ⟨v0, HV0⟩ : ∃ x, Hid ((if numOk l then numV l else 0) = x) := ⟨_, rfl⟩
  rw [HV0.out, HR0.out]
  rcases num_cases l with ⟨hn, h0⟩ | ⟨hn, h0, h1⟩ | ⟨hn, h0, h1, h2, h3⟩ | ⟨h0, h1, h2, ⟨c, hc, hc48⟩, hn⟩ | ⟨h0, h1, h2, hn⟩
  · have HFF := hidden hn
    rw [h0] at he
    clear hn h0
    go_enter Tryd.func45, Tryd.ntmps45
    go_wp2
    go_ret2
    exact ⟨ret_fig (by rw [← HV0.out, HFF.out]; rfl) (by rw [← HR0.out]; exact HFF.out.symm), rfl⟩
  · have HFF := hidden hn
    rw [h0] at he
    have hs9 : (9 : Int) < (s.size : Int) := by omega
    clear hn h0
    go_enter Tryd.func45, Tryd.ntmps45
    go_wp2
    go_ret2
    exact ⟨ret_fig (by rw [← HV0.out, HFF.out]; rfl) (by rw [← HR0.out]; exact HFF.out.symm), rfl⟩
  · have HFF := hidden hn
    rw [h0] at he
    have hk0 : 0 < s.size := by omega
    have g0 := HG.out 0 48 h3 hk0
    have hs9 : ¬ (9 : Int) < (s.size : Int) := by omega
    have hs1 : (1 : Int) < (s.size : Int) := by omega
    clear hn h0 h3
    go_enter Tryd.func45, Tryd.ntmps45
    go_wp2
    go_ret2
    exact ⟨ret_fig (by rw [← HV0.out, HFF.out]; rfl) (by rw [← HR0.out]; exact HFF.out.symm), rfl⟩
  all_goals
    rw [h0] at he
    have hs9 : ¬ (9 : Int) < (s.size : Int) := by omega
    have HNN := hidden hn
  · have hk0 : 0 < s.size := by omega
    have g0 := HG.out 0 c hc hk0
    have hs1 : (1 : Int) < (s.size : Int) := by omega
    have hcb : ((c.toNat : Int) == 48) = false := by simpa using hc48
    clear hn h0 hc hc48
    go_enter Tryd.func45, Tryd.ntmps45
    go_wp2_with fail
    clear g0
    go_loopw [4, 5] (fun v' i' w' => ∃ (k : Nat) (v : Int), k ≤ l.length ∧ v' = .int .i64 v ∧ i' = .int .i64 k ∧ Hid (v = numV (l.take k)) ∧ Hid ((l.take k).all isDig = true) ∧ w' = w) (fun _ i' _ => l.length - (intOf i').toNat)
    case atStart => exact ⟨0, 0, Nat.zero_le _, rfl, rfl, by simp [Hid, numV], by simp [Hid], rfl⟩
    case round =>
      obtain ⟨k, v, hk, rfl, rfl, HV, HA, rfl⟩ := hrel
      by_cases hlt : k < l.length
      · obtain ⟨d, hd⟩ := getElem_lt hlt
        have hks : k < s.size := by omega
        have g1 := HG.out k d hd hks
        have HX : Hid (numOk l = true → isDig d = true) := fun h => by rw [HNN.out] at h; exact List.all_eq_true.1 h d (List.mem_of_getElem? hd)
        have HN := hidden (all_next isDig l k d hd)
        have hltI : (k : Int) < (s.size : Int) := by omega
        have e5 : IntKind.i64.wrap ((k : Int) + 1) = (k : Int) + 1 := wrapI _ (by omega) (by omega)
        have DG := hidden (digit_any d)
        have hv := numV_take l k HA.out hk
        rw [← HV.out] at hv
        have hp : (10 : Int) ^ k ≤ 10 ^ 8 := by
          have : (10 : Nat) ^ k ≤ 10 ^ 8 := Nat.pow_le_pow_right (by decide) (by omega)
          exact_mod_cast this
        have HNV : Hid (v * 10 + ((d.toNat : Int) - 48) = numV (l.take (k + 1))) := by show _ = _; rw [take_next l k d hd, numV_snoc, HV.out]; omega
        have e1 : IntKind.i64.wrap (v * 10) = v * 10 := wrapI _ (by omega) (by omega)
        have HE : Hid (isDig d = true → IntKind.u8.wrap ((d.toNat : Int) - 48) = (d.toNat : Int) - 48 ∧ IntKind.i64.wrap ((d.toNat : Int) - 48) = (d.toNat : Int) - 48 ∧ IntKind.i64.wrap (v * 10 + ((d.toNat : Int) - 48)) = v * 10 + ((d.toNat : Int) - 48)) := fun h => by
          simp [isDig] at h
          exact ⟨by rw [IntKind.wrap_u8]; omega, wrapI _ (by omega) (by omega), wrapI _ (by omega) (by omega)⟩
        clear hd hv hp HV
        obtain ⟨b, HBD⟩ : ∃ b, Hid (isDig d = b) := ⟨_, rfl⟩
        rw [HBD.out] at DG
        go_wp2_with fail
        go_at_call 63
        refine (DG.out _).mono ?_
        rintro e w1 ⟨rfl, rfl⟩
        cases b
        · have hF : numOk l = false := by
            rw [Bool.eq_false_iff]; intro h
            have := HX.out h
            rw [HBD.out] at this; cases this
          have HFF := hidden hF
          clear HX HN HA hF HE
          go_wp2
          go_ret2
          exact ⟨ret_fig (by rw [← HV0.out, HFF.out]; rfl) (by rw [← HR0.out]; exact HFF.out.symm), rfl⟩
        · have HA2 : Hid ((l.take (k + 1)).all isDig = true) := by
            show _ = _
            rw [HN.out, HA.out, HBD.out]; rfl
          obtain ⟨e2, e3, e4⟩ := HE.out HBD.out
          clear HX HN HA HE
          go_wp2
          go_roundw
          case measure => simp [intOf]; omega
          case rel => exact ⟨k + 1, _, by omega, rfl, by simp, HNV.out, HA2.out, by first | rfl | trivial⟩
      · have hge : ¬ ((k : Int) < (s.size : Int)) := by omega
        have hF : numOk l = true := by
          have := HA.out
          rw [List.take_of_length_le (by omega)] at this
          rw [HNN.out]; exact this
        have HFF := hidden hF
        have HVV : Hid (v = numV l) := by have := HV.out; rwa [List.take_of_length_le (by omega)] at this
        clear HA hF HV
        go_wp2
        go_ret2
        exact ⟨ret_fig (by rw [← HV0.out, HFF.out]; exact HVV.out) (by rw [← HR0.out]; exact HFF.out.symm), rfl⟩
  · have hs1 : ¬ (1 : Int) < (s.size : Int) := by omega
    clear hn h0
    go_enter Tryd.func45, Tryd.ntmps45
    go_wp2_with fail
    go_loopw [4, 5] (fun v' i' w' => ∃ (k : Nat) (v : Int), k ≤ l.length ∧ v' = .int .i64 v ∧ i' = .int .i64 k ∧ Hid (v = numV (l.take k)) ∧ Hid ((l.take k).all isDig = true) ∧ w' = w) (fun _ i' _ => l.length - (intOf i').toNat)
    case atStart => exact ⟨0, 0, Nat.zero_le _, rfl, rfl, by simp [Hid, numV], by simp [Hid], rfl⟩
    case round =>
      obtain ⟨k, v, hk, rfl, rfl, HV, HA, rfl⟩ := hrel
      by_cases hlt : k < l.length
      · obtain ⟨d, hd⟩ := getElem_lt hlt
        have hks : k < s.size := by omega
        have g1 := HG.out k d hd hks
        have HX : Hid (numOk l = true → isDig d = true) := fun h => by rw [HNN.out] at h; exact List.all_eq_true.1 h d (List.mem_of_getElem? hd)
        have HN := hidden (all_next isDig l k d hd)
        have hltI : (k : Int) < (s.size : Int) := by omega
        have e5 : IntKind.i64.wrap ((k : Int) + 1) = (k : Int) + 1 := wrapI _ (by omega) (by omega)
        have DG := hidden (digit_any d)
        have hv := numV_take l k HA.out hk
        rw [← HV.out] at hv
        have hp : (10 : Int) ^ k ≤ 10 ^ 8 := by
          have : (10 : Nat) ^ k ≤ 10 ^ 8 := Nat.pow_le_pow_right (by decide) (by omega)
          exact_mod_cast this
        have HNV : Hid (v * 10 + ((d.toNat : Int) - 48) = numV (l.take (k + 1))) := by show _ = _; rw [take_next l k d hd, numV_snoc, HV.out]; omega
        have e1 : IntKind.i64.wrap (v * 10) = v * 10 := wrapI _ (by omega) (by omega)
        have HE : Hid (isDig d = true → IntKind.u8.wrap ((d.toNat : Int) - 48) = (d.toNat : Int) - 48 ∧ IntKind.i64.wrap ((d.toNat : Int) - 48) = (d.toNat : Int) - 48 ∧ IntKind.i64.wrap (v * 10 + ((d.toNat : Int) - 48)) = v * 10 + ((d.toNat : Int) - 48)) := fun h => by
          simp [isDig] at h
          exact ⟨by rw [IntKind.wrap_u8]; omega, wrapI _ (by omega) (by omega), wrapI _ (by omega) (by omega)⟩
        clear hd hv hp HV
        obtain ⟨b, HBD⟩ : ∃ b, Hid (isDig d = b) := ⟨_, rfl⟩
        rw [HBD.out] at DG
        go_wp2_with fail
        go_at_call 63
        refine (DG.out _).mono ?_
        rintro e w1 ⟨rfl, rfl⟩
        cases b
        · have hF : numOk l = false := by
            rw [Bool.eq_false_iff]; intro h
            have := HX.out h
            rw [HBD.out] at this; cases this
          have HFF := hidden hF
          clear HX HN HA hF HE
          go_wp2
          go_ret2
          exact ⟨ret_fig (by rw [← HV0.out, HFF.out]; rfl) (by rw [← HR0.out]; exact HFF.out.symm), rfl⟩
        · have HA2 : Hid ((l.take (k + 1)).all isDig = true) := by
            show _ = _
            rw [HN.out, HA.out, HBD.out]; rfl
          obtain ⟨e2, e3, e4⟩ := HE.out HBD.out
          clear HX HN HA HE
          go_wp2
          go_roundw
          case measure => simp [intOf]; omega
          case rel => exact ⟨k + 1, _, by omega, rfl, by simp, HNV.out, HA2.out, by first | rfl | trivial⟩
      · have hge : ¬ ((k : Int) < (s.size : Int)) := by omega
        have hF : numOk l = true := by
          have := HA.out
          rw [List.take_of_length_le (by omega)] at this
          rw [HNN.out]; exact this
        have HFF := hidden hF
        have HVV : Hid (v = numV l) := by have := HV.out; rwa [List.take_of_length_le (by omega)] at this
        clear HA hF HV
        go_wp2
        go_ret2
        exact ⟨ret_fig (by rw [← HV0.out, HFF.out]; exact HVV.out) (by rw [← HR0.out]; exact HFF.out.symm), rfl⟩


end Go.Proofs.YtdiahnommkhkiaaDoor
