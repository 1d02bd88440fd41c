import Derived.Test.YtllaedigdjhkjaaRfI
namespace Go.Proofs.Ytllaedigdjhkjaa
open Go.RowKit

set_option maxRecDepth 100000 in
set_option maxHeartbeats 4000000 in
theorem areClauses_any (B : Nat) (w : World) (a : Option Addr) (c : Nat) (v : Int) (hv0 : 0 ≤ v) (hv : v ≤ 100000) (cls : List CL) (h : ClAt B w a cls) :
    Calls Try.prog 15 #[.slice a cls.length c, .int .i64 v] w fun e w' => e = .returned (.bool (cls.all fun t => t.l.all (litOk v))) ∧ w' = w := by
  have HAT := hidden h
  have hlen : cls.length ≤ 16777216 := Nat.le_trans (total_len cls) h.tot
  have en : IntKind.i64.wrap (-v) = -v := wrapI _ (by omega) (by omega)
  obtain ⟨r, HR⟩ : ∃ r, Hid ((cls.all fun t => t.l.all (litOk v)) = r) := ⟨_, rfl⟩
  rw [HR.out]
  clear h
  go_enter Try.func15, Try.ntmps15
  go_wp2_with fail
  go_loopw [11] (fun i' w' => ∃ (k : Nat), k ≤ cls.length ∧ i' = .int .i64 k ∧ Hid ((cls.take k).all (fun t => t.l.all (litOk v)) = true) ∧ w = w') (fun i' _ => cls.length - (intOf i').toNat)
  case atStart => exact ⟨0, Nat.zero_le _, rfl, by simp [Hid], rfl⟩
  case round =>
    obtain ⟨k, hk, rfl, HA, rfl⟩ := hrel
    by_cases hlt : k < cls.length
    · obtain ⟨t, hz⟩ := getElem_lt hlt
      obtain ⟨tb, tz, ea, htb, htc⟩ := HAT.out.row.el hz
      subst ea
      have htm := List.mem_of_getElem? hz
      have HN := hidden (all_next (fun t : CL => t.l.all (litOk v)) cls k t hz)
      have HX : Hid (t.l.all (litOk v) = false → r = false) := fun e => by
        rw [← HR.out, Bool.eq_false_iff]; intro h
        have := List.all_eq_true.1 h t htm
        rw [e] at this; cases this
      have htl := total_one cls k t hz
      have htt := HAT.out.tot
      have htl' : t.l.length ≤ 16777216 := by omega
      have HTR : Hid (RowAt B _ t.a 1 (t.l.map intC)) := HAT.out.each t htm
      have c0 := htc 0 _ rfl
      simp at c0
      have hltI : (k : Int) < (cls.length : Int) := by omega
      have e3 : IntKind.i64.wrap ((k : Int) + 1) = (k : Int) + 1 := wrapI _ (by omega) (by omega)
      clear hz htc htm htl htt
      obtain ⟨l, HL⟩ : ∃ l, Hid (t.l = l) := ⟨_, rfl⟩
      rw [HL.out] at c0 HTR HX HN htl'
      generalize t.a = tA at *
      generalize t.c = tC at *
      clear HL
      go_wp2_with fail
      clear c0
      go_loopw [17] (fun j' w' => ∃ (j : Nat), j ≤ l.length ∧ j' = .int .i64 j ∧ Hid ((l.take j).all (litOk v) = true) ∧ w = w') (fun j' _ => l.length - (intOf j').toNat)
      case atStart => exact ⟨0, Nat.zero_le _, rfl, by simp [Hid], rfl⟩
      case round =>
        obtain ⟨j, hj, rfl, HJ, rfl⟩ := hrel
        by_cases hjt : j < l.length
        · obtain ⟨x, hx⟩ := getElem_lt hjt
          obtain ⟨rb, ro, era, -, cx⟩ := HTR.out.intR hx
          subst era
          have HM := hidden (all_next (litOk v) l j x hx)
          have HY : Hid (litOk v x = false → r = false) := fun e => HX.out (by
            rw [Bool.eq_false_iff]; intro h
            have := List.all_eq_true.1 h x (List.mem_of_getElem? hx)
            rw [e] at this; cases this)
          have hjI : (j : Int) < (l.length : Int) := by omega
          have ej : IntKind.i64.wrap ((j : Int) + 1) = (j : Int) + 1 := wrapI _ (by omega) (by omega)
          clear hx HX HN
          by_cases h0 : x = 0
          · obtain rfl := HY.out (by simp [litOk]; omega)
            subst h0
            clear HM HY
            go_wp2
            go_ret
            exact ⟨rfl, rfl⟩
          by_cases h2 : x < -v
          · obtain rfl := HY.out (by simp [litOk]; omega)
            clear HM HY
            go_wp2
            go_ret
            exact ⟨rfl, rfl⟩
          by_cases h1 : v < x
          · obtain rfl := HY.out (by simp [litOk]; omega)
            clear HM HY
            go_wp2
            go_ret
            exact ⟨rfl, rfl⟩
          have HA2 : Hid ((l.take (j + 1)).all (litOk v) = true) := by
            show _ = _
            rw [HM.out, HJ.out]
            simp [litOk]; omega
          clear HM HJ HY
          go_wp2
          go_roundw
          case measure => simp [intOf]; omega
          case rel => exact ⟨j + 1, by omega, by simp, HA2.out, by first | rfl | trivial⟩
        · have hge : ¬ ((j : Int) < (l.length : Int)) := by omega
          have HA2 : Hid ((cls.take (k + 1)).all (fun t => t.l.all (litOk v)) = true) := by
            show _ = _
            have h2 := HJ.out
            rw [List.take_of_length_le (by omega)] at h2
            rw [HN.out, HA.out, h2]; rfl
          clear HX HN HJ
          go_wp2
          go_roundw
          case measure => simp [intOf]; omega
          case rel => exact ⟨k + 1, by omega, by simp, HA2.out, by first | rfl | trivial⟩
    · have hge : ¬ ((k : Int) < (cls.length : Int)) := by omega
      have HF : Hid (r = true) := by
        have := HA.out
        rw [List.take_of_length_le (by omega)] at this
        show _ = _
        rw [← HR.out]; exact this
      obtain rfl := HF.out
      clear HA
      go_wp2
      go_ret
      exact ⟨rfl, rfl⟩

end Go.Proofs.Ytllaedigdjhkjaa
