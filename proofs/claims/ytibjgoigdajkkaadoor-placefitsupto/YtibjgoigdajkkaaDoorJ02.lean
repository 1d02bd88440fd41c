import Derived.Test.YtibjgoigdajkkaaDoorJ01
namespace Go.Proofs.YtibjgoigdajkkaaDoor
open Go.RowKit

set_option maxRecDepth 100000 in
set_option maxHeartbeats 8000000 in
theorem firstTable_any (w : World) (p : Nat) (S : NtS) (N : NtD) (h : BoxAt w p S N) (h0 : 0 ≤ N.ins) (h1 : N.ins ≤ 60000) (h2 : N.init.length < huge) :
    Calls Tryd.prog 31 #[.pointer (some ⟨p, 0, none⟩)] w fun e w' => e = .returned (.int .i64 N.first) ∧ ∃ n, w' = w.drewN n := by
  simp only [huge] at h2
  obtain ⟨lt, c0, c1, c2, c3, c4⟩ := h
  go_enter Tryd.func31, Tryd.ntmps31
  go_wp2
  go_quiet (fail)
  go_wp2
  go_ret
  exact ⟨ret_int rfl, _, rfl⟩
set_option maxRecDepth 100000 in
set_option maxHeartbeats 8000000 in
theorem signals_any (w : World) (p : Nat) (S : NtS) (N : NtD) (h : BoxAt w p S N) (h0 : 0 ≤ N.ins) (h1 : N.ins ≤ 60000) (h2 : N.init.length < huge) (h3 : N.tabs.length < big) :
    Calls Tryd.prog 33 #[.pointer (some ⟨p, 0, none⟩)] w fun e w' => e = .returned (.int .i64 N.sigs) ∧ ∃ n, w' = w.drewN n := by
  have FG : Hid (∀ w, BoxAt w p S N → Calls Tryd.prog 31 #[.pointer (some ⟨p, 0, none⟩)] w fun e w' => e = .returned (.int .i64 N.first) ∧ ∃ n, w' = w.drewN n) := fun w hb => firstTable_any w p S N hb h0 h1 h2
  simp only [big, huge] at h2 h3
  have HH := hidden h
  obtain ⟨lt, c0, c1, c2, c3, c4⟩ := h
  have e1 : N.sigs = N.first + N.tabs.length := rfl
  have e2 : N.first = 2 + N.ins + N.init.length := rfl
  rw [e1]
  generalize N.first = F at *
  go_enter Tryd.func33, Tryd.ntmps33
  go_wp2
  go_quiet ((go_at_call 31; exact Calls.quiet_of (FG.out _ (HH.out.to HH.out.lt (Below.drewN (Below.refl _ _) _)))))
  go_wp2
  go_ret
  exact ⟨ret_int (by omega), _, rfl⟩
set_option maxRecDepth 100000 in
set_option maxHeartbeats 8000000 in
theorem areSignals_any (B : Nat) (w : World) (a : Option Addr) (c : Nat) (l : List Int) (n : Int) (R : RowAt B w a 1 (l.map intC)) (hl : l.length < big) :
    Calls Tryd.prog 32 #[.slice a l.length c, .int .i64 n] w fun e w' => e = .returned (.bool (l.all (sigOk n))) ∧ w' = w := by
  have HR := hidden R
  clear R
  obtain ⟨r, HRR⟩ : ∃ r, Hid (l.all (sigOk n) = r) := ⟨_, rfl⟩
  rw [HRR.out]
  simp only [big] at hl
  obtain ⟨m, HM⟩ : ∃ m, Hid (m = l.length) := ⟨_, rfl⟩
  rw [← HM.out] at hl
  rw [← HM.out]
  go_enter Tryd.func32, Tryd.ntmps32
  go_wp2_with fail
  go_loopw [9] (fun i' w' => ∃ (k : Nat), k ≤ m ∧ i' = .int .i64 k ∧ Hid ((l.take k).all (sigOk n) = true) ∧ Hid (w' = w)) (fun i' _ => m - (intOf i').toNat)
  case atStart => exact ⟨0, Nat.zero_le _, rfl, rfl, rfl⟩
  case round =>
    obtain ⟨k, hk, rfl, HA, HW⟩ := hrel
    by_cases hlt : k < m
    · have hltI : (k : Int) < (m : Int) := by omega
      obtain ⟨x, hd⟩ := getElem_lt (show k < l.length by rw [← HM.out]; exact hlt)
      obtain ⟨b, o, ea, hlb, hc⟩ := HR.out.int hd
      have c0 : wr.cell? ⟨b, o + k, none⟩ = some (.int .i64 x) := by rw [HW.out]; exact hc
      have HD := hidden hd
      have e2 : IntKind.i64.wrap ((k : Int) + 1) = (k : Int) + 1 := wrapI _ (by omega) (by omega)
      have HLL : Hid (sigOk n x = decide (0 ≤ x ∧ x < n)) := rfl
      have HXF : Hid (sigOk n x = false → r = false) := fun hf => by rw [← HRR.out]; exact List.all_eq_false.2 ⟨_, List.mem_of_getElem? HD.out, by rw [hf]; decide⟩
      have HXT : Hid (sigOk n x = true → (l.take (k + 1)).all (sigOk n) = true) := fun ht => by rw [all_next _ _ k _ HD.out, HA.out, ht]; rfl
      rw [ea]
      clear hd hc hlb ea HA
      by_cases a0 : x < 0
      · have HF : Hid (r = false) := HXF.out (by rw [HLL.out, decide_eq_false (by omega)])
        go_wp2
        go_ret
        exact ⟨ret_bool HF.out.symm, HW.out⟩
      · by_cases a1 : x < n
        · have HN1 := hidden (HXT.out (by rw [HLL.out, decide_eq_true (by omega)]))
          go_wp2
          go_roundw
          case measure => simp [intOf]; omega
          case rel => exact ⟨k + 1, by omega, by simp, HN1.out, HW.out⟩
        · have HF : Hid (r = false) := HXF.out (by rw [HLL.out, decide_eq_false (by omega)])
          go_wp2
          go_ret
          exact ⟨ret_bool HF.out.symm, HW.out⟩
    · have hge : ¬ ((k : Int) < (m : Int)) := by omega
      have HF : Hid (r = true) := by
        have := HA.out
        rw [List.take_of_length_le (by have := HM.out; omega), HRR.out] at this
        exact this
      go_wp2
      go_ret
      exact ⟨ret_bool HF.out.symm, HW.out⟩
set_option maxRecDepth 100000 in
set_option maxHeartbeats 8000000 in
theorem isTable_any (B : Nat) (w : World) (b o : Nat) (d : TbD) (F : Int) (R : RowAt B w d.a 1 (d.ins.map intC)) (hl : d.ins.length < big) (c0 : w.cell? ⟨b, o, none⟩ = some (.slice d.a d.ins.length d.c)) (c1 : w.cell? ⟨b, o + 1, none⟩ = some (.int .i64 d.bits)) :
    Calls Tryd.prog 30 #[.pointer (some ⟨b, o, none⟩), .int .i64 F] w fun e w' => e = .returned (.bool (d.ok F)) ∧ ∃ n, w' = w.drewN n := by
  have AR : Hid (∀ n, Calls Tryd.prog 32 #[.slice d.a d.ins.length d.c, .int .i64 F] (w.drewN n) fun e w' => e = .returned (.bool (d.ins.all (sigOk F))) ∧ w' = w.drewN n) := fun n => areSignals_any B (w.drewN n) d.a d.c d.ins F (R.to (Below.drewN (Below.refl _ _) n)) hl
  have HO : Hid (d.ok F = (decide (d.ins.length ≤ 4) && d.ins.all (sigOk F) && decide (0 ≤ d.bits ∧ d.bits < pw d.ins.length))) := rfl
  obtain ⟨r, HRR⟩ : ∃ r, Hid (d.ok F = r) := ⟨_, rfl⟩
  rw [HRR.out] at HO ⊢
  obtain ⟨da, dc, ins, bits⟩ := d
  dsimp only at *
  simp only [big] at hl
  generalize ins.length = m at *
  generalize ins.all (sigOk F) = ri at *
  clear R
  by_cases h4 : m ≤ 4
  · have h4I : (m : Int) ≤ 4 := by omega
    have s1 := shifts m h4
    rw [decide_eq_true h4, Bool.true_and] at HO
    cases ri
    · go_enter Tryd.func30, Tryd.ntmps30
      go_wp2_with fail
      go_quiet ((go_at_call 32; exact Calls.quiet_of_same (AR.out _)))
      go_wp2
      go_ret
      exact ⟨ret_bool HO.out.symm, _, rfl⟩
    · by_cases b0 : 0 ≤ bits
      · go_enter Tryd.func30, Tryd.ntmps30
        go_wp2_with fail
        go_quiet ((go_at_call 32; exact Calls.quiet_of_same (AR.out _)))
        go_wp2
        go_ret
        exact ⟨ret_bool (by rw [HO.out, Bool.true_and]; simp [b0]), _, rfl⟩
      · have b0d : decide (0 ≤ bits) = false := decide_eq_false b0
        go_enter Tryd.func30, Tryd.ntmps30
        go_wp2_with fail
        go_quiet ((go_at_call 32; exact Calls.quiet_of_same (AR.out _)))
        go_wp2
        go_ret
        exact ⟨ret_bool (by rw [HO.out, decide_eq_false (p := 0 ≤ bits ∧ _) (by omega)]; rfl), _, rfl⟩
  · have h4d : decide ((m : Int) ≤ 4) = false := decide_eq_false (by omega)
    rw [decide_eq_false h4, Bool.false_and, Bool.false_and] at HO
    go_enter Tryd.func30, Tryd.ntmps30
    go_wp2_with fail
    go_quiet (fail)
    go_wp2
    go_ret
    exact ⟨ret_bool HO.out.symm, _, rfl⟩


end Go.Proofs.YtibjgoigdajkkaaDoor
