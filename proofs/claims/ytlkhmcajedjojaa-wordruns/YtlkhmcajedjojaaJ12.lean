import Derived.Test.YtlkhmcajedjojaaJ09
import Derived.Test.YtlkhmcajedjojaaJ11
namespace Go.Proofs.Ytlkhmcajedjojaa
open Go.RowKit

theorem sum_take_le (l : List Nat) (k : Nat) : (l.take k).sum ≤ l.sum := by
  induction l generalizing k with
  | nil => simp
  | cons a r ih =>
    cases k with
    | zero => simp
    | succ k => simp only [List.take_succ_cons, List.sum_cons]; have := ih k; omega
theorem catZ_bound (ps : List (Nat × Nat)) (h : ∀ p, p ∈ ps → p.1 < 2 ^ p.2) (hs : (ps.map (·.2)).sum ≤ 32) (k : Nat) : catZ (ps.take k) < 4294967296 := by
  have h1 := catZ_lt (ps.take k) (fun p hp => h p (List.mem_of_mem_take hp))
  have h2 : ((ps.take k).map (·.2)).sum ≤ 32 := by
    rw [List.map_take]
    exact Nat.le_trans (sum_take_le _ k) hs
  exact Nat.lt_of_lt_of_le h1 (Nat.pow_le_pow_right (n := 2) (by decide) h2)

set_option maxRecDepth 100000 in
set_option maxHeartbeats 8000000 in
theorem op_cat (w : World) (width : Nat) (hw1 : 1 ≤ width) (hw2 : width ≤ 32) (num : Nat) (ab ao ca cw : Nat) (wb wo : Nat) (ps : List (Nat × Nat)) (hlen : ps.length < big) (hps : Hid (∀ p, p ∈ ps → p.1 < 2 ^ p.2)) (hwid : Hid (∀ p, p ∈ ps → p.2 ≤ 32)) (hs : (ps.map (·.2)).sum ≤ 32) (HA : Hid (∀ (i : Nat) (p : Nat × Nat), ps[i]? = some p → w.cell? ⟨ab, ao + i, none⟩ = some (.int .u64 (p.1 : Int)))) (HW : Hid (∀ (i : Nat) (p : Nat × Nat), ps[i]? = some p → w.cell? ⟨wb, wo + i, none⟩ = some (.int .i64 (p.2 : Int)))) :
    Calls Try.prog 39 #[.int .i64 7, .int .i64 width, .int .u64 num, .slice (some ⟨ab, ao, none⟩) ps.length ca, .slice (some ⟨wb, wo, none⟩) ps.length cw] w fun e w' => e = .returned (.int .u64 ((catZ ps % 2 ^ width : Nat) : Int)) ∧ ∃ q, w' = w.drewN q := by
  have MK : Hid (∀ w, Calls Try.prog 19 #[.int .i64 (width : Int)] w fun e w' => e = .returned (.int .u64 (maskN (width : Int))) ∧ w' = w) := fun w => mask_int (width : Int) (by simp [widthOk]; omega) w
  obtain ⟨tot, HT⟩ : ∃ tot, Hid (catZ ps % 2 ^ width = tot) := ⟨_, rfl⟩
  rw [HT.out]
  have hlI : (ps.length : Int) < 17592186044416 := by simp only [big] at hlen; omega
  go_enter Try.func39, Try.ntmps39
  go_wp2_with (go_at_call 19; refine (MK.out _).mono ?_; rintro e w' ⟨rfl, hw'⟩; subst w')
  go_loopw [12, 13] (fun s i w' => ∃ (k c : Nat), k ≤ ps.length ∧ i = .int .i64 (k : Int) ∧ s = .int .u64 (c : Int) ∧ Hid (c = catZ (ps.take k)) ∧ Hid (∃ q, w' = w.drewN q)) (fun _ i _ => ps.length - (intOf i).toNat)
  case atStart => exact ⟨0, 0, Nat.zero_le _, rfl, rfl, by show _ = _; simp [catZ], ⟨0, rfl⟩⟩
  case round =>
    obtain ⟨k, c, hk, rfl, rfl, HC, HQ⟩ := hrel
    have hc := catZ_bound ps hps.out hs k
    rw [← HC.out] at hc
    by_cases hlt : k < ps.length
    · obtain ⟨p, hp⟩ : ∃ p, ps[k]? = some p := ⟨ps[k], List.getElem?_eq_getElem hlt⟩
      have hpm := hps.out p (List.mem_of_getElem? hp)
      have hw32 := hwid.out p (List.mem_of_getElem? hp)
      have hn := catZ_bound ps hps.out hs (k + 1)
      rw [catZ_next hp, ← HC.out] at hn
      have HN : Hid (catZ (ps.take (k + 1)) = c * 2 ^ p.2 + p.1) := by show _ = _; rw [catZ_next hp, ← HC.out]
      obtain ⟨q, rfl⟩ := HQ.out
      have ca := HA.out k p hp
      have cw := HW.out k p hp
      have hltI : (k : Int) < (ps.length : Int) := by omega
      have e2 : IntKind.i64.wrap ((k : Int) + 1) = (k : Int) + 1 := wrapI _ (by omega) (by omega)
      obtain ⟨x, v⟩ := p
      simp only at *
      have e3 : IntKind.u64.wrap (v : Int) = (v : Int) := wrapU _ (by omega) (by omega)
      have h64 : (v : Int) ≤ 64 := by omega
      have ed : c * 2 ^ v % 18446744073709551616 = c * 2 ^ v := Nat.mod_eq_of_lt (by omega)
      have e4 : IntKind.u64.wrap ((c : Int) * 2 ^ v) = (c : Int) * 2 ^ v := by rw [shl_wrap, ed]; push_cast; rfl
      have e5 : bits BinOp.or IntKind.u64 ((c : Int) * 2 ^ v) (x : Int) = (c : Int) * 2 ^ v + (x : Int) := by
        have hx : (x : Int) < 2 ^ v := by
          have e : ((2 : Int) ^ v) = ((2 ^ v : Nat) : Int) := by push_cast; rfl
          rw [e]; omega
        have := bits_join .u64 64 (by decide) u64k v ((c * 2 ^ v : Nat) : Int) (x : Int) (by omega) (by push_cast; exact Int.mul_emod_left _ _) (by omega) (by omega) hx (by omega)
        push_cast at this
        exact this
      clear HC HT hp hpm hw32
      go_wp2_with fail
      go_quiet (fail)
      go_wp2
      go_roundw
      case measure => simp [intOf]; omega
      case rel => exact ⟨k + 1, c * 2 ^ v + x, by omega, by simp, by simp, HN.out.symm, ⟨_, rfl⟩⟩
    · have hge : ¬ ((k : Int) < (ps.length : Int)) := by omega
      have e : c = catZ ps := by rw [HC.out, List.take_of_length_le (by omega)]
      have e1 : bits BinOp.and IntKind.u64 (c : Int) (maskN (width : Int)) = (tot : Int) := by rw [and_mask c width (by omega) hw2, e, HT.out]
      obtain ⟨q, rfl⟩ := HQ.out
      clear HC HT e
      go_wp2
      go_ret
      exact ⟨rfl, _, rfl⟩

end Go.Proofs.Ytlkhmcajedjojaa

namespace Go.Proofs.Ytlkhmcajedjojaa
open Go.RowKit

set_option maxRecDepth 100000 in
set_option maxHeartbeats 8000000 in
theorem wo_num (w : World) (nb no : Nat) (num : Nat) (_k0 : w.cell? ⟨nb, no, none⟩ = some (.int .i64 1)) (_k2 : w.cell? ⟨nb, no + 2, none⟩ = some (.int .u64 (num : Int))) (n1 n2 : Value) :
    Calls Try.prog 38 #[.pointer (some ⟨nb, no, none⟩), n1, n2] w fun e w' => e = .returned (.int .u64 ((num : Nat) : Int)) ∧ ∃ q, w' = w.drewN q := by
  go_enter Try.func38, Try.ntmps38
  go_wp2_with fail
  go_ret
  exact ⟨rfl, 0, rfl⟩

set_option maxRecDepth 100000 in
set_option maxHeartbeats 8000000 in
theorem wo_all (w : World) (nb no ab ao al ac vb vo nv cv : Nat) (ln cn : Nat) (width num : Nat) (mb mo v : Nat) (hv1 : 1 ≤ v) (hv2 : v ≤ 32)  (_k0 : w.cell? ⟨nb, no, none⟩ = some (.int .i64 9)) (_k1 : w.cell? ⟨nb, no + 1, none⟩ = some (.int .i64 (width : Int))) (_k2 : w.cell? ⟨nb, no + 2, none⟩ = some (.int .u64 (num : Int))) (_k3 : w.cell? ⟨nb, no + 3, none⟩ = some (.slice (some ⟨ab, ao, none⟩) al ac)) (i x : Nat) (_hi : (i : Int) < (nv : Int)) (_hl0 : (0 : Int) < (al : Int)) (_c0 : w.cell? ⟨ab, ao, none⟩ = some (.int .i64 (i : Int))) (_v0 : w.cell? ⟨vb, vo + i, none⟩ = some (.int .u64 (x : Int))) (_hm : (i : Int) < (ln : Int)) (_cm : w.cell? ⟨mb, mo + i * 4 + 1, none⟩ = some (.int .i64 (v : Int))) :
    Calls Try.prog 38 #[.pointer (some ⟨nb, no, none⟩), .slice (some ⟨mb, mo, none⟩) ln cn, .slice (some ⟨vb, vo, none⟩) nv cv] w fun e w' => e = .returned (.int .u64 ((bitOf (decide (x = 2 ^ v - 1)) : Nat) : Int)) ∧ ∃ q, w' = w.drewN q := by
  have MV : Hid (∀ w, Calls Try.prog 28 #[.int .i64 (v : Int)] w fun e w' => e = .returned (.int .u64 (maskN (v : Int))) ∧ w' = w) := fun w => pmask_int (v : Int) (by simp [widthOk]; omega) w
  have ON : Hid (∀ b w, Calls Try.prog 41 #[.bool b] w fun e w' => e = .returned (.int .u64 ((bitOf b : Nat) : Int)) ∧ w' = w) := one_any
  go_enter Try.func38, Try.ntmps38
  go_wp2_with (first | (go_at_call 41; refine (ON.out _ _).mono ?_; rintro e w' ⟨rfl, hw'⟩; subst w') | (go_at_call 28; refine (MV.out _).mono ?_; rintro e w' ⟨rfl, hw'⟩; subst w'))
  go_ret
  refine ⟨ret_int ?_, 0, rfl⟩
  congr 2
  rw [Bool.eq_iff_iff]
  simp only [beq_iff_eq, decide_eq_true_eq, maskN, Int.toNat_natCast]
  have := Nat.one_le_two_pow (n := v)
  omega

set_option maxRecDepth 100000 in
set_option maxHeartbeats 8000000 in
theorem joined_any (w : World) (nb no ab ao ac vb vo nv cv mb mo ln cn : Nat) (ps : List (Nat × Nat)) (hlen : ps.length < big) (hps : Hid (∀ p, p ∈ ps → p.1 < 2 ^ p.2)) (hwid : Hid (∀ p, p ∈ ps → p.2 ≤ 32)) (hs : (ps.map (·.2)).sum ≤ 32)
    (k3 : w.cell? ⟨nb, no + 3, none⟩ = some (.slice (some ⟨ab, ao, none⟩) ps.length ac)) (HA : Hid (∀ (k : Nat) (p : Nat × Nat), ps[k]? = some p → ∃ i : Nat, w.cell? ⟨ab, ao + k, none⟩ = some (.int .i64 (i : Int)) ∧ (i : Int) < (nv : Int) ∧ (i : Int) < (ln : Int) ∧ w.cell? ⟨vb, vo + i, none⟩ = some (.int .u64 (p.1 : Int)) ∧ w.cell? ⟨mb, mo + i * 4 + 1, none⟩ = some (.int .i64 (p.2 : Int)))) :
    Calls Try.prog 40 #[.pointer (some ⟨nb, no, none⟩), .slice (some ⟨mb, mo, none⟩) ln cn, .slice (some ⟨vb, vo, none⟩) nv cv] w fun e w' => e = .returned (.int .u64 ((catZ ps : Nat) : Int)) ∧ ∃ q, w' = w.drewN q := by
  obtain ⟨tot, HT⟩ : ∃ tot, Hid (catZ ps = tot) := ⟨_, rfl⟩
  rw [HT.out]
  have hlI : (ps.length : Int) < 17592186044416 := by simp only [big] at hlen; omega
  go_enter Try.func40, Try.ntmps40
  go_wp2_with fail
  go_loopw [7, 15] (fun s i w' => ∃ (k c : Nat), k ≤ ps.length ∧ i = .int .i64 (k : Int) ∧ s = .int .u64 (c : Int) ∧ Hid (c = catZ (ps.take k)) ∧ Hid (∃ q, w' = w.drewN q)) (fun _ i _ => ps.length - (intOf i).toNat)
  case atStart => exact ⟨0, 0, Nat.zero_le _, rfl, rfl, by show _ = _; simp [catZ], ⟨0, rfl⟩⟩
  case round =>
    obtain ⟨k, c, hk, rfl, rfl, HC, HQ⟩ := hrel
    have hc := catZ_bound ps hps.out hs k
    rw [← HC.out] at hc
    by_cases hlt : k < ps.length
    · obtain ⟨p, hp⟩ : ∃ p, ps[k]? = some p := ⟨ps[k], List.getElem?_eq_getElem hlt⟩
      have hpm := hps.out p (List.mem_of_getElem? hp)
      have hw32 := hwid.out p (List.mem_of_getElem? hp)
      have hn := catZ_bound ps hps.out hs (k + 1)
      rw [catZ_next hp, ← HC.out] at hn
      have HN : Hid (catZ (ps.take (k + 1)) = c * 2 ^ p.2 + p.1) := by show _ = _; rw [catZ_next hp, ← HC.out]
      obtain ⟨q, rfl⟩ := HQ.out
      obtain ⟨i, ci, hi1, hi2, cv0, cm0⟩ := HA.out k p hp
      have hltI : (k : Int) < (ps.length : Int) := by omega
      have e2 : IntKind.i64.wrap ((k : Int) + 1) = (k : Int) + 1 := wrapI _ (by omega) (by omega)
      obtain ⟨x, v⟩ := p
      simp only at *
      have h64 : (v : Int) ≤ 64 := by omega
      have ed : c * 2 ^ v % 18446744073709551616 = c * 2 ^ v := Nat.mod_eq_of_lt (by omega)
      have e4 : IntKind.u64.wrap ((c : Int) * 2 ^ v) = (c : Int) * 2 ^ v := by rw [shl_wrap, ed]; push_cast; rfl
      have e5 : bits BinOp.or IntKind.u64 ((c : Int) * 2 ^ v) (x : Int) = (c : Int) * 2 ^ v + (x : Int) := by
        have hx : (x : Int) < 2 ^ v := by
          have e : ((2 : Int) ^ v) = ((2 ^ v : Nat) : Int) := by push_cast; rfl
          rw [e]; omega
        have := bits_join .u64 64 (by decide) u64k v ((c * 2 ^ v : Nat) : Int) (x : Int) (by omega) (by push_cast; exact Int.mul_emod_left _ _) (by omega) (by omega) hx (by omega)
        push_cast at this
        exact this
      clear HC HT hp hpm hw32
      go_wp2_with fail
      go_quiet (fail)
      go_wp2
      go_roundw
      case measure => simp [intOf]; omega
      case rel => exact ⟨k + 1, c * 2 ^ v + x, by omega, by simp, by simp, HN.out.symm, ⟨_, rfl⟩⟩
    · have hge : ¬ ((k : Int) < (ps.length : Int)) := by omega
      have e : c = tot := by rw [HC.out, List.take_of_length_le (by omega), HT.out]
      subst e
      obtain ⟨q, rfl⟩ := HQ.out
      clear HC HT
      go_wp2
      go_ret
      exact ⟨rfl, _, rfl⟩

set_option maxRecDepth 100000 in
set_option maxHeartbeats 8000000 in
theorem wo_cat (w : World) (nb no : Nat) (_k0 : w.cell? ⟨nb, no, none⟩ = some (.int .i64 7)) (n1 n2 : Value) (m : Nat) (HJ : Hid (Calls Try.prog 40 #[.pointer (some ⟨nb, no, none⟩), n1, n2] w fun e w' => e = .returned (.int .u64 ((m : Nat) : Int)) ∧ ∃ q, w' = w.drewN q)) :
    Calls Try.prog 38 #[.pointer (some ⟨nb, no, none⟩), n1, n2] w fun e w' => e = .returned (.int .u64 ((m : Nat) : Int)) ∧ ∃ q, w' = w.drewN q := by
  go_enter Try.func38, Try.ntmps38
  go_wp2_with (go_at_call 40; refine HJ.out.mono ?_; rintro e w' ⟨rfl, q, rfl⟩)
  go_ret
  exact ⟨rfl, _, rfl⟩

end Go.Proofs.Ytlkhmcajedjojaa
