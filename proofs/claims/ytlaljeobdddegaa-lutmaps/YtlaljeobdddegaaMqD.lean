import Derived.Test.YtlaljeobdddegaaMqC
import Derived.Laws.BitsAllLaws
import Derived.Laws.BitsLemmas
namespace Go.Proofs.Ytlaljeobdddegaa
open Go.RowKit Mp

theorem mkM_lt (l : List Nat) : mkM l < 18446744073709551616 := mkB_lt 64 _
theorem mkM_bit (l : List Nat) (j : Nat) : (mkM l).testBit j = (decide (j < 64) && l.any fun v => v % 64 == j) := mkB_bit 64 _ j
theorem mkM_not (b i : Nat) (hb : b < 18446744073709551616) : (18446744073709551615 - b).testBit i = (decide (i < 64) && !b.testBit i) := by
  have := Nat.testBit_two_pow_sub_succ (n := 64) (x := b) hb i
  have e : 2 ^ 64 - (b + 1) = 18446744073709551615 - b := by omega
  rw [e] at this
  exact this
theorem mkM_wit {a b : List Nat} (h : wit a b = true) : mkM a &&& (18446744073709551615 - mkM b) = 0 := by
  refine nat_eq (fun i => ?_)
  rw [Nat.testBit_and, mkM_not _ _ (mkM_lt b), mkM_bit, mkM_bit, Nat.zero_testBit]
  by_cases hi : i < 64
  · simp only [hi, decide_true, Bool.true_and]
    cases ha : a.any (fun v => v % 64 == i) with
    | false => rfl
    | true =>
      obtain ⟨v, hv, he⟩ := List.any_eq_true.1 ha
      have : b.any (fun v => v % 64 == i) = true := List.any_eq_true.2 ⟨v, wit_sub h v hv, he⟩
      rw [this]; rfl
  · simp [hi]
theorem wit_next {a b : List Nat} {k x : Nat} (h : a[k]? = some x) : wit (a.take (k + 1)) b = (wit (a.take k) b && decide (x ∈ b)) := by
  unfold wit
  rw [all_next _ _ _ _ h]
  congr 1
  simp
theorem wit_false {a b : List Nat} {k x : Nat} (h : a[k]? = some x) (hn : x ∉ b) : wit a b = false := by
  cases e : wit a b with
  | false => rfl
  | true => exact absurd (wit_sub e x (List.mem_of_getElem? h)) hn

set_option maxRecDepth 100000 in
set_option maxHeartbeats 8000000 in
theorem within_any (w : World) (ab ao bb bo : Nat) (a b : Ct) (ha : CtAt w ab ao a) (hb : CtAt w bb bo b) (la : a.lv.length ≤ 4) (lb : b.lv.length ≤ 4) :
    Calls Try.prog 83 #[.pointer (some ⟨ab, ao, none⟩), .pointer (some ⟨bb, bo, none⟩)] w fun e w' => e = .returned (.bool (wit a.lv b.lv)) ∧ Bl w w' := by
  have a5 := ha.c5
  have b5 := hb.c5
  have HLA : Hid (∀ v : World, Bl w v → Calls Try.prog 75 #[.pointer (some ⟨ab, ao, none⟩)] v fun e w' => e = .returned (.slice (some ⟨ab, ao, none⟩) a.lv.length a.lv.length) ∧ w' = v.drewN 1) := fun v hv => list_any v ab ao a (ha.to ha.lt hv) la
  have HLB : Hid (∀ v : World, Bl w v → Calls Try.prog 75 #[.pointer (some ⟨bb, bo, none⟩)] v fun e w' => e = .returned (.slice (some ⟨bb, bo, none⟩) b.lv.length b.lv.length) ∧ w' = v.drewN 1) := fun v hv => list_any v bb bo b (hb.to hb.lt hv) lb
  have HCO : Hid (∀ (v : World) (x : Nat), Bl w v → Calls Try.prog 84 #[.slice (some ⟨bb, bo, none⟩) b.lv.length b.lv.length, .int .i64 (x : Int)] v fun e w' => e = .returned (.bool (decide (x ∈ b.lv))) ∧ w' = v) := fun v x hv => contains_any v _ _ b.lv x (by omega) ((hb.to hb.lt hv).row lb)
  have HAC : Hid (∀ (v : World) (k x : Nat), Bl w v → a.lv[k]? = some x → v.cell? ⟨ab, ao + k, none⟩ = some (.int .i64 (x : Nat))) := fun v k x hv hx => (ha.to ha.lt hv).leaf la hx
  obtain ⟨r, HR⟩ := exh (wit a.lv b.lv)
  rw [← HR.out]
  have HM : Hid (r = true → mkM a.lv &&& (18446744073709551615 - mkM b.lv) = 0) := fun h => mkM_wit (by rw [← HR.out]; exact h)
  have hAN := u64_andNot_nat (mkM a.lv) (mkM b.lv) (mkM_lt _) (mkM_lt _)
  generalize mkM a.lv &&& (18446744073709551615 - mkM b.lv) = m at *
  generalize mkM a.lv = am at *
  generalize mkM b.lv = bm at *
  have HIn : Hid (∀ k, wit (a.lv.take (k + 1)) b.lv = wit (a.lv.take (k + 1)) b.lv) := fun k => rfl
  clear HIn
  obtain ⟨al, EA⟩ := exh a.lv
  obtain ⟨bl, EB⟩ := exh b.lv
  rw [← EA.out] at HLA HAC la HR
  rw [← EB.out] at HLB HCO HR
  obtain ⟨n, En⟩ := exh al.length
  rw [← En.out] at HLA la
  clear ha hb EA EB lb
  go_enter Try.func83, Try.ntmps83
  by_cases hm : m = 0
  rotate_left
  · have hmI : ¬ (m : Int) = 0 := by omega
    have HRF : Hid (r = false) := by
      cases r with
      | false => exact rfl
      | true => exact absurd (HM.out rfl) hm
    clear HM hm
    go_wp2_with fail
    refine wp_region_noPanic ?_
    refine wp_region_held_drew (S := fun wz => wz.cell? ⟨ab, ao + 5, none⟩ = some (.int .u64 (am : Int)) ∧ wz.cell? ⟨bb, bo + 5, none⟩ = some (.int .u64 (bm : Int))) (by kernel_rfl) (by exact ⟨a5, b5⟩) (fun hHeld => ?_)
    refine tk 0 ?_
    refine tk 1 ?_
    refine tk 2 ?_
    refine tk 3 ?_
    refine tk 4 ?_
    refine tk 5 ?_
    refine tk 6 ?_
    refine tk 7 ?_
    refine tk 8 ?_
    refine tk 9 ?_
    refine wpAnyH_done (by kernel_rfl) ?_ _
    refine NoPanic.normal ?_
    go_wp2
    go_ret
    exact ⟨ret_bool HRF.out.symm, Below.drew (Below.refl _ _)⟩
  subst hm
  clear HM
  go_wp2_with fail
  refine wp_region_noPanic ?_
  refine wp_region_held_drew (S := fun wz => wz.cell? ⟨ab, ao + 5, none⟩ = some (.int .u64 (am : Int)) ∧ wz.cell? ⟨bb, bo + 5, none⟩ = some (.int .u64 (bm : Int))) (by kernel_rfl) (by exact ⟨a5, b5⟩) (fun hHeld => ?_)
  refine tk 0 ?_
  refine tk 1 ?_
  refine tk 2 ?_
  refine tk 3 ?_
  refine tk 4 ?_
  refine tk 5 ?_
  refine tk 6 ?_
  refine tk 7 ?_
  refine tk 8 ?_
  refine tk 9 ?_
  refine wpAnyH_done (by kernel_rfl) ?_ _
  refine NoPanic.normal ?_
  go_wp2_with fail
  go_at_call 75
  refine (HLA.out w.drew (Below.drew (Below.refl _ _))).mono ?_
  rintro e v ⟨rfl, hv⟩
  have HB1 : Hid (Bl w v) := by rw [hv]; exact Below.drewN (Below.drew (Below.refl _ _)) 1
  clear hv a5 b5
  go_wp2_with fail
  go_loopw [6, 20] (fun _ i' w' => ∃ k : Nat, k ≤ n ∧ i' = .int .i64 (k : Int) ∧ Hid (wit (al.take k) bl = true) ∧ Hid (Bl w w')) (fun _ i' _ => n - (intOf i').toNat)
  case atStart => exact ⟨0, Nat.zero_le _, rfl, (by show wit (al.take 0) bl = true; rfl), HB1.out⟩
  case round =>
    obtain ⟨k, hk, rfl, HWT, HBW⟩ := hrel
    by_cases hlt : k < n
    · have hltI : (k : Int) < (n : Int) := by omega
      obtain ⟨x, hx⟩ := getElem_lt (show k < al.length by rw [← En.out]; exact hlt)
      have cx := HAC.out wr k x HBW.out hx
      have e2 : IntKind.i64.wrap ((k : Int) + 1) = (k : Int) + 1 := wrapI _ (by omega) (by omega)
      have HX := hidden hx
      clear hx
      by_cases hin : x ∈ bl
      · have HNX : Hid (wit (al.take (k + 1)) bl = true) := by
          show _ = _
          rw [wit_next HX.out, HWT.out, decide_eq_true hin]; rfl
        have hdec : decide (x ∈ bl) = true := decide_eq_true hin
        clear hin
        go_wp2_with fail
        go_at_call 75
        refine (HLB.out wr HBW.out).mono ?_
        rintro e v2 ⟨rfl, hv⟩
        have HB2 : Hid (Bl w v2) := by rw [hv]; exact Below.drewN HBW.out 1
        clear hv
        go_wp2_with fail
        go_at_call 84
        refine (HCO.out v2 x HB2.out).mono ?_
        rintro e v3 ⟨rfl, hv⟩
        rw [hv, hdec]
        clear hv v3
        go_wp2
        go_roundw
        case measure => simp [intOf]; omega
        case rel => exact ⟨k + 1, by omega, by simp, HNX.out, HB2.out⟩
      · have HRF : Hid (r = false) := by
          show _ = _
          rw [HR.out]; exact wit_false HX.out hin
        have hdec : decide (x ∈ bl) = false := decide_eq_false hin
        clear hin
        go_wp2_with fail
        go_at_call 75
        refine (HLB.out wr HBW.out).mono ?_
        rintro e v2 ⟨rfl, hv⟩
        have HB2 : Hid (Bl w v2) := by rw [hv]; exact Below.drewN HBW.out 1
        clear hv
        go_wp2_with fail
        go_at_call 84
        refine (HCO.out v2 x HB2.out).mono ?_
        rintro e v3 ⟨rfl, hv⟩
        rw [hv, hdec]
        clear hv v3
        go_wp2
        go_ret
        exact ⟨ret_bool HRF.out.symm, HB2.out⟩
    · have hge : ¬ (k : Int) < (n : Int) := by omega
      have HRT : Hid (r = true) := by
        have := HWT.out
        rw [List.take_of_length_le (by have := En.out; omega)] at this
        show _ = _
        rw [HR.out]; exact this
      go_wp2
      go_ret
      exact ⟨ret_bool HRT.out.symm, HBW.out⟩
end Go.Proofs.Ytlaljeobdddegaa
