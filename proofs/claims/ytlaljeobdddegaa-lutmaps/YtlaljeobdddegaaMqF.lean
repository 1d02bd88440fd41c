import Derived.Test.YtlaljeobdddegaaMqE
namespace Go.Proofs.Ytlaljeobdddegaa
open Go.RowKit Mp

theorem Bl.tr {a b c : World} (h : Bl a b) (k : Bl b c) : Bl a c := h.trans (k.mono h.size)
theorem any_next {α : Type} (p : α → Bool) (l : List α) (k : Nat) (x : α) (h : l[k]? = some x) : (l.take (k + 1)).any p = ((l.take k).any p || p x) := by
  rw [take_next _ _ _ h, List.any_append]; simp
/-- every variable of the first has cuts -/
def HasC (Cs : List (List Ct)) : Prop := ∀ v, v < Cs.length → Cs.getD v [] ≠ []

set_option maxRecDepth 100000 in
set_option maxHeartbeats 8000000 in
theorem beats_any (w : World) (S : FnS) (Cs : List (List Ct)) (h : FinR w S Cs) (hcs : HasC Cs) (ab ao bb bo : Nat) (a b : Ct) (ha : CtAt w ab ao a) (hb : CtAt w bb bo b) (la : a.lv.length ≤ 4) (lb : b.lv.length ≤ 4) (hlt : ∀ u, u ∈ b.lv → u < Cs.length) :
    Calls Try.prog 77 #[.pointer (some ⟨S.fb, 0, none⟩), .pointer (some ⟨ab, ao, none⟩), .pointer (some ⟨bb, bo, none⟩)] w fun e w' => e = .returned (.bool (beatsB (KOf Cs) a.lv b.lv)) ∧ Bl w w' := by
  have a4 := ha.c4
  have b4 := hb.c4
  have HLB : Hid (∀ v : World, Bl w v → Calls Try.prog 75 #[.pointer (some ⟨bb, bo, none⟩)] v fun e w' => e = .returned (.slice (some ⟨bb, bo, none⟩) b.lv.length b.lv.length) ∧ w' = v.drewN 1) := fun v hv => list_any v bb bo b (hb.to hb.lt hv) lb
  have HBC : Hid (∀ (v : World) (k x : Nat), Bl w v → b.lv[k]? = some x → v.cell? ⟨bb, bo + k, none⟩ = some (.int .i64 (x : Nat))) := fun v k x hv hx => (hb.to hb.lt hv).leaf lb hx
  have HTO : Hid (∀ (v : World) (x : Nat), Bl w v → x ∈ b.lv → Calls Try.prog 81 #[.pointer (some ⟨S.fb, 0, none⟩), .int .i64 (x : Int), .pointer (some ⟨ab, ao, none⟩)] v fun e w' => e = .returned (.bool (toldB (KOf Cs) x a.lv)) ∧ Bl v w') := fun v x hv hx => told_any v S Cs (h.to hv) x (hlt x hx) (hcs x (hlt x hx)) ab ao a (ha.to ha.lt hv) la
  have HE : Hid (beatsB (KOf Cs) a.lv b.lv = (decide (a.lv.length ≤ b.lv.length) && b.lv.all (fun v => toldB (KOf Cs) v a.lv))) := rfl
  obtain ⟨r, HR⟩ := exh (beatsB (KOf Cs) a.lv b.lv)
  rw [← HR.out] at HE ⊢
  generalize S.fb = fb at *
  obtain ⟨p, HP⟩ : ∃ p : Nat → Bool, Hid (∀ v, toldB (KOf Cs) v a.lv = p v) := ⟨_, fun _ => rfl⟩
  simp only [HP.out] at HTO HE
  generalize a.lv.length = an at *
  generalize b.lv = bl at *
  obtain ⟨n, En⟩ := exh bl.length
  rw [← En.out] at HLB lb b4 HE
  clear ha hb h hcs hlt HP HR
  go_enter Try.func77, Try.ntmps77
  by_cases hle : n < an
  · have hI : (n : Int) < (an : Int) := by omega
    have HRF : Hid (r = false) := by
      show _ = _
      rw [HE.out, decide_eq_false (by omega)]; rfl
    clear HE
    go_wp2_with fail
    refine wp_region_noPanic ?_
    refine wp_region_held_drew (S := fun wz => wz.cell? ⟨ab, ao + 4, none⟩ = some (.int .i64 (an : Int)) ∧ wz.cell? ⟨bb, bo + 4, none⟩ = some (.int .i64 (n : Int))) (by kernel_rfl) (by exact ⟨a4, b4⟩) (fun hHeld => ?_)
    refine tk 0 ?_
    refine tk 1 ?_
    refine tk 2 ?_
    refine tk 3 ?_
    refine tk 4 ?_
    refine tk 5 ?_
    refine tk 6 ?_
    refine tk 7 ?_
    refine tk 8 ?_
    refine wpAnyH_done (by kernel_rfl) ?_ _
    refine NoPanic.normal ?_
    go_wp2
    go_ret
    exact ⟨ret_bool HRF.out.symm, Below.drew (Below.refl _ _)⟩
  have hI : ¬ (n : Int) < (an : Int) := by omega
  have HE2 : Hid (r = bl.all p) := by
    show _ = _
    rw [HE.out, decide_eq_true (by omega), Bool.true_and]
  clear HE
  go_wp2_with fail
  refine wp_region_noPanic ?_
  refine wp_region_held_drew (S := fun wz => wz.cell? ⟨ab, ao + 4, none⟩ = some (.int .i64 (an : Int)) ∧ wz.cell? ⟨bb, bo + 4, none⟩ = some (.int .i64 (n : Int))) (by kernel_rfl) (by exact ⟨a4, b4⟩) (fun hHeld => ?_)
  refine tk 0 ?_
  refine tk 1 ?_
  refine tk 2 ?_
  refine tk 3 ?_
  refine tk 4 ?_
  refine tk 5 ?_
  refine tk 6 ?_
  refine tk 7 ?_
  refine tk 8 ?_
  refine wpAnyH_done (by kernel_rfl) ?_ _
  refine NoPanic.normal ?_
  go_wp2_with fail
  go_at_call 75
  refine (HLB.out w.drew (Below.drew (Below.refl _ _))).mono ?_
  rintro e v ⟨rfl, hv⟩
  have HB1 : Hid (Bl w v) := by rw [hv]; exact Below.drewN (Below.drew (Below.refl _ _)) 1
  clear hv a4 b4
  go_wp2_with fail
  go_loopw [8, 21] (fun _ i' w' => ∃ k : Nat, k ≤ n ∧ i' = .int .i64 (k : Int) ∧ Hid ((bl.take k).all p = true) ∧ Hid (Bl w w')) (fun _ i' _ => n - (intOf i').toNat)
  case atStart => exact ⟨0, Nat.zero_le _, rfl, (by show (bl.take 0).all p = true; rfl), HB1.out⟩
  case round =>
    obtain ⟨k, hk, rfl, HAL, HBW⟩ := hrel
    by_cases hlt : k < n
    · have hltI : (k : Int) < (n : Int) := by omega
      obtain ⟨x, hx⟩ := getElem_lt (show k < bl.length by rw [← En.out]; exact hlt)
      have cx := HBC.out wr k x HBW.out hx
      have HT := hidden (HTO.out wr x HBW.out (List.mem_of_getElem? hx))
      have e2 : IntKind.i64.wrap ((k : Int) + 1) = (k : Int) + 1 := wrapI _ (by omega) (by omega)
      have HNX : Hid ((bl.take (k + 1)).all p = p x) := by
        show _ = _
        rw [all_next _ _ _ _ hx, HAL.out, Bool.true_and]
      have HRF : Hid (p x = false → r = false) := fun hp => by
        rw [HE2.out]
        cases e : bl.all p with
        | false => rfl
        | true => rw [List.all_eq_true.1 e x (List.mem_of_getElem? hx)] at hp; cases hp
      clear hx HAL
      generalize p x = q at *
      go_wp2_with fail
      go_at_call 81
      refine HT.out.mono ?_
      rintro e v2 ⟨rfl, hv2⟩
      have HB2 : Hid (Bl w v2) := Bl.tr HBW.out hv2
      clear hv2 HT cx
      cases q with
      | true =>
        clear HRF
        go_wp2
        go_roundw
        case measure => simp [intOf]; omega
        case rel => exact ⟨k + 1, by omega, by simp, HNX.out, HB2.out⟩
      | false =>
        have HRF2 : Hid (r = false) := HRF.out rfl
        clear HRF
        go_wp2
        go_ret
        exact ⟨ret_bool HRF2.out.symm, HB2.out⟩
    · have hge : ¬ (k : Int) < (n : Int) := by omega
      have HRT : Hid (r = true) := by
        have := HAL.out
        rw [List.take_of_length_le (by have := En.out; omega)] at this
        show _ = _
        rw [HE2.out]; exact this
      go_wp2
      go_ret
      exact ⟨ret_bool HRT.out.symm, HBW.out⟩
/-- cuts one behind the other -/
def CtsR (w : World) (ka : Option Addr) (cs : List Ct) : Prop := ∀ k c, cs[k]? = some c → ∃ b o, ka = some ⟨b, o, none⟩ ∧ CtAt w b (o + k * 8) c
theorem CtsR.to {w w' : World} {ka : Option Addr} {cs : List Ct} (h : CtsR w ka cs) (hb : Bl w w') : CtsR w' ka cs := fun k c hc => by
  obtain ⟨b, o, h1, h2⟩ := h k c hc
  exact ⟨b, o, h1, h2.to h2.lt hb⟩
/-- what is wanted of a cut that is beaten or beats -/
def LvIn (n : Nat) (c : Ct) : Prop := c.lv.length ≤ 4 ∧ ∀ u, u ∈ c.lv → u < n

set_option maxRecDepth 100000 in
set_option maxHeartbeats 8000000 in
theorem beaten_any (w : World) (S : FnS) (Cs : List (List Ct)) (h : FinR w S Cs) (hcs : HasC Cs) (bb bo : Nat) (c : Ct) (hc : CtAt w bb bo c) (lc : LvIn Cs.length c) (ka : Option Addr) (kc : Nat) (ks : List Ct) (hk : CtsR w ka ks) (lk : ∀ k, k ∈ ks → LvIn Cs.length k) (hn : ks.length ≤ 1000000) :
    Calls Try.prog 71 #[.pointer (some ⟨S.fb, 0, none⟩), .pointer (some ⟨bb, bo, none⟩), .slice ka ks.length kc] w fun e w' => e = .returned (.bool (ks.any fun k => beatsB (KOf Cs) k.lv c.lv)) ∧ Bl w w' := by
  have HBT : Hid (∀ (v : World) (k : Nat) (x : Ct), Bl w v → ks[k]? = some x → ∃ b o, ka = some ⟨b, o, none⟩ ∧ Calls Try.prog 77 #[.pointer (some ⟨S.fb, 0, none⟩), .pointer (some ⟨b, o + k * 8, none⟩), .pointer (some ⟨bb, bo, none⟩)] v fun e w' => e = .returned (.bool (beatsB (KOf Cs) x.lv c.lv)) ∧ Bl v w') := fun v k x hv hx => by
    obtain ⟨b, o, h1, h2⟩ := hk k x hx
    exact ⟨b, o, h1, beats_any v S Cs (h.to hv) hcs b _ bb bo x c (h2.to h2.lt hv) (hc.to hc.lt hv) (lk x (List.mem_of_getElem? hx)).1 lc.1 lc.2⟩
  obtain ⟨p, HP⟩ : ∃ p : Ct → Bool, Hid (∀ k : Ct, beatsB (KOf Cs) k.lv c.lv = p k) := ⟨_, fun _ => rfl⟩
  simp only [HP.out] at HBT
  simp only [HP.out]
  obtain ⟨r, HR⟩ : ∃ r, Hid (r = ks.any fun k => p k) := ⟨_, rfl⟩
  rw [← HR.out]
  generalize S.fb = fb at *
  obtain ⟨n, En⟩ := exh ks.length
  rw [← En.out] at hn ⊢
  clear h hcs hc lc hk lk HP
  go_enter Try.func71, Try.ntmps71
  go_wp2_with fail
  go_loopw [7, 10] (fun _ i' w' => ∃ k : Nat, k ≤ n ∧ i' = .int .i64 (k : Int) ∧ Hid ((ks.take k).any (fun k => p k) = false) ∧ Hid (Bl w w')) (fun _ i' _ => n - (intOf i').toNat)
  case atStart => exact ⟨0, Nat.zero_le _, rfl, (by show (ks.take 0).any _ = false; rfl), Below.refl _ _⟩
  case round =>
    obtain ⟨k, hk, rfl, HAN, HBW⟩ := hrel
    by_cases hlt : k < n
    · have hltI : (k : Int) < (n : Int) := by omega
      obtain ⟨x, hx⟩ := getElem_lt (show k < ks.length by rw [← En.out]; exact hlt)
      obtain ⟨b, o, ea, hcall⟩ := HBT.out wr k x HBW.out hx
      have HT := hidden hcall
      have e2 : IntKind.i64.wrap ((k : Int) + 1) = (k : Int) + 1 := wrapI _ (by omega) (by omega)
      have HNX : Hid ((ks.take (k + 1)).any (fun k => p k) = p x) := by
        show _ = _
        rw [any_next _ _ _ _ hx, HAN.out, Bool.false_or]
      have HRT : Hid (p x = true → r = true) := fun hp => by rw [HR.out]; exact List.any_eq_true.2 ⟨x, List.mem_of_getElem? hx, hp⟩
      subst ea
      clear hx HAN hcall
      generalize p x = q at *
      go_wp2_with fail
      go_at_call 77
      refine HT.out.mono ?_
      rintro e v2 ⟨rfl, hv2⟩
      have HB2 : Hid (Bl w v2) := Bl.tr HBW.out hv2
      clear hv2 HT
      cases q with
      | false =>
        clear HRT
        go_wp2
        go_roundw
        case measure => simp [intOf]; omega
        case rel => exact ⟨k + 1, by omega, by simp, HNX.out, HB2.out⟩
      | true =>
        have HRT2 : Hid (r = true) := HRT.out rfl
        clear HRT
        go_wp2
        go_ret
        exact ⟨ret_bool HRT2.out.symm, HB2.out⟩
    · have hge : ¬ (k : Int) < (n : Int) := by omega
      have HRF : Hid (r = false) := by
        have := HAN.out
        rw [List.take_of_length_le (by have := En.out; omega)] at this
        show _ = _
        rw [HR.out]; exact this
      go_wp2
      go_ret
      exact ⟨ret_bool HRF.out.symm, HBW.out⟩
end Go.Proofs.Ytlaljeobdddegaa
