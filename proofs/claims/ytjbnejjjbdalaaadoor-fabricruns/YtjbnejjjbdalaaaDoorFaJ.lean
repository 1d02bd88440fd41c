import Derived.Test.YtjbnejjjbdalaaaDoorFaI
namespace Go.Proofs.YtjbnejjjbdalaaaDoor
open Go.RowKit

def stg (sel : Nat → Nat) (xb t : Nat) : CeD := ⟨if 0 < t then (sel 0 : Nat) else 0, if 1 < t then (sel 1 : Nat) else 0, if 2 < t then (sel 2 : Nat) else 0, if 3 < t then (sel 3 : Nat) else 0, (xb : Nat)⟩
def okT (sel : Nat → Nat) (s t : Nat) : Bool := (List.range t).all fun j => decide (sel j < s)
theorem okT_next (sel : Nat → Nat) (s t : Nat) : okT sel s (t + 1) = (okT sel s t && decide (sel t < s)) := range_next _ t
theorem okT_four (sel : Nat → Nat) (xb s : Nat) (hx : xb < 65536) : okT sel s 4 = CeD.ok (s : Int) (stg sel xb 4) := by
  have e : ∀ x : Nat, inR (s : Int) (x : Int) = decide (x < s) := fun x => by
    unfold inR
    by_cases h : x < s
    · rw [decide_eq_true h, decide_eq_true (by omega)]
    · rw [decide_eq_false h, decide_eq_false (by omega)]
  have eb : inR 65536 (xb : Int) = true := by unfold inR; exact decide_eq_true (by omega)
  show ([0, 1, 2, 3].all fun j => decide (sel j < s)) = (inR 65536 ((xb : Nat) : Int) && inR s ((sel 0 : Nat) : Int) && inR s ((sel 1 : Nat) : Int) && inR s ((sel 2 : Nat) : Int) && inR s ((sel 3 : Nat) : Int))
  rw [eb, e, e, e, e]
  simp [Bool.and_assoc]
theorem wrong_more (a b : Bool) (s x : Nat) : ((a || !b) || decide (s ≤ x)) = (a || !(b && decide (x < s))) := by
  by_cases h : x < s
  · rw [decide_eq_true h, decide_eq_false (by omega)]; cases a <;> cases b <;> rfl
  · rw [decide_eq_false h, decide_eq_true (by omega)]; cases a <;> cases b <;> rfl
theorem row_next (cs : List CeD) (i : Nat) (d : CeD) (h : cs[i]? = some d) : cs.take i ++ List.replicate (cs.length - i) zeroC = cs.take i ++ zeroC :: List.replicate (cs.length - i - 1) zeroC := by
  have hi := (List.getElem?_eq_some_iff.1 h).1
  rw [show cs.length - i = (cs.length - i - 1) + 1 by omega, List.replicate_succ, Nat.add_sub_cancel]

set_option maxRecDepth 100000 in
set_option maxHeartbeats 16000000 in
theorem column_any (B : Nat) (w : World) (lb : Nat) (hB : B ≤ lb) (hBw : B ≤ w.heap.size) (a : Option Addr) (c : Nat) (bs : List Nat) (p rows s : Nat) (wrong : Bool) (hb : Blk w lb 79 (ldQ a bs c p wrong)) (R : RowAt B w a 1 (bs.map byteC)) (hl : bs.length < 281474976710656) (hby : ∀ x, x ∈ bs → x < 256) (hs : s ≤ 65536) (hr : rows ≤ 500) :
    Calls Tryd.prog 38 #[.pointer (some ⟨lb, 0, none⟩), .int .i64 (rows : Int), .int .i64 (s : Int)] w fun e w' => ∃ g, e = .returned (.slice (some ⟨g, 0, none⟩) rows rows) ∧ w.heap.size ≤ g ∧ But lb w w' ∧ Blk w' lb 79 (ldQ a bs c (p + rows * cw (wid s)) (wrong || !(clS (numN bs) p (wid s) rows).all (CeD.ok s))) ∧ Blk w' g 53 (flatC (clS (numN bs) p (wid s) rows)).toArray := by
  obtain ⟨k, HKW⟩ : ∃ k, Hid (wid s = k) := ⟨_, rfl⟩
  rw [HKW.out]
  have hk16 : k ≤ 16 := by rw [← HKW.out]; exact wid_lt s hs
  obtain ⟨cs, HCS⟩ : ∃ cs, Hid (clS (numN bs) p k rows = cs) := ⟨_, rfl⟩
  rw [HCS.out]
  have HCL : Hid (cs.length = rows) := by rw [← HCS.out]; exact clS_len _ _ _ _
  have HCG : Hid (∀ j, j < rows → cs[j]? = some (ceS (numN bs) (p + j * cw k) k)) := fun j hj => by rw [← HCS.out]; exact clS_get _ _ _ _ _ hj
  have HLB := hidden hb
  have HNU : Hid (∀ (v : World) (p' : Nat) (wr' : Bool), Below B w v → Blk v lb 79 (ldQ a bs c p' wr') → Calls Tryd.prog 39 #[.pointer (some ⟨lb, 0, none⟩), .int .i64 16] v fun e w' => e = .returned (.int .i64 ((numN bs p' 16 : Nat) : Int)) ∧ But lb v w' ∧ Blk w' lb 79 (ldQ a bs c (p' + 16) wr')) := fun v p' wr' hv hk => number_any B v lb hB a c bs p' 16 wr' hk (R.to hv) hl hby (by omega)
  have HSL : Hid (∀ (v : World) (p' : Nat) (wr' : Bool), Below B w v → Blk v lb 79 (ldQ a bs c p' wr') → Calls Tryd.prog 40 #[.pointer (some ⟨lb, 0, none⟩), .int .i64 (s : Int)] v fun e w' => e = .returned (.int .i64 ((numN bs p' k : Nat) : Int)) ∧ But lb v w' ∧ Blk w' lb 79 (ldQ a bs c (p' + k) (wr' || decide (s ≤ numN bs p' k)))) := fun v p' wr' hv hk => by
    have := selector_any B v lb hB a c bs p' s wr' hk (R.to hv) hl hby hs
    rw [HKW.out] at this; exact this
  obtain ⟨ib, hib, hzb, hsb, hbb⟩ := info_cell
  have HI := hidden hib
  have HZ := hidden hzb
  have HS := hidden hsb
  have hmkb : ib.bytes * rows ≤ 281474976710656 := by rw [hbb]; omega
  have hmx : rows ≤ maxLen := by simp only [maxLen]; omega
  have hlbw := hb.lt
  clear hib hzb hsb hbb hb R hl hby hs
  have tok : True := trivial
  go_enter Tryd.func38, Tryd.ntmps38
  go_upto_region 2 with (have _t := tok; at_make; (refine wpList_make_full _ rfl (.tmp 10) (.tmp 10) 50 rfl w.heap.size 53 ib _ 5 Tryd.underlying50 HI.out HZ.out HS.out .i64 .i64 (rows : Int) (rows : Int) rows rfl rfl rfl rfl hmkb hmx (Nat.le_refl _) ?_; intro W1 hown1 hgrow1; have HB1 : Hid (Below w.heap.size w W1) := ⟨hgrow1.os, hgrow1.tape, hgrow1.output, hgrow1.size, fun k hk => hgrow1.block k hk (by simp)⟩; have HG0 := hidden (blk_made hown1); clear tok hown1 hgrow1))
  rw [made_ce] at HG0
  obtain ⟨g, hg⟩ : ∃ x, x = w.heap.size := ⟨_, rfl⟩
  rw [← hg] at HG0 ⊢
  have hgl : g ≠ lb := by omega
  have HGW := hidden (show w.heap.size ≤ g ∧ B ≤ g by omega)
  clear hg hmkb hmx
  have HL0 : Hid (Blk W1 lb 79 (ldQ a bs c p wrong)) := HLB.out.below HB1.out
  have HKB : Hid (∀ v, Kp [lb, g] W1 v → Below B w v) := fun v hv => (HB1.out.mono hBw).trans (hv.below (by have := HGW.out.2; simp; omega) (by have := HB1.out.size; omega))
  go_wp2_with fail
  go_loopw [14] (fun i' w' => ∃ (i : Nat), i ≤ rows ∧ i' = .int .i64 i ∧ Hid (Blk w' lb 79 (ldQ a bs c (p + i * cw k) (wrong || !(cs.take i).all (CeD.ok s)))) ∧ Hid (Blk w' g 53 (flatC (cs.take i ++ List.replicate (cs.length - i) zeroC)).toArray) ∧ Hid (Kp [lb, g] W1 w')) (fun i' _ => rows - (intOf i').toNat)
  case atStart => exact ⟨0, Nat.zero_le _, rfl, by show Blk _ _ _ _; simpa using HL0.out, by show Blk _ _ _ _; rw [HCL.out]; simpa using HG0.out, Kp.refl _ _⟩
  case round =>
    clear HL0 HG0
    obtain ⟨i, hi, rfl, HLK, HGK, HKI⟩ := hrel
    by_cases hlt : i < rows
    · have hltI : (i : Int) < (rows : Int) := by omega
      have ei : IntKind.i64.wrap ((i : Int) + 1) = (i : Int) + 1 := wrapI _ (by omega) (by omega)
      obtain ⟨q, HQ⟩ : ∃ q, Hid (p + i * cw k = q) := ⟨_, rfl⟩
      have HCI := hidden (HCG.out i hlt)
      rw [HQ.out] at HCI HLK
      obtain ⟨xb, HXB⟩ : ∃ x, Hid (numN bs q 16 = x) := ⟨_, rfl⟩
      have hxb : xb < 65536 := by rw [← HXB.out]; exact numN_lt bs q 16
      obtain ⟨sel, HSEL⟩ : ∃ f : Nat → Nat, Hid (∀ j, f j = numN bs (q + 16 + j * k) k) := ⟨_, fun _ => rfl⟩
      have HCD : Hid (ceS (numN bs) q k = stg sel xb 4) := by
        show _ = _
        unfold ceS stg
        rw [HXB.out, HSEL.out, HSEL.out, HSEL.out, HSEL.out]; rfl
      rw [HCD.out] at HCI
      obtain ⟨wi_, HWI⟩ : ∃ x, Hid ((wrong || !(cs.take i).all (CeD.ok s)) = x) := ⟨_, rfl⟩
      rw [HWI.out] at HLK
      obtain ⟨pre, HPR⟩ : ∃ x, Hid (cs.take i = x) := ⟨_, rfl⟩
      obtain ⟨post, HPO⟩ : ∃ x, Hid (List.replicate (cs.length - i - 1) zeroC = x) := ⟨_, rfl⟩
      have HPL : Hid (pre.length = i) := by show _ = _; rw [← HPR.out, List.length_take, HCL.out]; omega
      rw [row_next cs i _ HCI.out, HPR.out, HPO.out] at HGK
      have HNC := hidden (HNU.out wr q wi_ (HKB.out wr HKI.out) HLK.out)
      rw [HXB.out] at HNC
      have HPI0 : Hid ((pre ++ zeroC :: post)[i]? = some zeroC) := by show _ = _; rw [← HPL.out, List.getElem?_append_right (Nat.le_refl _), Nat.sub_self]; rfl
      have HST0 : Hid ((flatC (pre ++ zeroC :: post)).set (i * 5 + 4) (.int .i64 (xb : Int)) = flatC (pre ++ stg sel xb 0 :: post)) := by
        show _ = _
        rw [flatC_set (d' := stg sel xb 0) HPI0.out (by omega) rfl]
        congr 1
        rw [← HPL.out, List.set_append_right _ _ (Nat.le_refl _), Nat.sub_self]; rfl
      have HSE : Hid (∀ (v : World) (t : Nat), t < 4 → Kp [lb, g] W1 v → Blk v lb 79 (ldQ a bs c (q + 16 + t * k) (wi_ || !okT sel s t)) → Calls Tryd.prog 40 #[.pointer (some ⟨lb, 0, none⟩), .int .i64 (s : Int)] v fun e w' => e = .returned (.int .i64 ((sel t : Nat) : Int)) ∧ But lb v w' ∧ Blk w' lb 79 (ldQ a bs c (q + 16 + (t + 1) * k) (wi_ || !okT sel s (t + 1)))) := fun v t _ hv hk => by
        have := HSL.out v _ _ (HKB.out v hv) hk
        rw [← HSEL.out t, wrong_more, ← okT_next, show q + 16 + t * k + k = q + 16 + (t + 1) * k by rw [Nat.add_mul t 1 k, Nat.one_mul]; omega] at this
        exact this
      go_upto_block 2 with (go_at_call 39; refine HNC.out.mono ?_; rintro e v0 ⟨rfl, h1, h2⟩; have HL0 := hidden h2; have HK0 : Hid (Kp [lb, g] W1 v0) := HKI.out.trans (h1.kp (by simp)); have HG0 : Hid (Blk v0 g 53 (flatC (pre ++ zeroC :: post)).toArray) := h1.blk HGK.out hgl; have zc : v0.cell? ⟨g, i * 5 + 4, none⟩ = some (.int .i64 0) := HG0.out.cell (by rw [List.getElem?_toArray, flatC_get HPI0.out (by omega)]; rfl); have zf := HG0.out.frozen (i * 5 + 4); clear h1 h2)
      clear zc zf
      have HGN : Hid (Blk (v0.setCell ⟨g, i * 5 + 4, none⟩ (.int .i64 (xb : Int))) g 53 (flatC (pre ++ stg sel xb 0 :: post)).toArray) := by
        have := HG0.out.set (i * 5 + 4) (.int .i64 (xb : Int))
        rw [List.setIfInBounds_toArray, HST0.out] at this
        exact this
      have HLN : Hid (Blk (v0.setCell ⟨g, i * 5 + 4, none⟩ (.int .i64 (xb : Int))) lb 79 (ldQ a bs c (q + 16) wi_)) := (But.set g _ _ _).blk HL0.out (Ne.symm hgl)
      have HKN : Hid (Kp [lb, g] W1 (v0.setCell ⟨g, i * 5 + 4, none⟩ (.int .i64 (xb : Int)))) := HK0.out.trans (Kp.set _ _ _ _ _ (by simp))
      generalize v0.setCell ⟨g, i * 5 + 4, none⟩ (.int .i64 (xb : Int)) = V at *
      clear HLK HGK HKI HL0 HK0 HG0 HNC
      go_wp2_with fail
      go_loopw [23] (fun t' w' => ∃ (t : Nat), t ≤ 4 ∧ t' = .int .i64 t ∧ Hid (Blk w' lb 79 (ldQ a bs c (q + 16 + t * k) (wi_ || !okT sel s t))) ∧ Hid (Blk w' g 53 (flatC (pre ++ stg sel xb t :: post)).toArray) ∧ Hid (Kp [lb, g] W1 w')) (fun t' _ => 4 - (intOf t').toNat)
      case atStart => exact ⟨0, by omega, rfl, by show Blk _ _ _ _; simpa [okT] using HLN.out, HGN.out, HKN.out⟩
      case round =>
        clear HLN HGN HKN
        obtain ⟨t, ht, rfl, HLK, HGK, HKT⟩ := hrel
        rcases (show t = 0 ∨ t = 1 ∨ t = 2 ∨ t = 3 ∨ t = 4 by omega) with rfl | rfl | rfl | rfl | rfl
        · have HPI : Hid ((pre ++ stg sel xb 0 :: post)[i]? = some (stg sel xb 0)) := by show _ = _; rw [← HPL.out, List.getElem?_append_right (Nat.le_refl _), Nat.sub_self]; rfl
          have HST : Hid ((flatC (pre ++ stg sel xb 0 :: post)).set (i * 5) (.int .i64 ((sel 0 : Nat) : Int)) = flatC (pre ++ stg sel xb 1 :: post)) := by
            refine (flatC_set (j := 0) (d' := stg sel xb 1) HPI.out (by omega) rfl).trans ?_
            congr 1
            rw [← HPL.out, List.set_append_right _ _ (Nat.le_refl _), Nat.sub_self]; rfl
          obtain ⟨sv, HSV⟩ : ∃ x, Hid (sel 0 = x) := ⟨_, rfl⟩
          rw [HSV.out] at HST
          have HSE := hidden (HSE.out)
          go_upto_region 9 with fail
          refine wp_region_noPanic ?_
          refine wp_region_held_drew (S := (fun _ => True)) (by kernel_rfl) (by trivial) (fun hHeld => ?_)
          refine wpAnyH_take (i := 0) (oi := _) (v := ?_) rfl (by kernel_rfl) (by kernel_rfl) (by kernel_rfl) (fun _ _ _ h => h) (Or.inl ⟨by rfl, ?_⟩) (by assumption) ?_
          rotate_left
          · (intro w0 hSw; (try dsimp only at hSw); (try simp only [List.getElem_toArray, List.getElem_cons_zero]); go_simp; try (with_reducible rfl))
          try simp only [Act.put, List.getElem_toArray, List.getElem_cons_zero, List.setIfInBounds_toArray, List.set_cons_zero, List.set_cons_succ]
          refine wpAnyH_take (i := 1) (oi := _) (v := ?_) rfl (by kernel_rfl) (by kernel_rfl) (by kernel_rfl) (fun _ _ _ h => h) (Or.inl ⟨by rfl, ?_⟩) (by assumption) ?_
          rotate_left
          · (intro w0 hSw; (try dsimp only at hSw); (try simp only [List.getElem_toArray, List.getElem_cons_zero, List.getElem_cons_succ]); go_simp; try (with_reducible rfl))
          try simp only [Act.put, List.getElem_toArray, List.getElem_cons_zero, List.getElem_cons_succ, List.setIfInBounds_toArray, List.set_cons_zero, List.set_cons_succ]
          refine wpAnyH_take (i := 2) (oi := _) (v := ?_) rfl (by kernel_rfl) (by kernel_rfl) (by kernel_rfl) (fun _ _ _ h => h) (Or.inl ⟨by rfl, ?_⟩) (by assumption) ?_
          rotate_left
          · (intro w0 hSw; (try dsimp only at hSw); (try simp only [List.getElem_toArray, List.getElem_cons_zero, List.getElem_cons_succ]); go_simp; try (with_reducible rfl))
          try simp only [Act.put, List.getElem_toArray, List.getElem_cons_zero, List.getElem_cons_succ, List.setIfInBounds_toArray, List.set_cons_zero, List.set_cons_succ]
          refine wpAnyH_take (i := 3) (oi := _) (v := ?_) rfl (by kernel_rfl) (by kernel_rfl) (by kernel_rfl) (fun _ _ _ h => h) (Or.inl ⟨by rfl, ?_⟩) (by assumption) ?_
          rotate_left
          · (intro w0 hSw; (try dsimp only at hSw); (try simp only [List.getElem_toArray, List.getElem_cons_zero, List.getElem_cons_succ]); go_simp; try (with_reducible rfl))
          try simp only [Act.put, List.getElem_toArray, List.getElem_cons_zero, List.getElem_cons_succ, List.setIfInBounds_toArray, List.set_cons_zero, List.set_cons_succ]
          refine wpAnyH_take (i := 4) (oi := _) (v := ?_) rfl (by kernel_rfl) (by kernel_rfl) (by kernel_rfl) (fun _ _ _ h => h) (Or.inl ⟨by rfl, ?_⟩) (by assumption) ?_
          rotate_left
          · (intro w0 hSw; (try dsimp only at hSw); (try simp only [List.getElem_toArray, List.getElem_cons_zero, List.getElem_cons_succ]); go_simp; try (with_reducible rfl))
          try simp only [Act.put, List.getElem_toArray, List.getElem_cons_zero, List.getElem_cons_succ, List.setIfInBounds_toArray, List.set_cons_zero, List.set_cons_succ]
          refine wpAnyH_take (i := 6) (oi := _) (v := ?_) rfl (by kernel_rfl) (by kernel_rfl) (by kernel_rfl) (fun _ _ _ h => h) (Or.inl ⟨by rfl, ?_⟩) (by assumption) ?_
          rotate_left
          · (intro w0 hSw; (try dsimp only at hSw); (try simp only [List.getElem_toArray, List.getElem_cons_zero, List.getElem_cons_succ]); go_simp; try (with_reducible rfl))
          try simp only [Act.put, List.getElem_toArray, List.getElem_cons_zero, List.getElem_cons_succ, List.setIfInBounds_toArray, List.set_cons_zero, List.set_cons_succ]
          refine wpAnyH_take (i := 7) (oi := _) (v := ?_) rfl (by kernel_rfl) (by kernel_rfl) (by kernel_rfl) (fun _ _ _ h => h) (Or.inl ⟨by rfl, ?_⟩) (by assumption) ?_
          rotate_left
          · (intro w0 hSw; (try dsimp only at hSw); (try simp only [List.getElem_toArray, List.getElem_cons_zero, List.getElem_cons_succ]); go_simp; try (with_reducible rfl))
          try simp only [Act.put, List.getElem_toArray, List.getElem_cons_zero, List.getElem_cons_succ, List.setIfInBounds_toArray, List.set_cons_zero, List.set_cons_succ]
          refine wpAnyH_ready (rs := [5]) (by kernel_rfl) (by simp) ?_
          refine AllReadyH.cons (o := _) rfl (fun K hK => ?_) AllReadyH.nil
          (try simp only [List.getElem_toArray, List.getElem_cons_zero, List.getElem_cons_succ])
          go_simp
          go_at_call 40
          refine (HSE.out _ 0 (by omega) (HKT.out.drew) (show Blk wr.drew lb _ _ from HLK.out)).mono ?_
          rintro e v1 ⟨he, h1, h2⟩
          rw [HSV.out] at he
          subst he
          have HK1 : Hid (Kp [lb, g] W1 v1) := (HKT.out.drew).trans (h1.kp (by simp))
          have HL1 := hidden h2
          have HG1 : Hid (Blk v1 g 53 (flatC (pre ++ stg sel xb 0 :: post)).toArray) := h1.blk (show Blk wr.drew g _ _ from HGK.out) hgl
          have zc : v1.cell? ⟨g, i * 5, none⟩ = some (.int .i64 0) := HG1.out.cell (by have := flatC_get HPI.out (show 0 < 5 by omega); rw [Nat.add_zero] at this; rw [List.getElem?_toArray, this]; rfl)
          have zf := HG1.out.frozen (i * 5)
          clear h1 h2
          go_wp2_with fail
          refine hK.out _ _ (by trivial) (fun hHeld1 => ?_)
          clear hK K
          try simp only [Act.put, List.setIfInBounds_toArray, List.set_cons_zero, List.set_cons_succ]
          refine wpAnyH_take (i := 8) (oi := _) (v := ?_) rfl (by kernel_rfl) (by kernel_rfl) (by kernel_rfl) (fun _ _ _ h => h) (Or.inl ⟨by rfl, ?_⟩) (by assumption) ?_
          rotate_left
          · (intro w0 hSw; (try dsimp only at hSw); (try simp only [List.getElem_toArray, List.getElem_cons_zero, List.getElem_cons_succ]); go_simp; try (with_reducible rfl))
          try simp only [Act.put, List.getElem_toArray, List.getElem_cons_zero, List.getElem_cons_succ, List.setIfInBounds_toArray, List.set_cons_zero, List.set_cons_succ]
          refine wpAnyH_ready (rs := [9]) (by kernel_rfl) (by simp) ?_
          refine AllReadyH.cons (o := _) rfl (fun K hK => ?_) AllReadyH.nil
          (try simp only [List.getElem_toArray, List.getElem_cons_zero, List.getElem_cons_succ])
          go_simp
          skip
          go_wp2_with fail
          refine hK.out _ _ (by trivial) (fun hHeld2 => ?_)
          clear hK K
          try simp only [Act.put, List.setIfInBounds_toArray, List.set_cons_zero, List.set_cons_succ]
          refine wpAnyH_done (by kernel_rfl) ?_ _
          refine NoPanic.normal ?_
          have HGN : Hid (Blk (v1.setCell ⟨g, i * 5, none⟩ (.int .i64 (sv : Int))) g 53 (flatC (pre ++ stg sel xb 1 :: post)).toArray) := by
            have := HG1.out.set (i * 5) (.int .i64 (sv : Int))
            rw [List.setIfInBounds_toArray, HST.out] at this
            exact this
          have HLN : Hid (Blk (v1.setCell ⟨g, i * 5, none⟩ (.int .i64 (sv : Int))) lb 79 (ldQ a bs c (q + 16 + (0 + 1) * k) (wi_ || !okT sel s (0 + 1)))) := (But.set g _ _ _).blk HL1.out (Ne.symm hgl)
          have HKN : Hid (Kp [lb, g] W1 (v1.setCell ⟨g, i * 5, none⟩ (.int .i64 (sv : Int)))) := HK1.out.trans (Kp.set _ _ _ _ _ (by simp))
          go_wp2
          go_roundw
          case measure => simp [intOf]
          case rel => exact ⟨1, by omega, by simp, HLN.out, HGN.out, HKN.out⟩
        · have HPI : Hid ((pre ++ stg sel xb 1 :: post)[i]? = some (stg sel xb 1)) := by show _ = _; rw [← HPL.out, List.getElem?_append_right (Nat.le_refl _), Nat.sub_self]; rfl
          have HST : Hid ((flatC (pre ++ stg sel xb 1 :: post)).set (i * 5 + 1) (.int .i64 ((sel 1 : Nat) : Int)) = flatC (pre ++ stg sel xb 2 :: post)) := by
            refine (flatC_set (j := 1) (d' := stg sel xb 2) HPI.out (by omega) rfl).trans ?_
            congr 1
            rw [← HPL.out, List.set_append_right _ _ (Nat.le_refl _), Nat.sub_self]; rfl
          obtain ⟨sv, HSV⟩ : ∃ x, Hid (sel 1 = x) := ⟨_, rfl⟩
          rw [HSV.out] at HST
          have HSE := hidden (HSE.out)
          go_upto_region 9 with fail
          refine wp_region_noPanic ?_
          refine wp_region_held_drew (S := (fun _ => True)) (by kernel_rfl) (by trivial) (fun hHeld => ?_)
          refine wpAnyH_take (i := 0) (oi := _) (v := ?_) rfl (by kernel_rfl) (by kernel_rfl) (by kernel_rfl) (fun _ _ _ h => h) (Or.inl ⟨by rfl, ?_⟩) (by assumption) ?_
          rotate_left
          · (intro w0 hSw; (try dsimp only at hSw); (try simp only [List.getElem_toArray, List.getElem_cons_zero]); go_simp; try (with_reducible rfl))
          try simp only [Act.put, List.getElem_toArray, List.getElem_cons_zero, List.setIfInBounds_toArray, List.set_cons_zero, List.set_cons_succ]
          refine wpAnyH_take (i := 1) (oi := _) (v := ?_) rfl (by kernel_rfl) (by kernel_rfl) (by kernel_rfl) (fun _ _ _ h => h) (Or.inl ⟨by rfl, ?_⟩) (by assumption) ?_
          rotate_left
          · (intro w0 hSw; (try dsimp only at hSw); (try simp only [List.getElem_toArray, List.getElem_cons_zero, List.getElem_cons_succ]); go_simp; try (with_reducible rfl))
          try simp only [Act.put, List.getElem_toArray, List.getElem_cons_zero, List.getElem_cons_succ, List.setIfInBounds_toArray, List.set_cons_zero, List.set_cons_succ]
          refine wpAnyH_take (i := 2) (oi := _) (v := ?_) rfl (by kernel_rfl) (by kernel_rfl) (by kernel_rfl) (fun _ _ _ h => h) (Or.inl ⟨by rfl, ?_⟩) (by assumption) ?_
          rotate_left
          · (intro w0 hSw; (try dsimp only at hSw); (try simp only [List.getElem_toArray, List.getElem_cons_zero, List.getElem_cons_succ]); go_simp; try (with_reducible rfl))
          try simp only [Act.put, List.getElem_toArray, List.getElem_cons_zero, List.getElem_cons_succ, List.setIfInBounds_toArray, List.set_cons_zero, List.set_cons_succ]
          refine wpAnyH_take (i := 3) (oi := _) (v := ?_) rfl (by kernel_rfl) (by kernel_rfl) (by kernel_rfl) (fun _ _ _ h => h) (Or.inl ⟨by rfl, ?_⟩) (by assumption) ?_
          rotate_left
          · (intro w0 hSw; (try dsimp only at hSw); (try simp only [List.getElem_toArray, List.getElem_cons_zero, List.getElem_cons_succ]); go_simp; try (with_reducible rfl))
          try simp only [Act.put, List.getElem_toArray, List.getElem_cons_zero, List.getElem_cons_succ, List.setIfInBounds_toArray, List.set_cons_zero, List.set_cons_succ]
          refine wpAnyH_take (i := 4) (oi := _) (v := ?_) rfl (by kernel_rfl) (by kernel_rfl) (by kernel_rfl) (fun _ _ _ h => h) (Or.inl ⟨by rfl, ?_⟩) (by assumption) ?_
          rotate_left
          · (intro w0 hSw; (try dsimp only at hSw); (try simp only [List.getElem_toArray, List.getElem_cons_zero, List.getElem_cons_succ]); go_simp; try (with_reducible rfl))
          try simp only [Act.put, List.getElem_toArray, List.getElem_cons_zero, List.getElem_cons_succ, List.setIfInBounds_toArray, List.set_cons_zero, List.set_cons_succ]
          refine wpAnyH_take (i := 6) (oi := _) (v := ?_) rfl (by kernel_rfl) (by kernel_rfl) (by kernel_rfl) (fun _ _ _ h => h) (Or.inl ⟨by rfl, ?_⟩) (by assumption) ?_
          rotate_left
          · (intro w0 hSw; (try dsimp only at hSw); (try simp only [List.getElem_toArray, List.getElem_cons_zero, List.getElem_cons_succ]); go_simp; try (with_reducible rfl))
          try simp only [Act.put, List.getElem_toArray, List.getElem_cons_zero, List.getElem_cons_succ, List.setIfInBounds_toArray, List.set_cons_zero, List.set_cons_succ]
          refine wpAnyH_take (i := 7) (oi := _) (v := ?_) rfl (by kernel_rfl) (by kernel_rfl) (by kernel_rfl) (fun _ _ _ h => h) (Or.inl ⟨by rfl, ?_⟩) (by assumption) ?_
          rotate_left
          · (intro w0 hSw; (try dsimp only at hSw); (try simp only [List.getElem_toArray, List.getElem_cons_zero, List.getElem_cons_succ]); go_simp; try (with_reducible rfl))
          try simp only [Act.put, List.getElem_toArray, List.getElem_cons_zero, List.getElem_cons_succ, List.setIfInBounds_toArray, List.set_cons_zero, List.set_cons_succ]
          refine wpAnyH_ready (rs := [5]) (by kernel_rfl) (by simp) ?_
          refine AllReadyH.cons (o := _) rfl (fun K hK => ?_) AllReadyH.nil
          (try simp only [List.getElem_toArray, List.getElem_cons_zero, List.getElem_cons_succ])
          go_simp
          go_at_call 40
          refine (HSE.out _ 1 (by omega) (HKT.out.drew) (show Blk wr.drew lb _ _ from HLK.out)).mono ?_
          rintro e v1 ⟨he, h1, h2⟩
          rw [HSV.out] at he
          subst he
          have HK1 : Hid (Kp [lb, g] W1 v1) := (HKT.out.drew).trans (h1.kp (by simp))
          have HL1 := hidden h2
          have HG1 : Hid (Blk v1 g 53 (flatC (pre ++ stg sel xb 1 :: post)).toArray) := h1.blk (show Blk wr.drew g _ _ from HGK.out) hgl
          have zc : v1.cell? ⟨g, i * 5 + 1, none⟩ = some (.int .i64 0) := HG1.out.cell (by rw [List.getElem?_toArray, flatC_get HPI.out (by omega)]; rfl)
          have zf := HG1.out.frozen (i * 5 + 1)
          clear h1 h2
          go_wp2_with fail
          refine hK.out _ _ (by trivial) (fun hHeld1 => ?_)
          clear hK K
          try simp only [Act.put, List.setIfInBounds_toArray, List.set_cons_zero, List.set_cons_succ]
          refine wpAnyH_take (i := 8) (oi := _) (v := ?_) rfl (by kernel_rfl) (by kernel_rfl) (by kernel_rfl) (fun _ _ _ h => h) (Or.inl ⟨by rfl, ?_⟩) (by assumption) ?_
          rotate_left
          · (intro w0 hSw; (try dsimp only at hSw); (try simp only [List.getElem_toArray, List.getElem_cons_zero, List.getElem_cons_succ]); go_simp; try (with_reducible rfl))
          try simp only [Act.put, List.getElem_toArray, List.getElem_cons_zero, List.getElem_cons_succ, List.setIfInBounds_toArray, List.set_cons_zero, List.set_cons_succ]
          refine wpAnyH_ready (rs := [9]) (by kernel_rfl) (by simp) ?_
          refine AllReadyH.cons (o := _) rfl (fun K hK => ?_) AllReadyH.nil
          (try simp only [List.getElem_toArray, List.getElem_cons_zero, List.getElem_cons_succ])
          go_simp
          skip
          go_wp2_with fail
          refine hK.out _ _ (by trivial) (fun hHeld2 => ?_)
          clear hK K
          try simp only [Act.put, List.setIfInBounds_toArray, List.set_cons_zero, List.set_cons_succ]
          refine wpAnyH_done (by kernel_rfl) ?_ _
          refine NoPanic.normal ?_
          have HGN : Hid (Blk (v1.setCell ⟨g, i * 5 + 1, none⟩ (.int .i64 (sv : Int))) g 53 (flatC (pre ++ stg sel xb 2 :: post)).toArray) := by
            have := HG1.out.set (i * 5 + 1) (.int .i64 (sv : Int))
            rw [List.setIfInBounds_toArray, HST.out] at this
            exact this
          have HLN : Hid (Blk (v1.setCell ⟨g, i * 5 + 1, none⟩ (.int .i64 (sv : Int))) lb 79 (ldQ a bs c (q + 16 + (1 + 1) * k) (wi_ || !okT sel s (1 + 1)))) := (But.set g _ _ _).blk HL1.out (Ne.symm hgl)
          have HKN : Hid (Kp [lb, g] W1 (v1.setCell ⟨g, i * 5 + 1, none⟩ (.int .i64 (sv : Int)))) := HK1.out.trans (Kp.set _ _ _ _ _ (by simp))
          go_wp2
          go_roundw
          case measure => simp [intOf]
          case rel => exact ⟨2, by omega, by simp, HLN.out, HGN.out, HKN.out⟩
        · have HPI : Hid ((pre ++ stg sel xb 2 :: post)[i]? = some (stg sel xb 2)) := by show _ = _; rw [← HPL.out, List.getElem?_append_right (Nat.le_refl _), Nat.sub_self]; rfl
          have HST : Hid ((flatC (pre ++ stg sel xb 2 :: post)).set (i * 5 + 2) (.int .i64 ((sel 2 : Nat) : Int)) = flatC (pre ++ stg sel xb 3 :: post)) := by
            refine (flatC_set (j := 2) (d' := stg sel xb 3) HPI.out (by omega) rfl).trans ?_
            congr 1
            rw [← HPL.out, List.set_append_right _ _ (Nat.le_refl _), Nat.sub_self]; rfl
          obtain ⟨sv, HSV⟩ : ∃ x, Hid (sel 2 = x) := ⟨_, rfl⟩
          rw [HSV.out] at HST
          have HSE := hidden (HSE.out)
          go_upto_region 9 with fail
          refine wp_region_noPanic ?_
          refine wp_region_held_drew (S := (fun _ => True)) (by kernel_rfl) (by trivial) (fun hHeld => ?_)
          refine wpAnyH_take (i := 0) (oi := _) (v := ?_) rfl (by kernel_rfl) (by kernel_rfl) (by kernel_rfl) (fun _ _ _ h => h) (Or.inl ⟨by rfl, ?_⟩) (by assumption) ?_
          rotate_left
          · (intro w0 hSw; (try dsimp only at hSw); (try simp only [List.getElem_toArray, List.getElem_cons_zero]); go_simp; try (with_reducible rfl))
          try simp only [Act.put, List.getElem_toArray, List.getElem_cons_zero, List.setIfInBounds_toArray, List.set_cons_zero, List.set_cons_succ]
          refine wpAnyH_take (i := 1) (oi := _) (v := ?_) rfl (by kernel_rfl) (by kernel_rfl) (by kernel_rfl) (fun _ _ _ h => h) (Or.inl ⟨by rfl, ?_⟩) (by assumption) ?_
          rotate_left
          · (intro w0 hSw; (try dsimp only at hSw); (try simp only [List.getElem_toArray, List.getElem_cons_zero, List.getElem_cons_succ]); go_simp; try (with_reducible rfl))
          try simp only [Act.put, List.getElem_toArray, List.getElem_cons_zero, List.getElem_cons_succ, List.setIfInBounds_toArray, List.set_cons_zero, List.set_cons_succ]
          refine wpAnyH_take (i := 2) (oi := _) (v := ?_) rfl (by kernel_rfl) (by kernel_rfl) (by kernel_rfl) (fun _ _ _ h => h) (Or.inl ⟨by rfl, ?_⟩) (by assumption) ?_
          rotate_left
          · (intro w0 hSw; (try dsimp only at hSw); (try simp only [List.getElem_toArray, List.getElem_cons_zero, List.getElem_cons_succ]); go_simp; try (with_reducible rfl))
          try simp only [Act.put, List.getElem_toArray, List.getElem_cons_zero, List.getElem_cons_succ, List.setIfInBounds_toArray, List.set_cons_zero, List.set_cons_succ]
          refine wpAnyH_take (i := 3) (oi := _) (v := ?_) rfl (by kernel_rfl) (by kernel_rfl) (by kernel_rfl) (fun _ _ _ h => h) (Or.inl ⟨by rfl, ?_⟩) (by assumption) ?_
          rotate_left
          · (intro w0 hSw; (try dsimp only at hSw); (try simp only [List.getElem_toArray, List.getElem_cons_zero, List.getElem_cons_succ]); go_simp; try (with_reducible rfl))
          try simp only [Act.put, List.getElem_toArray, List.getElem_cons_zero, List.getElem_cons_succ, List.setIfInBounds_toArray, List.set_cons_zero, List.set_cons_succ]
          refine wpAnyH_take (i := 4) (oi := _) (v := ?_) rfl (by kernel_rfl) (by kernel_rfl) (by kernel_rfl) (fun _ _ _ h => h) (Or.inl ⟨by rfl, ?_⟩) (by assumption) ?_
          rotate_left
          · (intro w0 hSw; (try dsimp only at hSw); (try simp only [List.getElem_toArray, List.getElem_cons_zero, List.getElem_cons_succ]); go_simp; try (with_reducible rfl))
          try simp only [Act.put, List.getElem_toArray, List.getElem_cons_zero, List.getElem_cons_succ, List.setIfInBounds_toArray, List.set_cons_zero, List.set_cons_succ]
          refine wpAnyH_take (i := 6) (oi := _) (v := ?_) rfl (by kernel_rfl) (by kernel_rfl) (by kernel_rfl) (fun _ _ _ h => h) (Or.inl ⟨by rfl, ?_⟩) (by assumption) ?_
          rotate_left
          · (intro w0 hSw; (try dsimp only at hSw); (try simp only [List.getElem_toArray, List.getElem_cons_zero, List.getElem_cons_succ]); go_simp; try (with_reducible rfl))
          try simp only [Act.put, List.getElem_toArray, List.getElem_cons_zero, List.getElem_cons_succ, List.setIfInBounds_toArray, List.set_cons_zero, List.set_cons_succ]
          refine wpAnyH_take (i := 7) (oi := _) (v := ?_) rfl (by kernel_rfl) (by kernel_rfl) (by kernel_rfl) (fun _ _ _ h => h) (Or.inl ⟨by rfl, ?_⟩) (by assumption) ?_
          rotate_left
          · (intro w0 hSw; (try dsimp only at hSw); (try simp only [List.getElem_toArray, List.getElem_cons_zero, List.getElem_cons_succ]); go_simp; try (with_reducible rfl))
          try simp only [Act.put, List.getElem_toArray, List.getElem_cons_zero, List.getElem_cons_succ, List.setIfInBounds_toArray, List.set_cons_zero, List.set_cons_succ]
          refine wpAnyH_ready (rs := [5]) (by kernel_rfl) (by simp) ?_
          refine AllReadyH.cons (o := _) rfl (fun K hK => ?_) AllReadyH.nil
          (try simp only [List.getElem_toArray, List.getElem_cons_zero, List.getElem_cons_succ])
          go_simp
          go_at_call 40
          refine (HSE.out _ 2 (by omega) (HKT.out.drew) (show Blk wr.drew lb _ _ from HLK.out)).mono ?_
          rintro e v1 ⟨he, h1, h2⟩
          rw [HSV.out] at he
          subst he
          have HK1 : Hid (Kp [lb, g] W1 v1) := (HKT.out.drew).trans (h1.kp (by simp))
          have HL1 := hidden h2
          have HG1 : Hid (Blk v1 g 53 (flatC (pre ++ stg sel xb 2 :: post)).toArray) := h1.blk (show Blk wr.drew g _ _ from HGK.out) hgl
          have zc : v1.cell? ⟨g, i * 5 + 2, none⟩ = some (.int .i64 0) := HG1.out.cell (by rw [List.getElem?_toArray, flatC_get HPI.out (by omega)]; rfl)
          have zf := HG1.out.frozen (i * 5 + 2)
          clear h1 h2
          go_wp2_with fail
          refine hK.out _ _ (by trivial) (fun hHeld1 => ?_)
          clear hK K
          try simp only [Act.put, List.setIfInBounds_toArray, List.set_cons_zero, List.set_cons_succ]
          refine wpAnyH_take (i := 8) (oi := _) (v := ?_) rfl (by kernel_rfl) (by kernel_rfl) (by kernel_rfl) (fun _ _ _ h => h) (Or.inl ⟨by rfl, ?_⟩) (by assumption) ?_
          rotate_left
          · (intro w0 hSw; (try dsimp only at hSw); (try simp only [List.getElem_toArray, List.getElem_cons_zero, List.getElem_cons_succ]); go_simp; try (with_reducible rfl))
          try simp only [Act.put, List.getElem_toArray, List.getElem_cons_zero, List.getElem_cons_succ, List.setIfInBounds_toArray, List.set_cons_zero, List.set_cons_succ]
          refine wpAnyH_ready (rs := [9]) (by kernel_rfl) (by simp) ?_
          refine AllReadyH.cons (o := _) rfl (fun K hK => ?_) AllReadyH.nil
          (try simp only [List.getElem_toArray, List.getElem_cons_zero, List.getElem_cons_succ])
          go_simp
          skip
          go_wp2_with fail
          refine hK.out _ _ (by trivial) (fun hHeld2 => ?_)
          clear hK K
          try simp only [Act.put, List.setIfInBounds_toArray, List.set_cons_zero, List.set_cons_succ]
          refine wpAnyH_done (by kernel_rfl) ?_ _
          refine NoPanic.normal ?_
          have HGN : Hid (Blk (v1.setCell ⟨g, i * 5 + 2, none⟩ (.int .i64 (sv : Int))) g 53 (flatC (pre ++ stg sel xb 3 :: post)).toArray) := by
            have := HG1.out.set (i * 5 + 2) (.int .i64 (sv : Int))
            rw [List.setIfInBounds_toArray, HST.out] at this
            exact this
          have HLN : Hid (Blk (v1.setCell ⟨g, i * 5 + 2, none⟩ (.int .i64 (sv : Int))) lb 79 (ldQ a bs c (q + 16 + (2 + 1) * k) (wi_ || !okT sel s (2 + 1)))) := (But.set g _ _ _).blk HL1.out (Ne.symm hgl)
          have HKN : Hid (Kp [lb, g] W1 (v1.setCell ⟨g, i * 5 + 2, none⟩ (.int .i64 (sv : Int)))) := HK1.out.trans (Kp.set _ _ _ _ _ (by simp))
          go_wp2
          go_roundw
          case measure => simp [intOf]
          case rel => exact ⟨3, by omega, by simp, HLN.out, HGN.out, HKN.out⟩
        · have HPI : Hid ((pre ++ stg sel xb 3 :: post)[i]? = some (stg sel xb 3)) := by show _ = _; rw [← HPL.out, List.getElem?_append_right (Nat.le_refl _), Nat.sub_self]; rfl
          have HST : Hid ((flatC (pre ++ stg sel xb 3 :: post)).set (i * 5 + 3) (.int .i64 ((sel 3 : Nat) : Int)) = flatC (pre ++ stg sel xb 4 :: post)) := by
            refine (flatC_set (j := 3) (d' := stg sel xb 4) HPI.out (by omega) rfl).trans ?_
            congr 1
            rw [← HPL.out, List.set_append_right _ _ (Nat.le_refl _), Nat.sub_self]; rfl
          obtain ⟨sv, HSV⟩ : ∃ x, Hid (sel 3 = x) := ⟨_, rfl⟩
          rw [HSV.out] at HST
          have HSE := hidden (HSE.out)
          go_upto_region 9 with fail
          refine wp_region_noPanic ?_
          refine wp_region_held_drew (S := (fun _ => True)) (by kernel_rfl) (by trivial) (fun hHeld => ?_)
          refine wpAnyH_take (i := 0) (oi := _) (v := ?_) rfl (by kernel_rfl) (by kernel_rfl) (by kernel_rfl) (fun _ _ _ h => h) (Or.inl ⟨by rfl, ?_⟩) (by assumption) ?_
          rotate_left
          · (intro w0 hSw; (try dsimp only at hSw); (try simp only [List.getElem_toArray, List.getElem_cons_zero]); go_simp; try (with_reducible rfl))
          try simp only [Act.put, List.getElem_toArray, List.getElem_cons_zero, List.setIfInBounds_toArray, List.set_cons_zero, List.set_cons_succ]
          refine wpAnyH_take (i := 1) (oi := _) (v := ?_) rfl (by kernel_rfl) (by kernel_rfl) (by kernel_rfl) (fun _ _ _ h => h) (Or.inl ⟨by rfl, ?_⟩) (by assumption) ?_
          rotate_left
          · (intro w0 hSw; (try dsimp only at hSw); (try simp only [List.getElem_toArray, List.getElem_cons_zero, List.getElem_cons_succ]); go_simp; try (with_reducible rfl))
          try simp only [Act.put, List.getElem_toArray, List.getElem_cons_zero, List.getElem_cons_succ, List.setIfInBounds_toArray, List.set_cons_zero, List.set_cons_succ]
          refine wpAnyH_take (i := 2) (oi := _) (v := ?_) rfl (by kernel_rfl) (by kernel_rfl) (by kernel_rfl) (fun _ _ _ h => h) (Or.inl ⟨by rfl, ?_⟩) (by assumption) ?_
          rotate_left
          · (intro w0 hSw; (try dsimp only at hSw); (try simp only [List.getElem_toArray, List.getElem_cons_zero, List.getElem_cons_succ]); go_simp; try (with_reducible rfl))
          try simp only [Act.put, List.getElem_toArray, List.getElem_cons_zero, List.getElem_cons_succ, List.setIfInBounds_toArray, List.set_cons_zero, List.set_cons_succ]
          refine wpAnyH_take (i := 3) (oi := _) (v := ?_) rfl (by kernel_rfl) (by kernel_rfl) (by kernel_rfl) (fun _ _ _ h => h) (Or.inl ⟨by rfl, ?_⟩) (by assumption) ?_
          rotate_left
          · (intro w0 hSw; (try dsimp only at hSw); (try simp only [List.getElem_toArray, List.getElem_cons_zero, List.getElem_cons_succ]); go_simp; try (with_reducible rfl))
          try simp only [Act.put, List.getElem_toArray, List.getElem_cons_zero, List.getElem_cons_succ, List.setIfInBounds_toArray, List.set_cons_zero, List.set_cons_succ]
          refine wpAnyH_take (i := 4) (oi := _) (v := ?_) rfl (by kernel_rfl) (by kernel_rfl) (by kernel_rfl) (fun _ _ _ h => h) (Or.inl ⟨by rfl, ?_⟩) (by assumption) ?_
          rotate_left
          · (intro w0 hSw; (try dsimp only at hSw); (try simp only [List.getElem_toArray, List.getElem_cons_zero, List.getElem_cons_succ]); go_simp; try (with_reducible rfl))
          try simp only [Act.put, List.getElem_toArray, List.getElem_cons_zero, List.getElem_cons_succ, List.setIfInBounds_toArray, List.set_cons_zero, List.set_cons_succ]
          refine wpAnyH_take (i := 6) (oi := _) (v := ?_) rfl (by kernel_rfl) (by kernel_rfl) (by kernel_rfl) (fun _ _ _ h => h) (Or.inl ⟨by rfl, ?_⟩) (by assumption) ?_
          rotate_left
          · (intro w0 hSw; (try dsimp only at hSw); (try simp only [List.getElem_toArray, List.getElem_cons_zero, List.getElem_cons_succ]); go_simp; try (with_reducible rfl))
          try simp only [Act.put, List.getElem_toArray, List.getElem_cons_zero, List.getElem_cons_succ, List.setIfInBounds_toArray, List.set_cons_zero, List.set_cons_succ]
          refine wpAnyH_take (i := 7) (oi := _) (v := ?_) rfl (by kernel_rfl) (by kernel_rfl) (by kernel_rfl) (fun _ _ _ h => h) (Or.inl ⟨by rfl, ?_⟩) (by assumption) ?_
          rotate_left
          · (intro w0 hSw; (try dsimp only at hSw); (try simp only [List.getElem_toArray, List.getElem_cons_zero, List.getElem_cons_succ]); go_simp; try (with_reducible rfl))
          try simp only [Act.put, List.getElem_toArray, List.getElem_cons_zero, List.getElem_cons_succ, List.setIfInBounds_toArray, List.set_cons_zero, List.set_cons_succ]
          refine wpAnyH_ready (rs := [5]) (by kernel_rfl) (by simp) ?_
          refine AllReadyH.cons (o := _) rfl (fun K hK => ?_) AllReadyH.nil
          (try simp only [List.getElem_toArray, List.getElem_cons_zero, List.getElem_cons_succ])
          go_simp
          go_at_call 40
          refine (HSE.out _ 3 (by omega) (HKT.out.drew) (show Blk wr.drew lb _ _ from HLK.out)).mono ?_
          rintro e v1 ⟨he, h1, h2⟩
          rw [HSV.out] at he
          subst he
          have HK1 : Hid (Kp [lb, g] W1 v1) := (HKT.out.drew).trans (h1.kp (by simp))
          have HL1 := hidden h2
          have HG1 : Hid (Blk v1 g 53 (flatC (pre ++ stg sel xb 3 :: post)).toArray) := h1.blk (show Blk wr.drew g _ _ from HGK.out) hgl
          have zc : v1.cell? ⟨g, i * 5 + 3, none⟩ = some (.int .i64 0) := HG1.out.cell (by rw [List.getElem?_toArray, flatC_get HPI.out (by omega)]; rfl)
          have zf := HG1.out.frozen (i * 5 + 3)
          clear h1 h2
          go_wp2_with fail
          refine hK.out _ _ (by trivial) (fun hHeld1 => ?_)
          clear hK K
          try simp only [Act.put, List.setIfInBounds_toArray, List.set_cons_zero, List.set_cons_succ]
          refine wpAnyH_take (i := 8) (oi := _) (v := ?_) rfl (by kernel_rfl) (by kernel_rfl) (by kernel_rfl) (fun _ _ _ h => h) (Or.inl ⟨by rfl, ?_⟩) (by assumption) ?_
          rotate_left
          · (intro w0 hSw; (try dsimp only at hSw); (try simp only [List.getElem_toArray, List.getElem_cons_zero, List.getElem_cons_succ]); go_simp; try (with_reducible rfl))
          try simp only [Act.put, List.getElem_toArray, List.getElem_cons_zero, List.getElem_cons_succ, List.setIfInBounds_toArray, List.set_cons_zero, List.set_cons_succ]
          refine wpAnyH_ready (rs := [9]) (by kernel_rfl) (by simp) ?_
          refine AllReadyH.cons (o := _) rfl (fun K hK => ?_) AllReadyH.nil
          (try simp only [List.getElem_toArray, List.getElem_cons_zero, List.getElem_cons_succ])
          go_simp
          skip
          go_wp2_with fail
          refine hK.out _ _ (by trivial) (fun hHeld2 => ?_)
          clear hK K
          try simp only [Act.put, List.setIfInBounds_toArray, List.set_cons_zero, List.set_cons_succ]
          refine wpAnyH_done (by kernel_rfl) ?_ _
          refine NoPanic.normal ?_
          have HGN : Hid (Blk (v1.setCell ⟨g, i * 5 + 3, none⟩ (.int .i64 (sv : Int))) g 53 (flatC (pre ++ stg sel xb 4 :: post)).toArray) := by
            have := HG1.out.set (i * 5 + 3) (.int .i64 (sv : Int))
            rw [List.setIfInBounds_toArray, HST.out] at this
            exact this
          have HLN : Hid (Blk (v1.setCell ⟨g, i * 5 + 3, none⟩ (.int .i64 (sv : Int))) lb 79 (ldQ a bs c (q + 16 + (3 + 1) * k) (wi_ || !okT sel s (3 + 1)))) := (But.set g _ _ _).blk HL1.out (Ne.symm hgl)
          have HKN : Hid (Kp [lb, g] W1 (v1.setCell ⟨g, i * 5 + 3, none⟩ (.int .i64 (sv : Int)))) := HK1.out.trans (Kp.set _ _ _ _ _ (by simp))
          go_wp2
          go_roundw
          case measure => simp [intOf]
          case rel => exact ⟨4, by omega, by simp, HLN.out, HGN.out, HKN.out⟩
        · have HLE : Hid (Blk wr lb 79 (ldQ a bs c (p + (i + 1) * cw k) (wrong || !(cs.take (i + 1)).all (CeD.ok s)))) := by
            have := HLK.out
            rw [okT_four sel xb s hxb, ← HWI.out, ← HQ.out, show p + i * cw k + 16 + 4 * k = p + (i + 1) * cw k by rw [Nat.add_mul i 1 (cw k), Nat.one_mul]; unfold cw; omega] at this
            rw [all_next _ _ _ _ HCI.out]
            have e : ∀ x y z : Bool, ((x || !y) || !z) = (x || !(y && z)) := by intro x y z; cases x <;> cases y <;> cases z <;> rfl
            rw [e] at this
            exact this
          have HGE : Hid (Blk wr g 53 (flatC (cs.take (i + 1) ++ List.replicate (cs.length - (i + 1)) zeroC)).toArray) := by
            have := HGK.out
            rw [← HPR.out, ← HPO.out] at this
            rw [take_next _ _ _ HCI.out, List.append_assoc, show cs.length - (i + 1) = cs.length - i - 1 by omega]
            exact this
          go_wp2
          go_roundw
          case measure => simp [intOf]; omega
          case rel => exact ⟨i + 1, by omega, by simp, HLE.out, HGE.out, HKT.out⟩
    · have hge : ¬ ((i : Int) < (rows : Int)) := by omega
      have HE : Hid (i = rows) := by show _ = _; omega
      have HLE : Hid (Blk wr lb 79 (ldQ a bs c (p + rows * cw k) (wrong || !cs.all (CeD.ok s)))) := by
        have := HLK.out
        rw [HE.out, List.take_of_length_le (by rw [HCL.out]; exact Nat.le_refl _)] at this
        exact this
      have HGE : Hid (Blk wr g 53 (flatC cs).toArray) := by
        have := HGK.out
        rw [HE.out, List.take_of_length_le (by rw [HCL.out]; exact Nat.le_refl _), HCL.out, Nat.sub_self, List.replicate_zero, List.append_nil] at this
        exact this
      have HBE : Hid (But lb w wr) := (Kp.trans (Below.kp HB1.out) HKI.out |>.less (hs := [lb]) (fun x hx hn => by
        have := HGW.out.1
        simp at hx hn
        omega)).but
      clear HE
      go_wp2
      go_ret
      exact ⟨g, rfl, HGW.out.1, HBE.out, HLE.out, HGE.out⟩

end Go.Proofs.YtjbnejjjbdalaaaDoor
