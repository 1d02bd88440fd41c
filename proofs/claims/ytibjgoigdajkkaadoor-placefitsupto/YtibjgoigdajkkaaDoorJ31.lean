import Derived.Test.YtibjgoigdajkkaaDoorJ28
import Derived.Test.YtibjgoigdajkkaaDoorJ30
namespace Go.Proofs.YtibjgoigdajkkaaDoor
open Go.RowKit

/-- what is needed, when the last j tables have been looked at -/
def ndD (N : NtD) (F tt : Nat) : Nat → List Bool
  | 0 => markL (N.outs ++ N.next) (List.replicate tt false)
  | j + 1 => match N.tabs[N.tabs.length - 1 - j]? with
    | some d => if (ndD N F tt j).getD (F + (N.tabs.length - 1 - j)) false = true then markL d.ins (ndD N F tt j) else ndD N F tt j
    | none => ndD N F tt j
theorem ndD_len (N : NtD) (F tt j : Nat) : (ndD N F tt j).length = tt := by
  induction j with
  | zero => unfold ndD; rw [markL_len, List.length_replicate]
  | succ j ih =>
    unfold ndD
    split
    · split
      · rw [markL_len, ih]
      · exact ih
    · exact ih
def ndF (N : NtD) (F tt : Nat) : List Bool := ndD N F tt N.tabs.length
def needK (N : NtD) (F tt k : Nat) : List Nat := (List.range k).filter (fun s => decide (2 ≤ s) && (ndF N F tt).getD s false)
theorem needK_small (N : NtD) (F tt k : Nat) (h : k ≤ 2) : needK N F tt k = [] := by
  unfold needK
  rw [List.filter_eq_nil_iff]
  intro s hs hh
  have := List.mem_range.1 hs
  rw [Bool.and_eq_true] at hh
  have := of_decide_eq_true hh.1
  omega
theorem made_bool (n : Nat) : (madeCells (Value.bool false).cells (n * 1)).toList = (List.replicate n false).map bV := made_false n
set_option maxRecDepth 100000 in
set_option maxHeartbeats 8000000 in
theorem needed_any (w : World) (p B : Nat) (S : NtS) (N : NtD) (hx : BoxAt w p S N) (hN : NtAt B w S N) (hB : B ≤ w.heap.size) (R1 : InL3 w S.a4 S.c4 N.outs) (R2 : InL3 w S.a3 S.c3 N.next) (hin : NtIn N) (F nt tt : Nat) (hF : N.first = F) (hnt : N.tabs.length = nt) (htt : F + nt = tt) (ht : tt ≤ 4000000) (h1 : N.outs.length ≤ 400000) (h2 : N.next.length ≤ 400000) :
    Calls Tryd.prog 36 #[.pointer (some ⟨p, 0, none⟩)] w fun e w' => ∃ v, e = .returned v ∧ w'.ownsRow w.heap.size 3 1 v (needK N F tt tt).length ((needK N F tt tt).map natV) ∧ Below w.heap.size w w' := by
  have c2 := hx.c2
  rw [hnt] at c2
  have HFT : Hid (∀ v : World, Below w.heap.size w v → Calls Tryd.prog 38 #[.pointer (some ⟨p, 0, none⟩)] v fun e w' => e = .returned (.int .i64 (F : Int)) ∧ ∃ n, w' = v.drewN n) := fun v hv => by
    rw [← hF]; exact pfirst_any v p S N (hx.to hx.lt hv) hin.i0 hin.i1 hN.li
  obtain ⟨ib, hib, hzb, hsb, hbb⟩ := info_bool
  have HI := hidden hib
  have HZ := hidden hzb
  have HSI := hidden hsb
  have HBY := hidden hbb
  have hmkb : ib.bytes * tt ≤ 281474976710656 := by rw [hbb]; omega
  have hmx : tt ≤ maxLen := by simp only [maxLen]; omega
  have e1 : IntKind.i64.wrap ((F : Int) + (nt : Int)) = (tt : Int) := by rw [wrapI _ (by omega) (by omega)]; omega
  have hpl := hx.lt
  clear hib hzb hsb hbb
  go_enter Tryd.func36, Tryd.ntmps36
  refine wp_seq_k (fun K0 hK0 => ?_)
  have HK0 := hidden hK0
  clear hK0
  go_wp2_with fail
  refine HK0.out _ _ ?_
  clear HK0 K0
  refine wp_seq_k (fun K1 hK1 => ?_)
  have HKK : Hid (∀ (g pd : Nat) (w' : World), w.heap.size ≤ g → w.heap.size ≤ pd → g ≠ pd → Blk w' g 4 ((List.replicate tt false).map bV).toArray → Blk w' pd 22 #[.slice (some ⟨g, 0, none⟩) tt tt] → Below w.heap.size w w' → K1 ⟨#[.pointer (some ⟨p, 0, none⟩), undef, .slice none 0 0, .pointer (some ⟨pd, 0, none⟩), undef, undef, undef, undef, .pointer (some ⟨p, 0, none⟩), .int .i64 (F : Int), .pointer (some ⟨p, 0, none⟩), .pointer (some ⟨p, 0, none⟩), .pointer (some ⟨p, 2, none⟩), .slice S.a2 nt S.c2, .int .i64 (nt : Int), .int .i64 (tt : Int), .slice (some ⟨g, 0, none⟩) tt tt, undef, undef, undef, undef, undef, undef, undef, undef, undef, undef, undef, undef, undef, undef, undef, undef, undef, undef, undef, undef, undef, undef, undef, undef, undef, undef, undef, undef, undef, undef, undef, undef, undef, undef, undef, undef, undef, undef, undef, undef, undef, undef, undef, undef, undef, undef, undef], []⟩ w') := fun g pd w' hg hpd hne hbg hbp hb => by
    refine hK1 _ _ ?_
    clear hK1
    have HBG := hidden hbg
    have HBP := hidden hbp
    have HB0 := hidden hb
    have EN := hidden (ends_any w' p S N (hx.to hx.lt hb) (R1.to hb) (R2.to hb) h1 h2)
    have hgl := hbg.lt
    have hpl2 := hbp.lt
    obtain ⟨L, EL⟩ := exh (N.outs ++ N.next)
    have hLl : L.length = N.outs.length + N.next.length := by rw [EL.out, List.length_append]
    rw [← EL.out, ← hLl] at EN
    have hLb : L.length ≤ 1000000 := by omega
    clear hLl
    have HLI : Hid (∀ s, s ∈ L → 0 ≤ s ∧ s < (tt : Int)) := fun s hs => by
      rw [EL.out] at hs
      have hsg : N.sigs = (tt : Int) := by unfold NtD.sigs; rw [hF, hnt]; omega
      rw [← hsg]
      rcases List.mem_append.1 hs with h | h
      · exact hin.oi s h
      · exact hin.ni s h
    clear hbg hbp
    go_wp2_with fail
    go_at_call 39
    refine EN.out.mono ?_
    rintro e w1 ⟨v, rfl, hov, hb1⟩
    obtain ⟨va, vc, rfl⟩ := own_slice hov
    have HROW : Hid (RowAt w1.heap.size w1 va 1 (L.map intC)) := by
      obtain ⟨_, aw, cw, e, R⟩ := ownRow hov
      cases e
      exact R
    have HNO := hidden (needOne_any w1 pd g tt (List.replicate tt false) (List.length_replicate ..) va vc L hLb (by
      exact ((hb1.cell (p := ⟨pd, 0, none⟩) hpl2).trans (HBP.out.cell (i := 0) rfl))) (fun e => hne e.symm) HROW.out (fun _ ad ha => by
      have := (own_lt hov (g := ad.block) (by rw [ha]; rfl)).1
      omega) HLI.out (HBG.out.below hb1))
    go_wp2_with fail
    go_at_call 52
    refine HNO.out.mono ?_
    rintro e w2 ⟨⟨v2, rfl⟩, hk2, hu2⟩
    have HBK0 : Hid (Blk w2 g 4 ((ndD N F tt 0).map bV).toArray) := by
      unfold ndD; rw [← EL.out]; exact hk2
    have HB2 : Hid (Below w.heap.size w w2) := (HB0.out.trans (hb1.mono HB0.out.size)).trans (hu2.below hg (HB0.out.trans (hb1.mono HB0.out.size)).size)
    have HBP2 : Hid (Blk w2 pd 22 #[.slice (some ⟨g, 0, none⟩) tt tt]) := hu2.blk (HBP.out.below hb1) (fun e => hne e.symm)
    clear hk2 hu2 HNO HROW EN HLI hov hb1 HBG HBP HB0 hb hLb
    have k2 : w2.cell? ⟨p, 2, none⟩ = some (.slice S.a2 nt S.c2) := (HB2.out.cell (p := ⟨p, 2, none⟩) hpl).trans c2
    go_wp2_with fail
    clear k2
    go_loopw [5] (fun i' w' => ∃ j : Nat, j ≤ nt ∧ i' = .int .i64 ((nt : Int) - 1 - (j : Int)) ∧ Hid (Blk w' g 4 ((ndD N F tt j).map bV).toArray) ∧ Hid (Blk w' pd 22 #[.slice (some ⟨g, 0, none⟩) tt tt]) ∧ Hid (Below w.heap.size w w')) (fun i' _ => (intOf i' + 1).toNat)
    case atStart => exact ⟨0, Nat.zero_le _, by simp, HBK0.out, HBP2.out, HB2.out⟩
    case round =>
      clear HBK0 HBP2 HB2
      obtain ⟨j, hj, rfl, HBK, HBP, HB⟩ := hrel
      by_cases hlt : j < nt
      · obtain ⟨m, hm⟩ : ∃ m : Nat, m + j + 1 = nt := ⟨nt - 1 - j, by omega⟩
        have hmi : (nt : Int) - 1 - (j : Int) = (m : Int) := by omega
        rw [hmi]
        have hm0 : (0 : Int) ≤ (m : Int) := by omega
        have hdec : IntKind.i64.wrap ((m : Int) - 1) = (m : Int) - 1 := wrapI _ (by omega) (by omega)
        obtain ⟨d, hd⟩ := getElem_lt (show m < N.tabs.length by omega)
        obtain ⟨b, hbb⟩ := getElem_lt (show F + m < (ndD N F tt j).length by rw [ndD_len]; omega)
        obtain ⟨fm, hfm⟩ : ∃ fm : Nat, fm = F + m := ⟨_, rfl⟩
        have cb : wr.cell? ⟨g, fm, none⟩ = some (.bool b) := by
          rw [hfm]; exact HBK.out.cell (by simp [hbb]; rfl)
        have cp := HBP.out.cell (i := 0) rfl
        have e2 : IntKind.i64.wrap ((F : Int) + (m : Int)) = (fm : Int) := by rw [wrapI _ (by omega) (by omega)]; omega
        have hft : (fm : Int) < (tt : Int) := by omega
        have Hfm := hidden hfm
        clear hfm
        have HDD := hidden hd
        have HBB := hidden hbb
        have HRT : Hid (∀ v : World, Below w.heap.size w v → RowAt w.heap.size v S.a2 2 (N.tabs.map TbD.cells) ∧ RowAt w.heap.size v d.a 1 (d.ins.map intC)) := fun v hv => ⟨(hN.t.mono hB).to hv, ((hN.ti d (List.mem_of_getElem? hd)).mono hB).to hv⟩
        clear hd hbb hmi
        go_upto_region 7 with fail
        refine wp_region_noPanic ?_
        refine wp_region_held_drew (S := fun v => v.cell? ⟨pd, 0, none⟩ = some (.slice (some ⟨g, 0, none⟩) tt tt) ∧ v.cell? ⟨g, fm, none⟩ = some (.bool b)) (by kernel_rfl) (by exact ⟨cp, cb⟩) (fun hHeld => ?_)
        refine tk 0 ?_
        refine tk 1 ?_
        refine tk 3 ?_
        refine rd 2 fun K hK => ?_
        (try simp only [gA, gB, gC]); go_simp
        go_at_call 38
        refine (HFT.out _ (Below.drew HB.out)).mono ?_
        rintro e v ⟨rfl, q, hv⟩
        rw [hv]
        clear hv v
        go_wp2_with fail
        refine wo hK hHeld fun hHeld2 => ?_
        clear hK K
        refine tk 4 ?_
        refine tk 5 ?_
        refine tk 6 ?_
        refine wpAnyH_done (by kernel_rfl) ?_ _
        refine NoPanic.normal ?_
        clear hHeld hHeld2 cp cb
        have HBK2 : Hid (Blk (wr.drewN (1 + q)) g 4 ((ndD N F tt j).map bV).toArray) := HBK.out
        have HBP2 : Hid (Blk (wr.drewN (1 + q)) pd 22 #[.slice (some ⟨g, 0, none⟩) tt tt]) := HBP.out
        have HB2 : Hid (Below w.heap.size w (wr.drewN (1 + q))) := Below.drewN HB.out _
        clear HBK HBP HB
        generalize wr.drewN (1 + q) = w3 at *
        have HND : Hid (ndD N F tt (j + 1) = if b = true then markL d.ins (ndD N F tt j) else ndD N F tt j) := by
          show ndD N F tt (j + 1) = _
          rw [ndD, show N.tabs.length - 1 - j = m by omega, HDD.out]
          simp only [List.getD_eq_getElem?_getD, HBB.out, Option.getD_some]
        cases b
        · go_wp2
          go_roundw
          case measure => simp [intOf] <;> omega
          case rel => exact ⟨j + 1, by omega, by congr 1; omega, by rw [HND.out]; exact HBK2.out, HBP2.out, HB2.out⟩
        · have c23 : w3.cell? ⟨p, 2, none⟩ = some (.slice S.a2 nt S.c2) := (HB2.out.cell (p := ⟨p, 2, none⟩) hpl).trans c2
          obtain ⟨R4, R5⟩ := HRT.out w3 HB2.out
          obtain ⟨tbb, o2, ea2, hlt2, htc⟩ := R4.el HDD.out
          have tc0 := htc 0 _ rfl
          rw [Nat.add_zero] at tc0
          rw [ea2] at c23
          have hmI : (m : Int) < (nt : Int) := by omega
          have HNO := hidden (needOne_any w3 pd g tt (ndD N F tt j) (ndD_len ..) d.a d.c d.ins (by have := (hin.t4 d (List.mem_of_getElem? HDD.out)).1; omega) (HBP2.out.cell (i := 0) rfl) (fun e => hne e.symm) (R5.mono HB2.out.size) (fun hne2 ad ha => by
            obtain ⟨s, hs⟩ := List.exists_mem_of_ne_nil _ hne2
            obtain ⟨i, hi⟩ := List.getElem?_of_mem hs
            obtain ⟨b', o', ea', hbl', _⟩ := R5.int hi
            rw [ea'] at ha
            cases ha
            show b' ≠ g
            omega) (fun s hs => by
            have h3 := hin.ti m d HDD.out s hs
            rw [hF] at h3
            omega) HBK2.out)
          obtain ⟨dl, Edl⟩ := exh d.ins.length
          rw [← Edl.out] at HNO tc0
          clear R4 R5 htc ea2
          go_wp2_with fail
          go_at_call 52
          refine HNO.out.mono ?_
          rintro e w4 ⟨⟨v4, rfl⟩, hk4, hu4⟩
          have HBK3 : Hid (Blk w4 g 4 ((ndD N F tt (j + 1)).map bV).toArray) := by
            rw [HND.out]; exact hk4
          have HB3 : Hid (Below w.heap.size w w4) := HB2.out.trans (hu4.below hg HB2.out.size)
          have HBP3 : Hid (Blk w4 pd 22 #[.slice (some ⟨g, 0, none⟩) tt tt]) := hu4.blk HBP2.out (fun e => hne e.symm)
          clear hk4 hu4 HNO HBK2 HBP2 HB2
          go_wp2
          go_roundw
          case measure => simp [intOf] <;> omega
          case rel => exact ⟨j + 1, by omega, by congr 1; omega, HBK3.out, HBP3.out, HB3.out⟩
      · obtain rfl : j = nt := by omega
        have hmi : (j : Int) - 1 - (j : Int) = -1 := by omega
        rw [hmi]
        go_wp2_with fail
        have HND : Hid (ndD N F tt j = ndF N F tt) := by show _ = _; unfold ndF; rw [hnt]
        obtain ⟨nd, End⟩ := exh (ndF N F tt)
        have hndl : nd.length = tt := by rw [End.out]; unfold ndF; rw [ndD_len]
        have HND2 := hidden hndl
        obtain ⟨id, hid, hz2, hs2, hby2⟩ := info_int
        have HI2 := hidden hid
        have HZ2 := hidden hz2
        have HSI2 := hidden hs2
        have HBY2 := hidden hby2
        clear hid hz2 hs2 hby2 hndl hmi
        have HBK1 : Hid (Blk wr g 4 (nd.map bV).toArray) := by rw [End.out, ← HND.out]; exact HBK.out
        clear HBK HND
        go_loopw [6, 7] (fun v' i' w' => ∃ k : Nat, 2 ≤ k ∧ i' = .int .i64 (k : Int) ∧ (k ≤ tt ∨ k = 2) ∧ Hid (w'.ownsRow w.heap.size 3 1 v' (needK N F tt k).length ((needK N F tt k).map natV)) ∧ v'.ownBlock ≠ some g ∧ v'.ownBlock ≠ some pd ∧ Hid (Blk w' g 4 (nd.map bV).toArray) ∧ Hid (Blk w' pd 22 #[.slice (some ⟨g, 0, none⟩) tt tt]) ∧ Hid (Below w.heap.size w w')) (fun _ i' _ => tt - (intOf i').toNat)
        case atStart => exact ⟨2, Nat.le_refl _, rfl, Or.inr rfl, ⟨rfl, Or.inl ⟨rfl, rfl⟩⟩, by simp [Value.ownBlock], by simp [Value.ownBlock], HBK1.out, HBP.out, HB.out⟩
        case round =>
          clear HBK1 HBP HB
          obtain ⟨k, hk2, rfl, hk3, HO, hog, hop, HBK, HBP, HB⟩ := hrel
          have cp := HBP.out.cell (i := 0) rfl
          by_cases hlt : k < tt
          · have hltI : (k : Int) < (tt : Int) := by omega
            have e3 : IntKind.i64.wrap ((k : Int) + 1) = (k : Int) + 1 := wrapI _ (by omega) (by omega)
            obtain ⟨b, hbb⟩ := getElem_lt (show k < nd.length by rw [HND2.out]; exact hlt)
            have cb : wr.cell? ⟨g, k, none⟩ = some (.bool b) := HBK.out.cell (by simp [hbb]; rfl)
            have HNX : Hid (needK N F tt (k + 1) = needK N F tt k ++ if b = true then [k] else []) := by
              show _ = _
              unfold needK
              rw [List.range_succ, List.filter_append, ← End.out]
              congr 1
              simp only [List.filter_cons, List.filter_nil, List.getD_eq_getElem?_getD, hbb, Option.getD_some, decide_eq_true hk2, Bool.true_and]
            clear hbb
            cases b
            · have HO2 : Hid (wr.ownsRow w.heap.size 3 1 u6 (needK N F tt (k + 1)).length ((needK N F tt (k + 1)).map natV)) := by
                show World.ownsRow _ _ _ _ _ _ _
                rw [HNX.out]; simpa using HO.out
              clear HO
              go_wp2
              go_roundw
              case measure => simp [intOf]; omega
              case rel => exact ⟨k + 1, by omega, by simp, Or.inl (by omega), HO2.out, hog, hop, HBK.out, HBP.out, HB.out⟩
            · have hlen : (needK N F tt k).length ≤ k := Nat.le_trans (List.length_filter_le _ _) (by rw [List.length_range]; exact Nat.le_refl _)
              obtain ⟨ll, Ell⟩ := exh (needK N F tt k).length
              rw [← Ell.out] at HO hlen
              have HNY : Hid (needK N F tt (k + 1) = needK N F tt k ++ [k]) := HNX.out
              have hsz := HB.out.size
              have hm1 : ll + 1 ≤ maxLen := by simp only [maxLen]; omega
              have hm2 : (ll + 1) * 8 ≤ 140737488355328 := by omega
              have hm3 : w.heap.size ≤ (wr.alloc (.cells #[.int .i64 (k : Int)] 3)).heap.size := by simp; omega
              have HAL : Hid (Below wr.heap.size wr (wr.alloc (.cells #[.int .i64 (k : Int)] 3))) := (Below.refl _ _).alloc (Nat.le_refl _) _
              clear HNX
              have tok : True := trivial
              go_wp2_with (have _t := tok; at_builtin; (refine wpList_append_lies _ rfl (.tmp 59) (.tmp 61) 24 rfl w.heap.size 3 id _ 1 8 Tryd.underlying24 HI2.out HZ2.out HSI2.out HBY2.out rfl (by decide) u6 ll _ rfl (HO.out.alloc _) ⟨wr.heap.size, 0, none⟩ 1 1 [.int .i64 (k : Int)] rfl rfl (World.news_of_block (heap_new _ _)) (by simp [Value.oneCell']) (by decide) hm1 hm2 hm3 _ rfl ?_; intro g5 cap w5 hown hgrow hat5 hlt5; clear tok))
              have HO5 : Hid (w5.ownsRow w.heap.size 3 1 (.slice (some ⟨g5, 0, none⟩) (ll + 1) cap) (needK N F tt (k + 1)).length ((needK N F tt (k + 1)).map natV)) := by
                show World.ownsRow _ _ _ _ _ _ _
                rw [HNY.out, List.map_append, List.length_append, ← Ell.out]
                exact hown
              have HB5 : Hid (Below w.heap.size w w5) := grown_plain HB.out HO.out hgrow
              have HK5 : Hid (Blk w5 g 4 (nd.map bV).toArray) := (hgrow.block g (Nat.lt_of_lt_of_le HBK.out.lt HAL.out.size) (fun e => by first | exact hog e | exact hog e.symm)).trans (HBK.out.below HAL.out)
              have HP5 : Hid (Blk w5 pd 22 #[.slice (some ⟨g, 0, none⟩) tt tt]) := (hgrow.block pd (Nat.lt_of_lt_of_le HBP.out.lt HAL.out.size) (fun e => by first | exact hop e | exact hop e.symm)).trans (HBP.out.below HAL.out)
              have hlg := HBK.out.lt
              have hlp := HBP.out.lt
              have hog5 : g5 ≠ g := fun e => by
                rcases hat5 with h | h
                · exact hog (by rw [← e]; exact h)
                · have := HAL.out.size; omega
              have hop5 : g5 ≠ pd := fun e => by
                rcases hat5 with h | h
                · exact hop (by rw [← e]; exact h)
                · have := HAL.out.size; omega
              clear hown hgrow hat5 hlt5 HO HB HBK HBP
              go_roundw
              case measure => simp [intOf]; omega
              case rel => exact ⟨k + 1, by omega, by simp, Or.inl (by omega), HO5.out, fun e => hog5 (by simpa [Value.ownBlock] using e), fun e => hop5 (by simpa [Value.ownBlock] using e), HK5.out, HP5.out, HB5.out⟩
          · have hge : ¬ (k : Int) < (tt : Int) := by omega
            have HKE : Hid (needK N F tt k = needK N F tt tt) := by
              show _ = _
              rcases hk3 with h | h
              · rw [show k = tt by omega]
              · rw [needK_small N F tt k (by omega), needK_small N F tt tt (by omega)]
            have HO2 : Hid (wr.ownsRow w.heap.size 3 1 u6 (needK N F tt tt).length ((needK N F tt tt).map natV)) := by
              rw [← HKE.out]; exact HO.out
            clear HO
            go_wp2
            go_ret
            exact ⟨_, rfl, HO2.out, HB.out⟩
  clear hK1
  have HMK : Hid (∀ v : World, ∃ w', (Instr.makeSlice 22 (.int .i64 (tt : Int)) (.int .i64 (tt : Int))).run Tryd.prog v = .ok (.slice (some ⟨v.heap.size, 0, none⟩) tt tt) w' ∧ Blk w' v.heap.size 4 ((List.replicate tt false).map bV).toArray ∧ Below v.heap.size v w') := fun v => by
    obtain ⟨w', hr, h3, h4⟩ := run_make_full (P := Tryd.prog) v v.heap.size 22 4 ib (.bool false) 1 Tryd.underlying22 HI.out HZ.out HSI.out .i64 .i64 tt hmkb hmx (Nat.le_refl _)
    refine ⟨w', hr, ?_, none_below h4⟩
    have := full_blk h3
    rw [made_bool] at this
    exact this
  have HSS : Hid (∀ v : World, Below w.heap.size w v → v.cell? ⟨p, 2, none⟩ = some (.slice S.a2 nt S.c2)) := fun v hv => (hv.cell (p := ⟨p, 2, none⟩) hpl).trans c2
  refine wp_region_noPanic ?_
  refine wp_region_held_drew (S := fun v => v.cell? ⟨p, 2, none⟩ = some (.slice S.a2 nt S.c2)) (by kernel_rfl) (by exact c2) (fun hHeld => ?_)
  refine tk 0 ?_
  refine tk 2 ?_
  refine tk 3 ?_
  refine tk 4 ?_
  refine tk 5 ?_
  refine tk 6 ?_
  refine wpAnyH_ready (rs := [1, 9]) (by kernel_rfl) (by simp) ?_
  refine AllReadyH.cons (o := _) rfl (fun K hK => ?_) ?_
  · (try simp only [gA, gB, gC]); go_simp
    go_at_call 38
    refine (HFT.out w.drew (Below.drew (Below.refl _ _))).mono ?_
    rintro e v ⟨rfl, q, hv⟩
    rw [hv]
    clear hv v
    go_wp2_with fail
    refine wo hK hHeld fun hHeld2 => ?_
    clear hK K
    refine tk 7 ?_
    have HBA : Hid (Below w.heap.size w (w.drewN (1 + q))) := Below.drewN (Below.refl _ _) _
    generalize w.drewN (1 + q) = wA at *
    refine wpAnyH_ready (rs := [8, 9]) (by kernel_rfl) (by simp) ?_
    refine AllReadyH.cons (o := _) rfl (fun K hK => ?_) ?_
    · obtain ⟨w8, hr8, hk8, hb8⟩ := HMK.out wA
      have HK8 := hidden hk8
      have HB8 : Hid (Below w.heap.size w w8) := HBA.out.trans (hb8.mono HBA.out.size)
      have hl8 := hk8.lt
      have hs8 := HBA.out.size
      clear hk8 hb8
      (try simp only [gA, gB, gC]); go_simp
      refine wo hK (HSS.out w8 HB8.out) fun hHeld3 => ?_
      clear hK K hr8
      refine rd 9 fun K hK => ?_
      (try simp only [gA, gB, gC]); go_simp
      obtain ⟨g, Eg⟩ := exh wA.heap.size
      obtain ⟨pd, Epd⟩ := exh w8.heap.size
      rw [← Eg.out] at HK8 hl8
      rw [← Eg.out]
      have HBW : Hid (Below w.heap.size w (w8.alloc (.cells #[.slice none 0 0] 22))) := HB8.out.trans (((Below.refl _ _).alloc (Nat.le_refl _) _ : Below w8.heap.size w8 _).mono HB8.out.size)
      have HKg : Hid (Blk (w8.alloc (.cells #[.slice none 0 0] 22)) g 4 ((List.replicate tt false).map bV).toArray) := HK8.out.below ((Below.refl _ _).alloc (Nat.le_refl _) _)
      have HBk : Hid (Blk (w8.alloc (.cells #[.slice none 0 0] 22)) pd 22 #[.slice none 0 0]) := by rw [Epd.out]; exact Blk.new w8 _ _
      have hgw : w.heap.size ≤ g := by rw [Eg.out]; exact hs8
      have hpdw : w.heap.size ≤ pd := by rw [Epd.out]; exact HB8.out.size
      have hgp : g ≠ pd := by rw [Epd.out]; omega
      rw [← Epd.out]
      generalize w8.alloc (.cells #[.slice none 0 0] 22) = W at *
      refine wo hK (HSS.out W HBW.out) fun hHeld4 => ?_
      clear hK K
      have qc := HBk.out.cell (i := 0) rfl
      have qf := HBk.out.frozen 0
      refine rd 10 fun K hK => ?_
      (try simp only [gA, gB, gC]); go_simp
      have HBE : Hid (Below w.heap.size w (W.setCell ⟨pd, 0, none⟩ (.slice (some ⟨g, 0, none⟩) tt tt))) := HBW.out.trans ((But.set pd 0 W _).below hpdw HBW.out.size)
      refine wo hK (HSS.out _ HBE.out) fun hHeld5 => ?_
      clear hK K
      refine wpAnyH_done (by kernel_rfl) ?_ _
      refine NoPanic.normal ?_
      exact HKK.out g pd _ hgw hpdw hgp ((But.set pd 0 W _).blk HKg.out hgp) (HBk.out.set 0 _) HBE.out
    · refine AllReadyH.cons (o := _) rfl (fun K hK => ?_) AllReadyH.nil
      (try simp only [gA, gB, gC]); go_simp
      obtain ⟨pd, Epd⟩ := exh wA.heap.size
      have HB1 : Hid (Below w.heap.size w (wA.alloc (.cells #[.slice none 0 0] 22))) := HBA.out.trans (((Below.refl _ _).alloc (Nat.le_refl _) _ : Below wA.heap.size wA _).mono HBA.out.size)
      have HBk1 : Hid (Blk (wA.alloc (.cells #[.slice none 0 0] 22)) pd 22 #[.slice none 0 0]) := by rw [Epd.out]; exact Blk.new wA _ _
      have hpdw : w.heap.size ≤ pd := by rw [Epd.out]; exact HBA.out.size
      rw [← Epd.out]
      generalize wA.alloc (.cells #[.slice none 0 0] 22) = W1 at *
      refine wo hK (HSS.out W1 HB1.out) fun hHeld3 => ?_
      clear hK K
      obtain ⟨W, hr8, hk8, hb8⟩ := HMK.out W1
      obtain ⟨g, Eg⟩ := exh W1.heap.size
      rw [← Eg.out] at hr8 hk8
      have HKg := hidden hk8
      have HBW : Hid (Below w.heap.size w W) := HB1.out.trans (hb8.mono HB1.out.size)
      have HBk : Hid (Blk W pd 22 #[.slice none 0 0]) := HBk1.out.below hb8
      have hgw : w.heap.size ≤ g := by rw [Eg.out]; exact HB1.out.size
      have hgp : g ≠ pd := by rw [Eg.out]; have := HBk1.out.lt; omega
      clear hk8 hb8
      refine rd 8 fun K hK => ?_
      (try simp only [gA, gB, gC]); go_simp
      refine wo hK (HSS.out W HBW.out) fun hHeld4 => ?_
      clear hK K hr8
      have qc := HBk.out.cell (i := 0) rfl
      have qf := HBk.out.frozen 0
      refine rd 10 fun K hK => ?_
      (try simp only [gA, gB, gC]); go_simp
      have HBE : Hid (Below w.heap.size w (W.setCell ⟨pd, 0, none⟩ (.slice (some ⟨g, 0, none⟩) tt tt))) := HBW.out.trans ((But.set pd 0 W _).below hpdw HBW.out.size)
      refine wo hK (HSS.out _ HBE.out) fun hHeld5 => ?_
      clear hK K
      refine wpAnyH_done (by kernel_rfl) ?_ _
      refine NoPanic.normal ?_
      exact HKK.out g pd _ hgw hpdw hgp ((But.set pd 0 W _).blk HKg.out hgp) (HBk.out.set 0 _) HBE.out
  · refine AllReadyH.cons (o := _) rfl (fun K hK => ?_) AllReadyH.nil
    (try simp only [gA, gB, gC]); go_simp
    obtain ⟨pd, Epd⟩ := exh w.heap.size
    have HB0 : Hid (Below w.heap.size w (w.alloc (.cells #[.slice none 0 0] 22)).drew) := Below.drew ((Below.refl _ _).alloc (Nat.le_refl _) _)
    have HBk0 : Hid (Blk (w.alloc (.cells #[.slice none 0 0] 22)).drew pd 22 #[.slice none 0 0]) := by rw [Epd.out]; exact Blk.new w _ _
    have hpdw : w.heap.size ≤ pd := by rw [Epd.out]; exact Nat.le_refl _
    rw [← Epd.out]
    generalize (w.alloc (.cells #[.slice none 0 0] 22)).drew = W0 at *
    refine wo hK (HSS.out W0 HB0.out) fun hHeld2 => ?_
    clear hK K
    refine rd 1 fun K hK => ?_
    (try simp only [gA, gB, gC]); go_simp
    go_at_call 38
    refine (HFT.out W0 HB0.out).mono ?_
    rintro e v ⟨rfl, q, hv⟩
    have HB1 : Hid (Below w.heap.size w v) := by rw [hv]; exact Below.drewN HB0.out q
    have HBk1 : Hid (Blk v pd 22 #[.slice none 0 0]) := by rw [hv]; exact HBk0.out
    clear hv HB0 HBk0
    go_wp2_with fail
    refine wo hK (HSS.out v HB1.out) fun hHeld3 => ?_
    clear hK K
    refine tk 7 ?_
    obtain ⟨W, hr8, hk8, hb8⟩ := HMK.out v
    obtain ⟨g, Eg⟩ := exh v.heap.size
    rw [← Eg.out] at hr8 hk8
    have HKg := hidden hk8
    have HBW : Hid (Below w.heap.size w W) := HB1.out.trans (hb8.mono HB1.out.size)
    have HBk : Hid (Blk W pd 22 #[.slice none 0 0]) := HBk1.out.below hb8
    have hgw : w.heap.size ≤ g := by rw [Eg.out]; exact HB1.out.size
    have hgp : g ≠ pd := by rw [Eg.out]; have := HBk1.out.lt; omega
    clear hk8 hb8
    refine rd 8 fun K hK => ?_
    (try simp only [gA, gB, gC]); go_simp
    refine wo hK (HSS.out W HBW.out) fun hHeld4 => ?_
    clear hK K hr8
    have qc := HBk.out.cell (i := 0) rfl
    have qf := HBk.out.frozen 0
    refine rd 10 fun K hK => ?_
    (try simp only [gA, gB, gC]); go_simp
    have HBE : Hid (Below w.heap.size w (W.setCell ⟨pd, 0, none⟩ (.slice (some ⟨g, 0, none⟩) tt tt))) := HBW.out.trans ((But.set pd 0 W _).below hpdw HBW.out.size)
    refine wo hK (HSS.out _ HBE.out) fun hHeld5 => ?_
    clear hK K
    refine wpAnyH_done (by kernel_rfl) ?_ _
    refine NoPanic.normal ?_
    exact HKK.out g pd _ hgw hpdw hgp ((But.set pd 0 W _).blk HKg.out hgp) (HBk.out.set 0 _) HBE.out


end Go.Proofs.YtibjgoigdajkkaaDoor
