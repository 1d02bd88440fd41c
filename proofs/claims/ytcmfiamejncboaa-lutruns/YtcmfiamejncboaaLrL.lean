import Derived.Test.YtcmfiamejncboaaLrK
namespace Go.Proofs.Ytcmfiamejncboaa
open Go.RowKit

theorem inRow_eq (n : Nat) (row : List Bool) : inRow n row = row.take n ++ List.replicate (n - row.length) false := by
  apply List.ext_getElem?
  intro i
  unfold inRow
  rw [List.getElem?_append, List.getElem?_map]
  rcases Nat.lt_or_ge i n with h | h
  · rcases Nat.lt_or_ge i row.length with h2 | h2
    · rw [if_pos (by simp; omega)]
      simp [h, h2]
    · rw [if_neg (by simp; omega), List.getElem?_replicate, if_pos (by simp; omega)]
      simp [h, List.getElem?_eq_none h2]
  · rw [if_neg (by simp; omega), List.getElem?_replicate, if_neg (by simp; omega)]
    simp [h]
theorem fill_two (vals row : List Bool) (ni : Nat) (h0 : vals.take 2 = [false, true]) : splice (splice vals 2 (List.replicate ni false)) 2 (row.take ni) = [false, true] ++ inRow ni row ++ vals.drop (2 + ni) := by
  unfold splice
  rw [h0, List.length_replicate, inRow_eq]
  generalize vals.drop (2 + ni) = D
  have e1 : ([false, true] ++ (List.replicate ni false ++ D)).take 2 = [false, true] := rfl
  have hm : (row.take ni).length ≤ ni := by simp; omega
  rw [e1, List.append_assoc, List.append_assoc]
  congr 2
  have e2 : 2 + (row.take ni).length = (row.take ni).length + 2 := by omega
  rw [e2]
  show (List.replicate ni false ++ D).drop (row.take ni).length = _
  rw [List.drop_append_of_le_length (by simpa using hm), List.drop_replicate]
  congr 2
  simp; omega
theorem sV_append (vs r : List Bool) (s : Int) (h : 0 ≤ s ∧ s < (vs.length : Int)) : sV (vs ++ r) s = sV vs s := by
  unfold sV
  rw [List.getElem?_append_left (by omega)]
theorem tabV_append (vs r : List Bool) (d : TbD) (h : ∀ s, s ∈ d.ins → 0 ≤ s ∧ s < (vs.length : Int)) : tabV d (vs ++ r) = tabV d vs := by
  have e : d.ins.map (sV (vs ++ r)) = d.ins.map (sV vs) := List.map_congr_left (fun s hs => sV_append vs r s (h s hs))
  show bitAt d.bits (spell (d.ins.map (sV (vs ++ r)))) = bitAt d.bits (spell (d.ins.map (sV vs)))
  rw [e]

set_option maxRecDepth 100000 in
set_option maxHeartbeats 8000000 in
theorem workOutT_any (B : Nat) (w : World) (mk gb g : Nat) (S : NtS) (N : NtD) (vals : List Bool) (h : MkT w mk gb g S N vals) (hmg : mk ≠ g) (hbg : gb ≠ g) (hA : NtAt B w S N) (hBg : B ≤ g) (hBw : B ≤ w.heap.size) (hin : NtIn N) (ni : Nat) (hni : N.ins = (ni : Int)) (hvl : vals.length = 2 + ni + N.init.length + N.tabs.length) (hv0 : vals.take 2 = [false, true])
    (row : List Bool) (ai : Option Addr) (ci : Nat) (HROW : Hid (RowAt B w ai 1 (row.map boolC))) :
    Calls Try.prog 21 #[.pointer (some ⟨mk, 0, none⟩), .slice ai row.length ci] w fun e w' => (∃ v, e = .returned v) ∧ w'.heap[g]? = some (.cells ((cycT N row ((vals.drop (2 + ni)).take N.init.length)).map bV).toArray 4 (0, 0)) ∧ w.grownBy w' (some g) := by
  obtain ⟨ib, hib, hzb, hsb, hbb⟩ := info_bool
  have HI := hidden hib
  have HZ := hidden hzb
  have HS := hidden hsb
  have HBY := hidden hbb
  clear hib hzb hsb hbb
  have HM := hidden h
  have HV0 := hidden hv0
  have HA := hidden hA
  have HIN := hidden hin
  have m0 := h.m0
  have m1 := h.m1
  have mlt := h.mlt
  have blt := h.box.lt
  have q0 := h.box.c0
  rw [hni] at q0
  have HNI := hidden hni
  have HRW := hidden h.row
  have hil := hin.il
  have htl := hin.tl
  have hnl : ni ≤ 60000 := by have := hin.i1; omega
  obtain ⟨il, HIL⟩ : ∃ n, Hid (n = N.init.length) := ⟨_, rfl⟩
  obtain ⟨tl, HTL⟩ : ∃ n, Hid (n = N.tabs.length) := ⟨_, rfl⟩
  obtain ⟨nv, HNVL⟩ : ∃ n, Hid (n = vals.length) := ⟨_, rfl⟩
  obtain ⟨F, hF⟩ : ∃ F, F = 2 + ni + il := ⟨_, rfl⟩
  have HFE : Hid (N.first = ((F : Nat) : Int)) := by show _ = _; unfold NtD.first; rw [hni, hF, HIL.out]; omega
  obtain ⟨R, HRR0⟩ : ∃ R, Hid (cycT N row ((vals.drop (2 + ni)).take N.init.length) = R) := ⟨_, rfl⟩
  rw [HRR0.out]
  rw [← HNVL.out] at hvl m1
  rw [← HIL.out] at hvl hil
  rw [← HTL.out] at hvl htl
  clear h hv0 hni hA hin
  obtain ⟨sa1, sc1, sa2, sc2, sa3, sc3, sa4, sc4⟩ := S
  try dsimp only at *
  have HFIT : Hid (2 + ni ≤ (vals.map bV).length) := by show _ ≤ _; rw [List.length_map, ← HNVL.out]; omega
  have HNM : Hid (((row.take ni).map bV).length = Nat.min row.length ni) := by show _ = _; rw [List.length_map, List.length_take, Nat.min_comm]
  have e5 : IntKind.i64.wrap (2 + (ni : Int)) = 2 + (ni : Int) := wrapI _ (by omega) (by omega)
  have hcs : nv = 2 ∨ (2 < nv ∧ tl = 0) ∨ (2 < nv ∧ 0 < tl) := by omega
  have HVLN := hidden hvl
  have HF := hidden hF
  have hv1 : 2 + ni ≤ nv := by omega
  have hvs : nv ≤ 22000000000000 := by omega
  have hFs : F ≤ 22000000000000 := by omega
  clear hvl hF
  go_enter Try.func21, Try.ntmps21
  go_upto_region 0 with fail
  rcases hcs with hc1 | ⟨hc1, hc2⟩ | ⟨hc1, hc2⟩
  · have hz : ni = 0 ∧ il = 0 ∧ tl = 0 := by have := HVLN.out; omega
    obtain ⟨rfl, hz1, hc2⟩ := hz
    have HC2 := hidden hc2
    rw [hc1] at m1
    have q0' : w.cell? ⟨gb, 0, none⟩ = some (.int .i64 0) := q0
    have HC1 := hidden hc1
    clear hc2 q0 e5 hc1 hz1
    go_quiet (fail)
    have HP1 : Hid (∀ p : Option Addr, p = some ⟨g, 0, none⟩ → 0 < 0 → p = some ⟨g, 2, none⟩) := by intro p hp h; exfalso; omega
    have HGQ : Hid (w.grownBy (w.drewN nq) (some g)) := grown_drewN (grown_refl _ _) _
    have tok : True := trivial
    go_wp2_with (have _t := tok; (refine wpList_clear_grown rfl (.tmp 20) 22 rfl 4 ib _ Try.underlying22 HI.out HZ.out rfl rfl _ 0 _ rfl g 2 (vals.map bV) 4 HRW.out (HP1.out _ rfl) HFIT.out ?_; intro w1 hr1 hg1; have HR1 := hidden hr1.out; have HG1 := hidden (grown_trans HGQ.out hg1); clear tok hr1 hg1))
    have HR1' : Hid (w1.heap[g]? = some (.cells ((splice vals 2 (List.replicate 0 false)).map bV).toArray 4 (0, 0))) := by
      have := HR1.out
      rw [rep_bV, splice_map] at this
      exact this
    have HFIT2 : Hid (2 + ((row.take 0).map bV).length ≤ ((splice vals 2 (List.replicate 0 false)).map bV).length) := by
      show _ ≤ _
      rw [List.length_map, List.length_map, length_splice _ _ _ (by simp; have := HNVL.out; omega), List.length_take]
      have := HNVL.out
      omega
    have HPOS2 : Hid (∀ p : Option Addr, p = some ⟨g, 0, none⟩ → 0 < ((row.take 0).map bV).length → p = some ⟨g, 2, none⟩ ∧ ∃ ad, ai = some ad ∧ ∀ (j : Nat) (v : Value), ((row.take 0).map bV)[j]? = some v → w1.cell? (ad.add j) = some v) := by
      intro p hp hl
      have hl' : 0 < 0 ∧ 0 < row.length := by simp at hl
      obtain ⟨rx, hrx⟩ := getElem_lt hl'.2
      obtain ⟨rb, ro, ea, hrb, -⟩ := rowB HROW.out hrx
      refine ⟨HP1.out p hp hl'.1, ⟨rb, ro, none⟩, ea, fun j v hv => ?_⟩
      obtain ⟨bj, hbj, hv'⟩ : ∃ b, row[j]? = some b ∧ bV b = v := by
        rw [List.getElem?_map] at hv
        cases hq : (row.take 0)[j]? with
        | none => rw [hq] at hv; cases hv
        | some b =>
          rw [hq] at hv
          refine ⟨b, ?_, by simpa using hv⟩
          rw [List.getElem?_take] at hq
          split at hq
          · exact hq
          · cases hq
      obtain ⟨rb', ro', ea', _, hcj⟩ := rowB HROW.out hbj
      have e2 : rb' = rb ∧ ro' = ro := by rw [ea] at ea'; cases ea'; exact ⟨rfl, rfl⟩
      obtain ⟨rfl, rfl⟩ := e2
      rw [show (⟨rb', ro', none⟩ : Addr).add j = ⟨rb', ro' + j, none⟩ by unfold Addr.add; split <;> simp_all, ← hv']
      exact HG1.out.cell hcj (by intro e; have e3 := Option.some.inj e; dsimp only at e3; omega)
    obtain ⟨X, hrun, hr2, hg2⟩ := run_copy_grown (P := Try.prog) (w := w1) 22 22 3 4 Try.underlying22 bool_size (some ⟨g, 0, none⟩) ai 0 0 row.length ci g 2 ((splice vals 2 (List.replicate 0 false)).map bV) 4 HR1'.out ((row.take 0).map bV) HNM.out (HPOS2.out _ rfl) HFIT2.out (oneB _)
    have HR2 := hidden hr2
    have HGX := hidden (grown_trans HG1.out hg2)
    generalize goInt ((row.take 0).map bV).length = gi at hrun
    clear hr2 hg2
    go_wp2_with fail
    rw [hrun]
    clear hrun
    go_upto_region 3 with fail
    obtain ⟨vals2, HV2⟩ : ∃ v, Hid (splice (splice vals 2 (List.replicate 0 false)) 2 (row.take 0) = v) := ⟨_, rfl⟩
    have HV2E : Hid (vals2 = [false, true] ++ inRow 0 row ++ vals.drop (2 + 0)) := by show _ = _; rw [← HV2.out]; exact fill_two vals row 0 HV0.out
    have HV2N : Hid (vals2.length = nv) := by show _ = _; rw [HV2E.out]; simp [inRow_length]; have := HNVL.out; omega
    have HRX : Hid (X.heap[g]? = some (.cells (vals2.map bV).toArray 4 (0, 0))) := by
      have := HR2.out
      rw [splice_map, HV2.out] at this
      exact this
    have HMX : Hid (MkT X mk gb g ⟨sa1, sc1, sa2, sc2, sa3, sc3, sa4, sc4⟩ N vals2) := HM.out.turn HGX.out hmg hbg (by rw [HV2N.out, HNVL.out]) HRX.out
    have hv2n := HV2N.out
    have n0 := HMX.out.m0
    have n1 := HMX.out.m1
    rw [hv2n] at n1
    have hmX := HMX.out.mlt
    have hbX := HMX.out.box.lt
    have FAX : Hid (∀ w', X.grownBy w' (some g) → Calls Try.prog 10 #[.pointer (some ⟨gb, 0, none⟩)] w' fun e w'' => e = .returned (.int .i64 (F : Int)) ∧ ∃ n, w'' = w'.drewN n) := fun w' hw' => by
      have := firstTable_any w' gb _ N (HMX.out.box.grown hw' hbg) (by rw [HNI.out]; omega) (by rw [HNI.out]; omega) (by have := HIN.out.il; simp only [huge]; omega)
      rw [HFE.out] at this
      exact this
    clear HR1 HR1' HFIT2 HPOS2 HG1 HR2 HV2 hv2n
    obtain ⟨b0, HB0⟩ : ∃ b, Hid ([false, true] ++ inRow 0 row ++ (vals.drop (2 + 0)).take il = b) := ⟨_, rfl⟩
    have HB0L : Hid (b0.length = F) := by show _ = _; rw [← HB0.out]; simp [inRow_length]; have := HVLN.out; have := HF.out; have := HNVL.out; omega
    have HRR : Hid (tabsN b0 N.tabs = R) := by show _ = _; rw [← HRR0.out, ← HB0.out, HIL.out]; unfold cycT; rw [HNI.out]; rfl
    have HV2L : Hid (vals2.length = F + tl) := by show _ = _; rw [HV2N.out, HVLN.out]; have := HF.out; omega
    have HSPL : Hid (b0 ++ vals2.drop (F + 0) = vals2) := by
      show _ = _
      rw [Nat.add_zero, HV2E.out, ← HB0.out]
      exact split_at ([false, true] ++ inRow 0 row) (vals.drop (2 + 0)) il F (by simp [inRow_length]; have := HF.out; omega)
    have HAX : Hid (NtAt B X ⟨sa1, sc1, sa2, sc2, sa3, sc3, sa4, sc4⟩ N) := HA.out.to (below_grown HGX.out hBw (fun k hk => by cases hk; exact hBg))
    have hFe : F = nv := by have := HVLN.out; have := HF.out; have := HC2.out; omega
    rw [← hFe] at n1
    have HFQ := hidden hFe
    clear hFe
    go_quiet ((go_at_call 10; exact Calls.quiet_of (FAX.out _ (grown_drewN (grown_refl _ _) _))))
    have HR0 : Hid ((X.drewN nq).heap[g]? = some (.cells ((tabsN b0 (N.tabs.take 0) ++ vals2.drop (F + 0)).map bV).toArray 4 (0, 0))) := by
      show _ = _
      rw [show tabsN b0 (N.tabs.take 0) = b0 from rfl, HSPL.out]
      exact HRX.out
    have HG0 : Hid (X.grownBy (X.drewN nq) (some g)) := grown_drewN (grown_refl _ _) _
    go_wp2_with fail
    go_loopw [36] (fun i' w' => ∃ (k : Nat), k ≤ tl ∧ i' = .int .i64 k ∧ Hid (w'.heap[g]? = some (.cells ((tabsN b0 (N.tabs.take k) ++ vals2.drop (F + k)).map bV).toArray 4 (0, 0))) ∧ Hid (X.grownBy w' (some g))) (fun i' _ => tl - (intOf i').toNat)
    case atStart => exact ⟨0, Nat.zero_le _, rfl, HR0.out, HG0.out⟩
    case round =>
      obtain ⟨k, hk, rfl, HRK, HG⟩ := hrel
      have hk0 : k = 0 := by have := HC2.out; omega
      subst hk0
      have htl0 := HC2.out
      have HRE : Hid (wr.heap[g]? = some (.cells (R.map bV).toArray 4 (0, 0))) := by
        have := HRK.out
        rw [List.take_of_length_le (by have := HTL.out; omega), HRR.out, List.drop_eq_nil_of_le (by have := HV2L.out; omega), List.append_nil] at this
        exact this
      clear HRK
      go_wp2
      go_end0
      exact ⟨⟨_, rfl⟩, HRE.out, grown_trans HGX.out HG.out⟩
  · have hc1I : ¬ (2 : Int) = (nv : Int) := by omega
    have hc1N : ¬ 2 = nv := by omega
    have hc3 : (2 + (ni : Int)) ≤ (nv : Int) := by omega
    have HC2 := hidden hc2
    clear hc2
    go_quiet (fail)
    (try rw [show 2 + ni - 2 = ni by omega])
    have HP1 : Hid (∀ p : Option Addr, p = some ⟨g, 2, none⟩ → 0 < ni → p = some ⟨g, 2, none⟩) := by intro p hp _; exact hp
    have HGQ : Hid (w.grownBy (w.drewN nq) (some g)) := grown_drewN (grown_refl _ _) _
    have tok : True := trivial
    go_wp2_with (have _t := tok; (refine wpList_clear_grown rfl (.tmp 20) 22 rfl 4 ib _ Try.underlying22 HI.out HZ.out rfl rfl _ ni _ rfl g 2 (vals.map bV) 4 HRW.out (HP1.out _ rfl) HFIT.out ?_; intro w1 hr1 hg1; have HR1 := hidden hr1.out; have HG1 := hidden (grown_trans HGQ.out hg1); clear tok hr1 hg1))
    have HR1' : Hid (w1.heap[g]? = some (.cells ((splice vals 2 (List.replicate ni false)).map bV).toArray 4 (0, 0))) := by
      have := HR1.out
      rw [rep_bV, splice_map] at this
      exact this
    have HFIT2 : Hid (2 + ((row.take ni).map bV).length ≤ ((splice vals 2 (List.replicate ni false)).map bV).length) := by
      show _ ≤ _
      rw [List.length_map, List.length_map, length_splice _ _ _ (by simp; have := HNVL.out; omega), List.length_take]
      have := HNVL.out
      omega
    have HPOS2 : Hid (∀ p : Option Addr, p = some ⟨g, 2, none⟩ → 0 < ((row.take ni).map bV).length → p = some ⟨g, 2, none⟩ ∧ ∃ ad, ai = some ad ∧ ∀ (j : Nat) (v : Value), ((row.take ni).map bV)[j]? = some v → w1.cell? (ad.add j) = some v) := by
      intro p hp hl
      have hl' : 0 < ni ∧ 0 < row.length := by simp at hl; omega
      obtain ⟨rx, hrx⟩ := getElem_lt hl'.2
      obtain ⟨rb, ro, ea, hrb, -⟩ := rowB HROW.out hrx
      refine ⟨HP1.out p hp hl'.1, ⟨rb, ro, none⟩, ea, fun j v hv => ?_⟩
      obtain ⟨bj, hbj, hv'⟩ : ∃ b, row[j]? = some b ∧ bV b = v := by
        rw [List.getElem?_map] at hv
        cases hq : (row.take ni)[j]? with
        | none => rw [hq] at hv; cases hv
        | some b =>
          rw [hq] at hv
          refine ⟨b, ?_, by simpa using hv⟩
          rw [List.getElem?_take] at hq
          split at hq
          · exact hq
          · cases hq
      obtain ⟨rb', ro', ea', _, hcj⟩ := rowB HROW.out hbj
      have e2 : rb' = rb ∧ ro' = ro := by rw [ea] at ea'; cases ea'; exact ⟨rfl, rfl⟩
      obtain ⟨rfl, rfl⟩ := e2
      rw [show (⟨rb', ro', none⟩ : Addr).add j = ⟨rb', ro' + j, none⟩ by unfold Addr.add; split <;> simp_all, ← hv']
      exact HG1.out.cell hcj (by intro e; have e3 := Option.some.inj e; dsimp only at e3; omega)
    obtain ⟨X, hrun, hr2, hg2⟩ := run_copy_grown (P := Try.prog) (w := w1) 22 22 3 4 Try.underlying22 bool_size (some ⟨g, 2, none⟩) ai ni (nv - 2) row.length ci g 2 ((splice vals 2 (List.replicate ni false)).map bV) 4 HR1'.out ((row.take ni).map bV) HNM.out (HPOS2.out _ rfl) HFIT2.out (oneB _)
    have HR2 := hidden hr2
    have HGX := hidden (grown_trans HG1.out hg2)
    generalize goInt ((row.take ni).map bV).length = gi at hrun
    clear hr2 hg2
    go_wp2_with fail
    rw [hrun]
    clear hrun
    go_upto_region 3 with fail
    obtain ⟨vals2, HV2⟩ : ∃ v, Hid (splice (splice vals 2 (List.replicate ni false)) 2 (row.take ni) = v) := ⟨_, rfl⟩
    have HV2E : Hid (vals2 = [false, true] ++ inRow ni row ++ vals.drop (2 + ni)) := by show _ = _; rw [← HV2.out]; exact fill_two vals row ni HV0.out
    have HV2N : Hid (vals2.length = nv) := by show _ = _; rw [HV2E.out]; simp [inRow_length]; have := HNVL.out; omega
    have HRX : Hid (X.heap[g]? = some (.cells (vals2.map bV).toArray 4 (0, 0))) := by
      have := HR2.out
      rw [splice_map, HV2.out] at this
      exact this
    have HMX : Hid (MkT X mk gb g ⟨sa1, sc1, sa2, sc2, sa3, sc3, sa4, sc4⟩ N vals2) := HM.out.turn HGX.out hmg hbg (by rw [HV2N.out, HNVL.out]) HRX.out
    have hv2n := HV2N.out
    have n0 := HMX.out.m0
    have n1 := HMX.out.m1
    rw [hv2n] at n1
    have hmX := HMX.out.mlt
    have hbX := HMX.out.box.lt
    have FAX : Hid (∀ w', X.grownBy w' (some g) → Calls Try.prog 10 #[.pointer (some ⟨gb, 0, none⟩)] w' fun e w'' => e = .returned (.int .i64 (F : Int)) ∧ ∃ n, w'' = w'.drewN n) := fun w' hw' => by
      have := firstTable_any w' gb _ N (HMX.out.box.grown hw' hbg) (by rw [HNI.out]; omega) (by rw [HNI.out]; omega) (by have := HIN.out.il; simp only [huge]; omega)
      rw [HFE.out] at this
      exact this
    clear HR1 HR1' HFIT2 HPOS2 HG1 HR2 HV2 hv2n
    obtain ⟨b0, HB0⟩ : ∃ b, Hid ([false, true] ++ inRow ni row ++ (vals.drop (2 + ni)).take il = b) := ⟨_, rfl⟩
    have HB0L : Hid (b0.length = F) := by show _ = _; rw [← HB0.out]; simp [inRow_length]; have := HVLN.out; have := HF.out; have := HNVL.out; omega
    have HRR : Hid (tabsN b0 N.tabs = R) := by show _ = _; rw [← HRR0.out, ← HB0.out, HIL.out]; unfold cycT; rw [HNI.out]; rfl
    have HV2L : Hid (vals2.length = F + tl) := by show _ = _; rw [HV2N.out, HVLN.out]; have := HF.out; omega
    have HSPL : Hid (b0 ++ vals2.drop (F + 0) = vals2) := by
      show _ = _
      rw [Nat.add_zero, HV2E.out, ← HB0.out]
      exact split_at ([false, true] ++ inRow ni row) (vals.drop (2 + ni)) il F (by simp [inRow_length]; have := HF.out; omega)
    have HAX : Hid (NtAt B X ⟨sa1, sc1, sa2, sc2, sa3, sc3, sa4, sc4⟩ N) := HA.out.to (below_grown HGX.out hBw (fun k hk => by cases hk; exact hBg))
    have hFe : F = nv := by have := HVLN.out; have := HF.out; have := HC2.out; omega
    rw [← hFe] at n1
    have HFQ := hidden hFe
    clear hFe
    go_quiet ((go_at_call 10; exact Calls.quiet_of (FAX.out _ (grown_drewN (grown_refl _ _) _))))
    have HR0 : Hid ((X.drewN nq).heap[g]? = some (.cells ((tabsN b0 (N.tabs.take 0) ++ vals2.drop (F + 0)).map bV).toArray 4 (0, 0))) := by
      show _ = _
      rw [show tabsN b0 (N.tabs.take 0) = b0 from rfl, HSPL.out]
      exact HRX.out
    have HG0 : Hid (X.grownBy (X.drewN nq) (some g)) := grown_drewN (grown_refl _ _) _
    go_wp2_with fail
    go_loopw [36] (fun i' w' => ∃ (k : Nat), k ≤ tl ∧ i' = .int .i64 k ∧ Hid (w'.heap[g]? = some (.cells ((tabsN b0 (N.tabs.take k) ++ vals2.drop (F + k)).map bV).toArray 4 (0, 0))) ∧ Hid (X.grownBy w' (some g))) (fun i' _ => tl - (intOf i').toNat)
    case atStart => exact ⟨0, Nat.zero_le _, rfl, HR0.out, HG0.out⟩
    case round =>
      obtain ⟨k, hk, rfl, HRK, HG⟩ := hrel
      have hk0 : k = 0 := by have := HC2.out; omega
      subst hk0
      have htl0 := HC2.out
      have HRE : Hid (wr.heap[g]? = some (.cells (R.map bV).toArray 4 (0, 0))) := by
        have := HRK.out
        rw [List.take_of_length_le (by have := HTL.out; omega), HRR.out, List.drop_eq_nil_of_le (by have := HV2L.out; omega), List.append_nil] at this
        exact this
      clear HRK
      go_wp2
      go_end0
      exact ⟨⟨_, rfl⟩, HRE.out, grown_trans HGX.out HG.out⟩
  · have hc1I : ¬ (2 : Int) = (nv : Int) := by omega
    have hc1N : ¬ 2 = nv := by omega
    have hc3 : (2 + (ni : Int)) ≤ (nv : Int) := by omega
    go_quiet (fail)
    (try rw [show 2 + ni - 2 = ni by omega])
    have HP1 : Hid (∀ p : Option Addr, p = some ⟨g, 2, none⟩ → 0 < ni → p = some ⟨g, 2, none⟩) := by intro p hp _; exact hp
    have HGQ : Hid (w.grownBy (w.drewN nq) (some g)) := grown_drewN (grown_refl _ _) _
    have tok : True := trivial
    go_wp2_with (have _t := tok; (refine wpList_clear_grown rfl (.tmp 20) 22 rfl 4 ib _ Try.underlying22 HI.out HZ.out rfl rfl _ ni _ rfl g 2 (vals.map bV) 4 HRW.out (HP1.out _ rfl) HFIT.out ?_; intro w1 hr1 hg1; have HR1 := hidden hr1.out; have HG1 := hidden (grown_trans HGQ.out hg1); clear tok hr1 hg1))
    have HR1' : Hid (w1.heap[g]? = some (.cells ((splice vals 2 (List.replicate ni false)).map bV).toArray 4 (0, 0))) := by
      have := HR1.out
      rw [rep_bV, splice_map] at this
      exact this
    have HFIT2 : Hid (2 + ((row.take ni).map bV).length ≤ ((splice vals 2 (List.replicate ni false)).map bV).length) := by
      show _ ≤ _
      rw [List.length_map, List.length_map, length_splice _ _ _ (by simp; have := HNVL.out; omega), List.length_take]
      have := HNVL.out
      omega
    have HPOS2 : Hid (∀ p : Option Addr, p = some ⟨g, 2, none⟩ → 0 < ((row.take ni).map bV).length → p = some ⟨g, 2, none⟩ ∧ ∃ ad, ai = some ad ∧ ∀ (j : Nat) (v : Value), ((row.take ni).map bV)[j]? = some v → w1.cell? (ad.add j) = some v) := by
      intro p hp hl
      have hl' : 0 < ni ∧ 0 < row.length := by simp at hl; omega
      obtain ⟨rx, hrx⟩ := getElem_lt hl'.2
      obtain ⟨rb, ro, ea, hrb, -⟩ := rowB HROW.out hrx
      refine ⟨HP1.out p hp hl'.1, ⟨rb, ro, none⟩, ea, fun j v hv => ?_⟩
      obtain ⟨bj, hbj, hv'⟩ : ∃ b, row[j]? = some b ∧ bV b = v := by
        rw [List.getElem?_map] at hv
        cases hq : (row.take ni)[j]? with
        | none => rw [hq] at hv; cases hv
        | some b =>
          rw [hq] at hv
          refine ⟨b, ?_, by simpa using hv⟩
          rw [List.getElem?_take] at hq
          split at hq
          · exact hq
          · cases hq
      obtain ⟨rb', ro', ea', _, hcj⟩ := rowB HROW.out hbj
      have e2 : rb' = rb ∧ ro' = ro := by rw [ea] at ea'; cases ea'; exact ⟨rfl, rfl⟩
      obtain ⟨rfl, rfl⟩ := e2
      rw [show (⟨rb', ro', none⟩ : Addr).add j = ⟨rb', ro' + j, none⟩ by unfold Addr.add; split <;> simp_all, ← hv']
      exact HG1.out.cell hcj (by intro e; have e3 := Option.some.inj e; dsimp only at e3; omega)
    obtain ⟨X, hrun, hr2, hg2⟩ := run_copy_grown (P := Try.prog) (w := w1) 22 22 3 4 Try.underlying22 bool_size (some ⟨g, 2, none⟩) ai ni (nv - 2) row.length ci g 2 ((splice vals 2 (List.replicate ni false)).map bV) 4 HR1'.out ((row.take ni).map bV) HNM.out (HPOS2.out _ rfl) HFIT2.out (oneB _)
    have HR2 := hidden hr2
    have HGX := hidden (grown_trans HG1.out hg2)
    generalize goInt ((row.take ni).map bV).length = gi at hrun
    clear hr2 hg2
    go_wp2_with fail
    rw [hrun]
    clear hrun
    go_upto_region 3 with fail
    obtain ⟨vals2, HV2⟩ : ∃ v, Hid (splice (splice vals 2 (List.replicate ni false)) 2 (row.take ni) = v) := ⟨_, rfl⟩
    have HV2E : Hid (vals2 = [false, true] ++ inRow ni row ++ vals.drop (2 + ni)) := by show _ = _; rw [← HV2.out]; exact fill_two vals row ni HV0.out
    have HV2N : Hid (vals2.length = nv) := by show _ = _; rw [HV2E.out]; simp [inRow_length]; have := HNVL.out; omega
    have HRX : Hid (X.heap[g]? = some (.cells (vals2.map bV).toArray 4 (0, 0))) := by
      have := HR2.out
      rw [splice_map, HV2.out] at this
      exact this
    have HMX : Hid (MkT X mk gb g ⟨sa1, sc1, sa2, sc2, sa3, sc3, sa4, sc4⟩ N vals2) := HM.out.turn HGX.out hmg hbg (by rw [HV2N.out, HNVL.out]) HRX.out
    have hv2n := HV2N.out
    have n0 := HMX.out.m0
    have n1 := HMX.out.m1
    rw [hv2n] at n1
    have hmX := HMX.out.mlt
    have hbX := HMX.out.box.lt
    have FAX : Hid (∀ w', X.grownBy w' (some g) → Calls Try.prog 10 #[.pointer (some ⟨gb, 0, none⟩)] w' fun e w'' => e = .returned (.int .i64 (F : Int)) ∧ ∃ n, w'' = w'.drewN n) := fun w' hw' => by
      have := firstTable_any w' gb _ N (HMX.out.box.grown hw' hbg) (by rw [HNI.out]; omega) (by rw [HNI.out]; omega) (by have := HIN.out.il; simp only [huge]; omega)
      rw [HFE.out] at this
      exact this
    clear HR1 HR1' HFIT2 HPOS2 HG1 HR2 HV2 hv2n
    obtain ⟨b0, HB0⟩ : ∃ b, Hid ([false, true] ++ inRow ni row ++ (vals.drop (2 + ni)).take il = b) := ⟨_, rfl⟩
    have HB0L : Hid (b0.length = F) := by show _ = _; rw [← HB0.out]; simp [inRow_length]; have := HVLN.out; have := HF.out; have := HNVL.out; omega
    have HRR : Hid (tabsN b0 N.tabs = R) := by show _ = _; rw [← HRR0.out, ← HB0.out, HIL.out]; unfold cycT; rw [HNI.out]; rfl
    have HV2L : Hid (vals2.length = F + tl) := by show _ = _; rw [HV2N.out, HVLN.out]; have := HF.out; omega
    have HSPL : Hid (b0 ++ vals2.drop (F + 0) = vals2) := by
      show _ = _
      rw [Nat.add_zero, HV2E.out, ← HB0.out]
      exact split_at ([false, true] ++ inRow ni row) (vals.drop (2 + ni)) il F (by simp [inRow_length]; have := HF.out; omega)
    have HAX : Hid (NtAt B X ⟨sa1, sc1, sa2, sc2, sa3, sc3, sa4, sc4⟩ N) := HA.out.to (below_grown HGX.out hBw (fun k hk => by cases hk; exact hBg))
    have hFl : F < nv := by have := HVLN.out; have := HF.out; omega
    have hFI : ¬ (F : Int) = (nv : Int) := by omega
    have hFN : ¬ F = nv := by omega
    have hFJ : (F : Int) ≤ (nv : Int) := by omega
    go_quiet ((go_at_call 10; exact Calls.quiet_of (FAX.out _ (grown_drewN (grown_refl _ _) _))))
    (try rw [show nv - F = tl by have := HVLN.out; have := HF.out; omega])
    have HR0 : Hid ((X.drewN nq).heap[g]? = some (.cells ((tabsN b0 (N.tabs.take 0) ++ vals2.drop (F + 0)).map bV).toArray 4 (0, 0))) := by
      show _ = _
      rw [show tabsN b0 (N.tabs.take 0) = b0 from rfl, HSPL.out]
      exact HRX.out
    have HG0 : Hid (X.grownBy (X.drewN nq) (some g)) := grown_drewN (grown_refl _ _) _
    go_wp2_with fail
    go_loopw [36] (fun i' w' => ∃ (k : Nat), k ≤ tl ∧ i' = .int .i64 k ∧ Hid (w'.heap[g]? = some (.cells ((tabsN b0 (N.tabs.take k) ++ vals2.drop (F + k)).map bV).toArray 4 (0, 0))) ∧ Hid (X.grownBy w' (some g))) (fun i' _ => tl - (intOf i').toNat)
    case atStart => exact ⟨0, Nat.zero_le _, rfl, HR0.out, HG0.out⟩
    case round =>
      obtain ⟨k, hk, rfl, HRK, HG⟩ := hrel
      by_cases hlt : k < tl
      · obtain ⟨d, hd⟩ := getElem_lt (show k < N.tabs.length by rw [← HTL.out]; exact hlt)
        have HBR : Hid (Below B X wr) := below_grown HG.out (Nat.le_trans hBw HGX.out.size) (fun k hk => by cases hk; exact hBg)
        have HAR : Hid (NtAt B wr ⟨sa1, sc1, sa2, sc2, sa3, sc3, sa4, sc4⟩ N) := HAX.out.to HBR.out
        obtain ⟨ob, oo, ea, hob, hoc⟩ := HAR.out.t.el hd
        have c0 : wr.cell? ⟨ob, oo + k * 2, none⟩ = some (.slice d.a d.ins.length d.c) := hoc 0 _ rfl
        have c1 : wr.cell? ⟨ob, oo + k * 2 + 1, none⟩ = some (.int .i64 d.bits) := hoc 1 _ rfl
        obtain ⟨vs, HVS⟩ : ∃ vs, Hid (tabsN b0 (N.tabs.take k) = vs) := ⟨_, rfl⟩
        have hvl : vs.length = F + k := by rw [← HVS.out, tabs_length, HB0L.out, List.length_take]; have := HTL.out; omega
        have HNX : Hid (tabsN b0 (N.tabs.take (k + 1)) = vs ++ [tabV d vs]) := by
          show _ = _
          rw [take_next _ k d hd, tabs_snoc, HVS.out]
        have hrk := HRK.out
        rw [HVS.out] at hrk
        have hdl : (vals2.drop (F + k)).length = vals2.length - (F + k) := List.length_drop
        have hcl : (vs ++ vals2.drop (F + k)).length = vals2.length := by rw [List.length_append, hdl]; have := HV2L.out; omega
        have HMR : Hid (MkT wr mk gb g _ N (vs ++ vals2.drop (F + k))) := HMX.out.turn HG.out hmg hbg hcl hrk
        have HV2L' := HV2L.out
        obtain ⟨old, hold⟩ : ∃ old, vals2[F + k]? = some old := getElem_lt (by omega)
        have HSET : ∀ b : Bool, Hid (((vs ++ vals2.drop (F + k)).set (F + k) b) = vs ++ [b] ++ vals2.drop (F + (k + 1))) := by
          intro b
          show _ = _
          have e1 : vals2.drop (F + k) = old :: vals2.drop (F + (k + 1)) := by
            rw [List.drop_eq_getElem_cons (by omega)]
            have : vals2[F + k]'(by omega) = old := by
              have := List.getElem?_eq_getElem (l := vals2) (i := F + k) (by omega)
              rw [hold] at this; exact (Option.some.inj this).symm
            rw [this]; rfl
          rw [e1, ← hvl, set_mid]; simp
        have hsb := HIN.out.ti k d hd
        have hsb' : ∀ s, s ∈ d.ins → 0 ≤ s ∧ s < (vs.length : Int) := fun s hs => ⟨(hsb s hs).1, by have := (hsb s hs).2; rw [HFE.out] at this; rw [hvl]; omega⟩
        have hdm : d ∈ N.tabs := List.mem_of_getElem? hd
        have WT : Hid (∀ w', w' = wr → Calls Try.prog 29 #[.pointer (some ⟨mk, 0, none⟩), .pointer (some ⟨ob, oo + k * 2, none⟩)] w' fun e w'' => e = .returned (.bool (tabV d vs)) ∧ w'' = w') := fun w' hw' => by
          subst hw'
          rw [← tabV_append vs (vals2.drop (F + k)) d hsb']
          exact worthT_any _ mk gb g _ N _ HMR.out (by rw [hcl, HV2N.out]; simp only [huge]; omega) ob (oo + k * 2) d ((HAR.out.ti d hdm).mono (Nat.le_trans (Nat.le_trans hBw HGX.out.size) HG.out.size)) c0 c1 (HIN.out.t4 d hdm).1 (HIN.out.t4 d hdm).2 (fun s hs => ⟨(hsb' s hs).1, by rw [List.length_append]; have := (hsb' s hs).2; omega⟩)
        have hcell : wr.cell? ⟨g, F + k, none⟩ = some (.bool old) := HMR.out.cell (by rw [List.getElem?_append_right (by omega), List.getElem?_drop, hvl, Nat.sub_self, Nat.add_zero]; exact hold)
        have hfz : wr.frozen? ⟨g, F + k, none⟩ = false := frozen_of_row wr g (F + k) _ _ HMR.out.row
        have HROWR := hidden HMR.out.row
        have r0 := HMR.out.m0
        have r1 := HMR.out.box.c2
        dsimp only at r1
        rw [← HTL.out] at r1
        subst ea
        have e3 : IntKind.i64.wrap ((k : Int) + 1) = (k : Int) + 1 := wrapI _ (by omega) (by omega)
        have hltI : (k : Int) < (tl : Int) := by omega
        generalize tabV d vs = y at *
        clear hoc hd c0 c1 hsb hsb' HMR hcl hdl hrk HRK hold HAR HBR
        go_wp2_with fail
        go_at_call 29
        refine (WT.out _ rfl).mono ?_
        rintro e w2 ⟨rfl, hw2⟩
        subst hw2
        clear WT
        go_wp2
        go_roundw
        case measure => simp [intOf]; omega
        case rel => exact ⟨k + 1, by omega, by simp, by show _ = _; rw [heap_setCell_same _ g (F + k) _ _ _ HROWR.out, HNX.out, ← (HSET _).out]; simp [bV], grown_trans HG.out (grown_setCell _ _ _ _)⟩
      · have hge : ¬ ((k : Int) < (tl : Int)) := by omega
        have HRE : Hid (wr.heap[g]? = some (.cells (R.map bV).toArray 4 (0, 0))) := by
          have := HRK.out
          rw [List.take_of_length_le (by have := HTL.out; omega), HRR.out, List.drop_eq_nil_of_le (by have := HV2L.out; omega), List.append_nil] at this
          exact this
        clear HRK
        go_wp2
        go_end0
        exact ⟨⟨_, rfl⟩, HRE.out, grown_trans HGX.out HG.out⟩

end Go.Proofs.Ytcmfiamejncboaa
