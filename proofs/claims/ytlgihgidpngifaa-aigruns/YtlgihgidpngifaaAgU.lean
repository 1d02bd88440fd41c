import Derived.Test.YtlgihgidpngifaaAgT
namespace Go.Proofs.Ytlgihgidpngifaa
open Go.RowKit

theorem grown_drewN {a b : World} {row : Option Nat} (h : a.grownBy b row) (n : Nat) : a.grownBy (b.drewN n) row := ⟨h.os, h.tape, h.output, h.size, h.block⟩
theorem BoxAt.grown {w w' : World} {p g : Nat} {S : GrS} {G : GrD} (h : BoxAt w p S G) (hg : w.grownBy w' (some g)) (hne : p ≠ g) : BoxAt w' p S G :=
  ⟨Nat.lt_of_lt_of_le h.lt hg.size, hg.cell h.c0 (by intro e; cases e; exact hne rfl), hg.cell h.c1 (by intro e; cases e; exact hne rfl), hg.cell h.c2 (by intro e; cases e; exact hne rfl), hg.cell h.c3 (by intro e; cases e; exact hne rfl)⟩
theorem MkAt.turn {w w' : World} {mk gb g : Nat} {S : GrS} {G : GrD} {vals vals' : List Bool} (h : MkAt w mk gb g S G vals) (hg : w.grownBy w' (some g)) (hmg : mk ≠ g) (hbg : gb ≠ g) (hl : vals'.length = vals.length) (hr : w'.heap[g]? = some (.cells (vals'.map bV).toArray 4 (0, 0))) : MkAt w' mk gb g S G vals' :=
  ⟨hg.cell h.m0 (by intro e; cases e; exact hmg rfl), by rw [hl]; exact hg.cell h.m1 (by intro e; cases e; exact hmg rfl), Nat.lt_of_lt_of_le h.mlt hg.size, Nat.lt_of_lt_of_le h.glt hg.size, h.box.grown hg hbg, hr⟩

theorem rep_bV (n : Nat) : List.replicate n (Value.bool false) = (List.replicate n false).map bV := by simp [bV]
theorem split_at (P D : List Bool) (L F : Nat) (h : F = P.length + L) : (P ++ D.take L) ++ (P ++ D).drop F = P ++ D := by
  subst h
  rw [List.append_assoc, List.drop_append, List.drop_of_length_le (by omega), List.nil_append, Nat.add_sub_cancel_left, List.take_append_drop]

set_option maxRecDepth 100000 in
set_option maxHeartbeats 8000000 in
theorem workOut_any (w : World) (mk gb g : Nat) (S : GrS) (G : GrD) (vals : List Bool) (h : MkAt w mk gb g S G vals) (hmg : mk ≠ g) (hbg : gb ≠ g) (ni : Nat) (hni : G.ins = (ni : Int)) (hnl : ni ≤ 60000) (hll : G.lats.length ≤ 6000) (hal : G.ands.length ≤ 60000) (hvl : vals.length = 1 + ni + G.lats.length + G.ands.length) (hv0 : vals[0]? = some false) (HAN : Hid (RowAt w.heap.size w S.a2 2 (G.ands.map AndD.cells))) (HAG : Hid (∀ b o, S.a2 = some ⟨b, o, none⟩ → G.ands ≠ [] → b ≠ g)) (hai : AndsIn G)
    (row : List Bool) (ai : Option Addr) (ci : Nat) (HROW : Hid (RowAt w.heap.size w ai 1 (row.map bC))) (HRG : Hid (∀ b o, ai = some ⟨b, o, none⟩ → row ≠ [] → b ≠ g)) :
    Calls Try.prog 17 #[.pointer (some ⟨mk, 0, none⟩), .slice ai row.length ci] w fun e w' => (∃ v, e = .returned v) ∧ w'.heap[g]? = some (.cells ((cycN G row ((vals.drop (1 + ni)).take G.lats.length)).map bV).toArray 4 (0, 0)) ∧ w.grownBy w' (some g) := by
  obtain ⟨ib, hib, hzb, hsb, hbb⟩ := info_bool
  have HI := hidden hib
  have HZ := hidden hzb
  have HS := hidden hsb
  have HBY := hidden hbb
  clear hib hzb hsb hbb
  have HM := hidden h
  have HV0 := hidden hv0
  have m0 := h.m0
  have m1 := h.m1
  have mlt := h.mlt
  have blt := h.box.lt
  have q0 := h.box.c0
  rw [hni] at q0
  have HNI := hidden hni
  have HRW := hidden h.row
  obtain ⟨F, hF⟩ : ∃ F, F = 1 + ni + G.lats.length := ⟨_, rfl⟩
  have HFE : Hid (G.first = ((F : Nat) : Int)) := by show _ = _; unfold GrD.first; rw [hni]; omega
  have HAI : Hid (∀ (j : Nat) (d : AndD), G.ands[j]? = some d → (0 ≤ d.x ∧ d.x < 2 * ((F + j : Nat) : Int)) ∧ (0 ≤ d.y ∧ d.y < 2 * ((F + j : Nat) : Int))) := by
    intro j d hd
    have := hai j d hd
    rw [hni, Int.toNat_natCast, ← hF] at this
    exact this
  obtain ⟨R, HRR0⟩ : ∃ R, Hid (cycN G row ((vals.drop (1 + ni)).take G.lats.length) = R) := ⟨_, rfl⟩
  rw [HRR0.out]
  have HVB : Hid (vals.length < big) := by show _ < _; simp only [big]; omega
  clear h hv0 hni hai
  obtain ⟨sa1, sc1, sa2, sc2, sa3, sc3⟩ := S
  dsimp only at *
  have HFIT : Hid (1 + ni ≤ (vals.map bV).length) := by show _ ≤ _; rw [List.length_map]; omega
  have HNM : Hid (((row.take ni).map bV).length = Nat.min row.length ni) := by show _ = _; rw [List.length_map, List.length_take, Nat.min_comm]
  have e5 : IntKind.i64.wrap (1 + (ni : Int)) = 1 + (ni : Int) := wrapI _ (by omega) (by omega)
  have hcs : vals.length = 1 ∨ (1 < vals.length ∧ G.ands.length = 0) ∨ (1 < vals.length ∧ 0 < G.ands.length) := by omega
  have HVLN := hidden hvl
  have HF := hidden hF
  have hv1 : 1 + ni ≤ vals.length := by omega
  have hvs : vals.length ≤ 130000 := by omega
  have hFs : F ≤ 70000 := by omega
  clear hvl hF
  go_enter Try.func17, Try.ntmps17
  go_upto_region 0 with fail
  rcases hcs with hc1 | ⟨hc1, hc2⟩ | ⟨hc1, hc2⟩
  · have hz : ni = 0 ∧ G.lats.length = 0 ∧ G.ands.length = 0 := by have := HVLN.out; omega
    obtain ⟨rfl, -, hc2⟩ := hz
    have HC2 := hidden hc2
    rw [hc1] at m1
    have q0' : w.cell? ⟨gb, 0, none⟩ = some (.int .i64 0) := q0
    have HN0 : Hid (True) := trivial
    have HC1 := hidden hc1
    clear hc2 q0 e5 hc1
    go_quiet (fail)
    have HGQ : Hid (w.grownBy (w.drewN nq) (some g)) := grown_drewN (grown_refl _ _) _
    have tok : True := trivial
    have HP1 : Hid (∀ p : Option Addr, p = some ⟨g, 0, none⟩ → 0 < 0 → p = some ⟨g, 1, none⟩) := by intro p hp h; exfalso; omega
    go_wp2_with (have _t := tok; (refine wpList_clear_grown rfl (.tmp 21) 31 rfl 4 ib _ Try.underlying31 HI.out HZ.out rfl rfl _ 0 _ rfl g 1 (vals.map bV) 4 HRW.out (HP1.out _ rfl) HFIT.out ?_; intro w1 hr1 hg1; have HR1 := hidden hr1.out; have HG1 := hidden (grown_trans HGQ.out hg1); clear tok hr1 hg1))
    have HR1' : Hid (w1.heap[g]? = some (.cells ((splice vals 1 (List.replicate 0 false)).map bV).toArray 4 (0, 0))) := by
      have := HR1.out
      rw [rep_bV, splice_map] at this
      exact this
    have HFIT2 : Hid (1 + ((row.take 0).map bV).length ≤ ((splice vals 1 (List.replicate 0 false)).map bV).length) := by
      show _ ≤ _
      rw [List.length_map, List.length_map, length_splice _ _ _ (by simp; omega), List.length_take]
      omega
    have HPOS2 : Hid (∀ p : Option Addr, p = some ⟨g, 0, none⟩ → 0 < ((row.take 0).map bV).length → p = some ⟨g, 1, none⟩ ∧ ∃ ad, ai = some ad ∧ ∀ (j : Nat) (v : Value), ((row.take 0).map bV)[j]? = some v → w1.cell? (ad.add j) = some v) := by
      intro p hp hl
      have hl' : 0 < 0 ∧ 0 < row.length := by simp at hl
      obtain ⟨rx, hrx⟩ := getElem_lt hl'.2
      obtain ⟨rb, ro, ea, hrb, -⟩ := rowB HROW.out hrx
      refine ⟨HP1.out p hp hl'.1, ⟨rb, ro, none⟩, ea, fun j v hv => ?_⟩
      obtain ⟨bj, hbj, hv'⟩ : ∃ b, row[j]? = some b ∧ bV b = v := by
        rw [List.getElem?_map] at hv
        cases hq : (row.take 0)[j]? with
        | none => rw [hq] at hv; cases hv
        | some b =>
          rw [hq] at hv
          refine ⟨b, ?_, by simpa using hv⟩
          rw [List.getElem?_take] at hq
          split at hq
          · exact hq
          · cases hq
      obtain ⟨rb', ro', ea', _, hcj⟩ := rowB HROW.out hbj
      have e2 : rb' = rb ∧ ro' = ro := by rw [ea] at ea'; cases ea'; exact ⟨rfl, rfl⟩
      obtain ⟨rfl, rfl⟩ := e2
      rw [show (⟨rb', ro', none⟩ : Addr).add j = ⟨rb', ro' + j, none⟩ by unfold Addr.add; split <;> simp_all, ← hv']
      exact HG1.out.cell hcj (by intro e; cases e; exact HRG.out _ _ ea (by intro e; rw [e] at hrx; simp at hrx) rfl)
    obtain ⟨X, hrun, hr2, hg2⟩ := run_copy_grown (P := Try.prog) (w := w1) 31 31 3 4 Try.underlying31 bool_size (some ⟨g, 0, none⟩) ai 0 0 row.length ci g 1 ((splice vals 1 (List.replicate 0 false)).map bV) 4 HR1'.out ((row.take 0).map bV) HNM.out (HPOS2.out _ rfl) HFIT2.out (oneB _)
    have HR2 := hidden hr2
    have HGX := hidden (grown_trans HG1.out hg2)
    generalize goInt ((row.take 0).map bV).length = gi at hrun
    clear hr2 hg2
    go_wp2_with fail
    rw [hrun]
    clear hrun
    go_upto_region 3 with fail
    obtain ⟨vals2, HV2⟩ : ∃ v, Hid (splice (splice vals 1 (List.replicate 0 false)) 1 (row.take 0) = v) := ⟨_, rfl⟩
    have HV2E : Hid (vals2 = [false] ++ inRow 0 row ++ vals.drop (1 + 0)) := by show _ = _; rw [← HV2.out]; exact fill_in vals row 0 HV0.out (by omega)
    have HV2N : Hid (vals2.length = vals.length) := by show _ = _; rw [HV2E.out]; simp [inRow_length]; omega
    have HRX : Hid (X.heap[g]? = some (.cells (vals2.map bV).toArray 4 (0, 0))) := by
      have := HR2.out
      rw [splice_map, HV2.out] at this
      exact this
    have HMX : Hid (MkAt X mk gb g ⟨sa1, sc1, sa2, sc2, sa3, sc3⟩ G vals2) := HM.out.turn HGX.out hmg hbg HV2N.out HRX.out
    have hv2n := HV2N.out
    have n0 := HMX.out.m0
    have n1 := HMX.out.m1
    have n2 := HMX.out.box.c0
    rw [HNI.out] at n2
    have n3 := HMX.out.box.c2
    rw [hv2n] at n1
    have hmX := HMX.out.mlt
    have hbX := HMX.out.box.lt
    have FAX : Hid (∀ w', X.grownBy w' (some g) → Calls Try.prog 10 #[.pointer (some ⟨gb, 0, none⟩)] w' fun e w'' => e = .returned (.int .i64 (F : Int)) ∧ ∃ n, w'' = w'.drewN n) := fun w' hw' => by
      have := firstGate_any w' gb _ G (HMX.out.box.grown hw' hbg) (by rw [HNI.out]; omega) (by rw [HNI.out]; omega) (by simp only [big]; omega)
      rw [HFE.out] at this
      exact this
    clear HR1 HR1' HFIT2 HPOS2 HG1 HR2 HV2 hv2n
    obtain ⟨b0, HB0⟩ : ∃ b, Hid ([false] ++ inRow 0 row ++ (vals.drop (1 + 0)).take G.lats.length = b) := ⟨_, rfl⟩
    have HB0L : Hid (b0.length = F) := by show _ = _; rw [← HB0.out]; simp [inRow_length]; have := HVLN.out; have := HF.out; omega
    have HRR : Hid (andsN b0 G.ands = R) := by show _ = _; rw [← HRR0.out, ← HB0.out]; unfold cycN; rw [HNI.out]; rfl
    have HV2L : Hid (vals2.length = F + G.ands.length) := by show _ = _; rw [HV2N.out, HVLN.out]; have := HF.out; omega
    have HSPL : Hid (b0 ++ vals2.drop (F + 0) = vals2) := by
      show _ = _
      rw [Nat.add_zero, HV2E.out, ← HB0.out]
      exact split_at ([false] ++ inRow 0 row) (vals.drop (1 + 0)) G.lats.length F (by simp [inRow_length]; have := HF.out; omega)
    have HANX : Hid (RowAt w.heap.size X sa2 2 (G.ands.map AndD.cells)) := fun hne => by
      obtain ⟨b, o, hb, hlt, hc⟩ := HAN.out hne
      exact ⟨b, o, hb, hlt, fun i cs h1 j x h2 => HGX.out.cell (hc i cs h1 j x h2) (by intro e; cases e; exact HAG.out b o hb (by intro e; exact hne (by rw [e]; rfl)) rfl)⟩
    have hwX : w.heap.size ≤ X.heap.size := HGX.out.size
    clear HAN
    have HAN : Hid (RowAt X.heap.size X sa2 2 (G.ands.map AndD.cells)) := HANX.out.mono hwX
    clear HANX
    have hFe : F = vals.length := by have := HVLN.out; have := HF.out; have := HC2.out; omega
    rw [← hFe] at n1
    have HFQ := hidden hFe
    clear hFe
    go_quiet ((go_at_call 10; exact Calls.quiet_of (FAX.out _ (grown_drewN (grown_refl _ _) _))))
    have HR0 : Hid ((X.drewN nq).heap[g]? = some (.cells ((andsN b0 (G.ands.take 0) ++ vals2.drop (F + 0)).map bV).toArray 4 (0, 0))) := by
      show _ = _
      rw [show andsN b0 (G.ands.take 0) = b0 from rfl, HSPL.out]
      exact HRX.out
    have HG0 : Hid (X.grownBy (X.drewN nq) (some g)) := grown_drewN (grown_refl _ _) _
    have n3' : (X.drewN nq).cell? ⟨gb, 2, none⟩ = some (.slice sa2 G.ands.length sc2) := n3
    go_wp2_with fail
    go_loopw [43] (fun i' w' => ∃ (k : Nat), k ≤ G.ands.length ∧ i' = .int .i64 k ∧ Hid (w'.heap[g]? = some (.cells ((andsN b0 (G.ands.take k) ++ vals2.drop (F + k)).map bV).toArray 4 (0, 0))) ∧ Hid (X.grownBy w' (some g))) (fun i' _ => G.ands.length - (intOf i').toNat)
    case atStart => exact ⟨0, Nat.zero_le _, rfl, HR0.out, HG0.out⟩
    case round =>
      obtain ⟨k, hk, rfl, HRK, HG⟩ := hrel
      by_cases hlt : k < G.ands.length
      · exfalso
        have := HC2.out
        omega
      · have hge : ¬ ((k : Int) < (G.ands.length : Int)) := by omega
        have HRE : Hid (wr.heap[g]? = some (.cells (R.map bV).toArray 4 (0, 0))) := by
          have := HRK.out
          rw [List.take_of_length_le (by omega), HRR.out, List.drop_eq_nil_of_le (by have := HV2L.out; omega), List.append_nil] at this
          exact this
        clear HRK
        go_wp2
        go_end0
        exact ⟨⟨_, rfl⟩, HRE.out, grown_trans HGX.out HG.out⟩
  · have hc1I : ¬ (1 : Int) = (vals.length : Int) := by omega
    have hc1N : ¬ 1 = vals.length := by omega
    have hc3 : (1 + (ni : Int)) ≤ (vals.length : Int) := by omega
    have HC2 := hidden hc2
    clear hc2
    go_quiet (fail)
    rw [show 1 + ni - 1 = ni by omega]
    have HGQ : Hid (w.grownBy (w.drewN nq) (some g)) := grown_drewN (grown_refl _ _) _
    have tok : True := trivial
    have HP1 : Hid (∀ p : Option Addr, p = some ⟨g, 1, none⟩ → 0 < ni → p = some ⟨g, 1, none⟩) := by intro p hp _; exact hp
    go_wp2_with (have _t := tok; (refine wpList_clear_grown rfl (.tmp 21) 31 rfl 4 ib _ Try.underlying31 HI.out HZ.out rfl rfl _ ni _ rfl g 1 (vals.map bV) 4 HRW.out (HP1.out _ rfl) HFIT.out ?_; intro w1 hr1 hg1; have HR1 := hidden hr1.out; have HG1 := hidden (grown_trans HGQ.out hg1); clear tok hr1 hg1))
    have HR1' : Hid (w1.heap[g]? = some (.cells ((splice vals 1 (List.replicate ni false)).map bV).toArray 4 (0, 0))) := by
      have := HR1.out
      rw [rep_bV, splice_map] at this
      exact this
    have HFIT2 : Hid (1 + ((row.take ni).map bV).length ≤ ((splice vals 1 (List.replicate ni false)).map bV).length) := by
      show _ ≤ _
      rw [List.length_map, List.length_map, length_splice _ _ _ (by simp; omega), List.length_take]
      omega
    have HPOS2 : Hid (∀ p : Option Addr, p = some ⟨g, 1, none⟩ → 0 < ((row.take ni).map bV).length → p = some ⟨g, 1, none⟩ ∧ ∃ ad, ai = some ad ∧ ∀ (j : Nat) (v : Value), ((row.take ni).map bV)[j]? = some v → w1.cell? (ad.add j) = some v) := by
      intro p hp hl
      have hl' : 0 < ni ∧ 0 < row.length := by simp at hl; omega
      obtain ⟨rx, hrx⟩ := getElem_lt hl'.2
      obtain ⟨rb, ro, ea, hrb, -⟩ := rowB HROW.out hrx
      refine ⟨HP1.out p hp hl'.1, ⟨rb, ro, none⟩, ea, fun j v hv => ?_⟩
      obtain ⟨bj, hbj, hv'⟩ : ∃ b, row[j]? = some b ∧ bV b = v := by
        rw [List.getElem?_map] at hv
        cases hq : (row.take ni)[j]? with
        | none => rw [hq] at hv; cases hv
        | some b =>
          rw [hq] at hv
          refine ⟨b, ?_, by simpa using hv⟩
          rw [List.getElem?_take] at hq
          split at hq
          · exact hq
          · cases hq
      obtain ⟨rb', ro', ea', _, hcj⟩ := rowB HROW.out hbj
      have e2 : rb' = rb ∧ ro' = ro := by rw [ea] at ea'; cases ea'; exact ⟨rfl, rfl⟩
      obtain ⟨rfl, rfl⟩ := e2
      rw [show (⟨rb', ro', none⟩ : Addr).add j = ⟨rb', ro' + j, none⟩ by unfold Addr.add; split <;> simp_all, ← hv']
      exact HG1.out.cell hcj (by intro e; cases e; exact HRG.out _ _ ea (by intro e; rw [e] at hrx; simp at hrx) rfl)
    obtain ⟨X, hrun, hr2, hg2⟩ := run_copy_grown (P := Try.prog) (w := w1) 31 31 3 4 Try.underlying31 bool_size (some ⟨g, 1, none⟩) ai ni (vals.length - 1) row.length ci g 1 ((splice vals 1 (List.replicate ni false)).map bV) 4 HR1'.out ((row.take ni).map bV) HNM.out (HPOS2.out _ rfl) HFIT2.out (oneB _)
    have HR2 := hidden hr2
    have HGX := hidden (grown_trans HG1.out hg2)
    generalize goInt ((row.take ni).map bV).length = gi at hrun
    clear hr2 hg2
    go_wp2_with fail
    rw [hrun]
    clear hrun
    go_upto_region 3 with fail
    obtain ⟨vals2, HV2⟩ : ∃ v, Hid (splice (splice vals 1 (List.replicate ni false)) 1 (row.take ni) = v) := ⟨_, rfl⟩
    have HV2E : Hid (vals2 = [false] ++ inRow ni row ++ vals.drop (1 + ni)) := by show _ = _; rw [← HV2.out]; exact fill_in vals row ni HV0.out (by omega)
    have HV2N : Hid (vals2.length = vals.length) := by show _ = _; rw [HV2E.out]; simp [inRow_length]; omega
    have HRX : Hid (X.heap[g]? = some (.cells (vals2.map bV).toArray 4 (0, 0))) := by
      have := HR2.out
      rw [splice_map, HV2.out] at this
      exact this
    have HMX : Hid (MkAt X mk gb g ⟨sa1, sc1, sa2, sc2, sa3, sc3⟩ G vals2) := HM.out.turn HGX.out hmg hbg HV2N.out HRX.out
    have hv2n := HV2N.out
    have n0 := HMX.out.m0
    have n1 := HMX.out.m1
    have n2 := HMX.out.box.c0
    rw [HNI.out] at n2
    have n3 := HMX.out.box.c2
    rw [hv2n] at n1
    have hmX := HMX.out.mlt
    have hbX := HMX.out.box.lt
    have FAX : Hid (∀ w', X.grownBy w' (some g) → Calls Try.prog 10 #[.pointer (some ⟨gb, 0, none⟩)] w' fun e w'' => e = .returned (.int .i64 (F : Int)) ∧ ∃ n, w'' = w'.drewN n) := fun w' hw' => by
      have := firstGate_any w' gb _ G (HMX.out.box.grown hw' hbg) (by rw [HNI.out]; omega) (by rw [HNI.out]; omega) (by simp only [big]; omega)
      rw [HFE.out] at this
      exact this
    clear HR1 HR1' HFIT2 HPOS2 HG1 HR2 HV2 hv2n
    obtain ⟨b0, HB0⟩ : ∃ b, Hid ([false] ++ inRow ni row ++ (vals.drop (1 + ni)).take G.lats.length = b) := ⟨_, rfl⟩
    have HB0L : Hid (b0.length = F) := by show _ = _; rw [← HB0.out]; simp [inRow_length]; have := HVLN.out; have := HF.out; omega
    have HRR : Hid (andsN b0 G.ands = R) := by show _ = _; rw [← HRR0.out, ← HB0.out]; unfold cycN; rw [HNI.out]; rfl
    have HV2L : Hid (vals2.length = F + G.ands.length) := by show _ = _; rw [HV2N.out, HVLN.out]; have := HF.out; omega
    have HSPL : Hid (b0 ++ vals2.drop (F + 0) = vals2) := by
      show _ = _
      rw [Nat.add_zero, HV2E.out, ← HB0.out]
      exact split_at ([false] ++ inRow ni row) (vals.drop (1 + ni)) G.lats.length F (by simp [inRow_length]; have := HF.out; omega)
    have HANX : Hid (RowAt w.heap.size X sa2 2 (G.ands.map AndD.cells)) := fun hne => by
      obtain ⟨b, o, hb, hlt, hc⟩ := HAN.out hne
      exact ⟨b, o, hb, hlt, fun i cs h1 j x h2 => HGX.out.cell (hc i cs h1 j x h2) (by intro e; cases e; exact HAG.out b o hb (by intro e; exact hne (by rw [e]; rfl)) rfl)⟩
    have hwX : w.heap.size ≤ X.heap.size := HGX.out.size
    clear HAN
    have HAN : Hid (RowAt X.heap.size X sa2 2 (G.ands.map AndD.cells)) := HANX.out.mono hwX
    clear HANX
    have hFe : F = vals.length := by have := HVLN.out; have := HF.out; have := HC2.out; omega
    rw [← hFe] at n1
    have HFQ := hidden hFe
    clear hFe
    go_quiet ((go_at_call 10; exact Calls.quiet_of (FAX.out _ (grown_drewN (grown_refl _ _) _))))
    have HR0 : Hid ((X.drewN nq).heap[g]? = some (.cells ((andsN b0 (G.ands.take 0) ++ vals2.drop (F + 0)).map bV).toArray 4 (0, 0))) := by
      show _ = _
      rw [show andsN b0 (G.ands.take 0) = b0 from rfl, HSPL.out]
      exact HRX.out
    have HG0 : Hid (X.grownBy (X.drewN nq) (some g)) := grown_drewN (grown_refl _ _) _
    have n3' : (X.drewN nq).cell? ⟨gb, 2, none⟩ = some (.slice sa2 G.ands.length sc2) := n3
    go_wp2_with fail
    go_loopw [43] (fun i' w' => ∃ (k : Nat), k ≤ G.ands.length ∧ i' = .int .i64 k ∧ Hid (w'.heap[g]? = some (.cells ((andsN b0 (G.ands.take k) ++ vals2.drop (F + k)).map bV).toArray 4 (0, 0))) ∧ Hid (X.grownBy w' (some g))) (fun i' _ => G.ands.length - (intOf i').toNat)
    case atStart => exact ⟨0, Nat.zero_le _, rfl, HR0.out, HG0.out⟩
    case round =>
      obtain ⟨k, hk, rfl, HRK, HG⟩ := hrel
      by_cases hlt : k < G.ands.length
      · exfalso
        have := HC2.out
        omega
      · have hge : ¬ ((k : Int) < (G.ands.length : Int)) := by omega
        have HRE : Hid (wr.heap[g]? = some (.cells (R.map bV).toArray 4 (0, 0))) := by
          have := HRK.out
          rw [List.take_of_length_le (by omega), HRR.out, List.drop_eq_nil_of_le (by have := HV2L.out; omega), List.append_nil] at this
          exact this
        clear HRK
        go_wp2
        go_end0
        exact ⟨⟨_, rfl⟩, HRE.out, grown_trans HGX.out HG.out⟩
  · have hc1I : ¬ (1 : Int) = (vals.length : Int) := by omega
    have hc1N : ¬ 1 = vals.length := by omega
    have hc3 : (1 + (ni : Int)) ≤ (vals.length : Int) := by omega
    go_quiet (fail)
    rw [show 1 + ni - 1 = ni by omega]
    have HGQ : Hid (w.grownBy (w.drewN nq) (some g)) := grown_drewN (grown_refl _ _) _
    have tok : True := trivial
    have HP1 : Hid (∀ p : Option Addr, p = some ⟨g, 1, none⟩ → 0 < ni → p = some ⟨g, 1, none⟩) := by intro p hp _; exact hp
    go_wp2_with (have _t := tok; (refine wpList_clear_grown rfl (.tmp 21) 31 rfl 4 ib _ Try.underlying31 HI.out HZ.out rfl rfl _ ni _ rfl g 1 (vals.map bV) 4 HRW.out (HP1.out _ rfl) HFIT.out ?_; intro w1 hr1 hg1; have HR1 := hidden hr1.out; have HG1 := hidden (grown_trans HGQ.out hg1); clear tok hr1 hg1))
    have HR1' : Hid (w1.heap[g]? = some (.cells ((splice vals 1 (List.replicate ni false)).map bV).toArray 4 (0, 0))) := by
      have := HR1.out
      rw [rep_bV, splice_map] at this
      exact this
    have HFIT2 : Hid (1 + ((row.take ni).map bV).length ≤ ((splice vals 1 (List.replicate ni false)).map bV).length) := by
      show _ ≤ _
      rw [List.length_map, List.length_map, length_splice _ _ _ (by simp; omega), List.length_take]
      omega
    have HPOS2 : Hid (∀ p : Option Addr, p = some ⟨g, 1, none⟩ → 0 < ((row.take ni).map bV).length → p = some ⟨g, 1, none⟩ ∧ ∃ ad, ai = some ad ∧ ∀ (j : Nat) (v : Value), ((row.take ni).map bV)[j]? = some v → w1.cell? (ad.add j) = some v) := by
      intro p hp hl
      have hl' : 0 < ni ∧ 0 < row.length := by simp at hl; omega
      obtain ⟨rx, hrx⟩ := getElem_lt hl'.2
      obtain ⟨rb, ro, ea, hrb, -⟩ := rowB HROW.out hrx
      refine ⟨HP1.out p hp hl'.1, ⟨rb, ro, none⟩, ea, fun j v hv => ?_⟩
      obtain ⟨bj, hbj, hv'⟩ : ∃ b, row[j]? = some b ∧ bV b = v := by
        rw [List.getElem?_map] at hv
        cases hq : (row.take ni)[j]? with
        | none => rw [hq] at hv; cases hv
        | some b =>
          rw [hq] at hv
          refine ⟨b, ?_, by simpa using hv⟩
          rw [List.getElem?_take] at hq
          split at hq
          · exact hq
          · cases hq
      obtain ⟨rb', ro', ea', _, hcj⟩ := rowB HROW.out hbj
      have e2 : rb' = rb ∧ ro' = ro := by rw [ea] at ea'; cases ea'; exact ⟨rfl, rfl⟩
      obtain ⟨rfl, rfl⟩ := e2
      rw [show (⟨rb', ro', none⟩ : Addr).add j = ⟨rb', ro' + j, none⟩ by unfold Addr.add; split <;> simp_all, ← hv']
      exact HG1.out.cell hcj (by intro e; cases e; exact HRG.out _ _ ea (by intro e; rw [e] at hrx; simp at hrx) rfl)
    obtain ⟨X, hrun, hr2, hg2⟩ := run_copy_grown (P := Try.prog) (w := w1) 31 31 3 4 Try.underlying31 bool_size (some ⟨g, 1, none⟩) ai ni (vals.length - 1) row.length ci g 1 ((splice vals 1 (List.replicate ni false)).map bV) 4 HR1'.out ((row.take ni).map bV) HNM.out (HPOS2.out _ rfl) HFIT2.out (oneB _)
    have HR2 := hidden hr2
    have HGX := hidden (grown_trans HG1.out hg2)
    generalize goInt ((row.take ni).map bV).length = gi at hrun
    clear hr2 hg2
    go_wp2_with fail
    rw [hrun]
    clear hrun
    go_upto_region 3 with fail
    obtain ⟨vals2, HV2⟩ : ∃ v, Hid (splice (splice vals 1 (List.replicate ni false)) 1 (row.take ni) = v) := ⟨_, rfl⟩
    have HV2E : Hid (vals2 = [false] ++ inRow ni row ++ vals.drop (1 + ni)) := by show _ = _; rw [← HV2.out]; exact fill_in vals row ni HV0.out (by omega)
    have HV2N : Hid (vals2.length = vals.length) := by show _ = _; rw [HV2E.out]; simp [inRow_length]; omega
    have HRX : Hid (X.heap[g]? = some (.cells (vals2.map bV).toArray 4 (0, 0))) := by
      have := HR2.out
      rw [splice_map, HV2.out] at this
      exact this
    have HMX : Hid (MkAt X mk gb g ⟨sa1, sc1, sa2, sc2, sa3, sc3⟩ G vals2) := HM.out.turn HGX.out hmg hbg HV2N.out HRX.out
    have hv2n := HV2N.out
    have n0 := HMX.out.m0
    have n1 := HMX.out.m1
    have n2 := HMX.out.box.c0
    rw [HNI.out] at n2
    have n3 := HMX.out.box.c2
    rw [hv2n] at n1
    have hmX := HMX.out.mlt
    have hbX := HMX.out.box.lt
    have FAX : Hid (∀ w', X.grownBy w' (some g) → Calls Try.prog 10 #[.pointer (some ⟨gb, 0, none⟩)] w' fun e w'' => e = .returned (.int .i64 (F : Int)) ∧ ∃ n, w'' = w'.drewN n) := fun w' hw' => by
      have := firstGate_any w' gb _ G (HMX.out.box.grown hw' hbg) (by rw [HNI.out]; omega) (by rw [HNI.out]; omega) (by simp only [big]; omega)
      rw [HFE.out] at this
      exact this
    clear HR1 HR1' HFIT2 HPOS2 HG1 HR2 HV2 hv2n
    obtain ⟨b0, HB0⟩ : ∃ b, Hid ([false] ++ inRow ni row ++ (vals.drop (1 + ni)).take G.lats.length = b) := ⟨_, rfl⟩
    have HB0L : Hid (b0.length = F) := by show _ = _; rw [← HB0.out]; simp [inRow_length]; have := HVLN.out; have := HF.out; omega
    have HRR : Hid (andsN b0 G.ands = R) := by show _ = _; rw [← HRR0.out, ← HB0.out]; unfold cycN; rw [HNI.out]; rfl
    have HV2L : Hid (vals2.length = F + G.ands.length) := by show _ = _; rw [HV2N.out, HVLN.out]; have := HF.out; omega
    have HSPL : Hid (b0 ++ vals2.drop (F + 0) = vals2) := by
      show _ = _
      rw [Nat.add_zero, HV2E.out, ← HB0.out]
      exact split_at ([false] ++ inRow ni row) (vals.drop (1 + ni)) G.lats.length F (by simp [inRow_length]; have := HF.out; omega)
    have HANX : Hid (RowAt w.heap.size X sa2 2 (G.ands.map AndD.cells)) := fun hne => by
      obtain ⟨b, o, hb, hlt, hc⟩ := HAN.out hne
      exact ⟨b, o, hb, hlt, fun i cs h1 j x h2 => HGX.out.cell (hc i cs h1 j x h2) (by intro e; cases e; exact HAG.out b o hb (by intro e; exact hne (by rw [e]; rfl)) rfl)⟩
    have hwX : w.heap.size ≤ X.heap.size := HGX.out.size
    clear HAN
    have HAN : Hid (RowAt X.heap.size X sa2 2 (G.ands.map AndD.cells)) := HANX.out.mono hwX
    clear HANX
    have hFl : F < vals.length := by have := HVLN.out; have := HF.out; omega
    have hFI : ¬ (F : Int) = (vals.length : Int) := by omega
    have hFN : ¬ F = vals.length := by omega
    have hFJ : (F : Int) ≤ (vals.length : Int) := by omega
    go_quiet ((go_at_call 10; exact Calls.quiet_of (FAX.out _ (grown_drewN (grown_refl _ _) _))))
    have HR0 : Hid ((X.drewN nq).heap[g]? = some (.cells ((andsN b0 (G.ands.take 0) ++ vals2.drop (F + 0)).map bV).toArray 4 (0, 0))) := by
      show _ = _
      rw [show andsN b0 (G.ands.take 0) = b0 from rfl, HSPL.out]
      exact HRX.out
    have HG0 : Hid (X.grownBy (X.drewN nq) (some g)) := grown_drewN (grown_refl _ _) _
    have n3' : (X.drewN nq).cell? ⟨gb, 2, none⟩ = some (.slice sa2 G.ands.length sc2) := n3
    go_wp2_with fail
    go_loopw [43] (fun i' w' => ∃ (k : Nat), k ≤ G.ands.length ∧ i' = .int .i64 k ∧ Hid (w'.heap[g]? = some (.cells ((andsN b0 (G.ands.take k) ++ vals2.drop (F + k)).map bV).toArray 4 (0, 0))) ∧ Hid (X.grownBy w' (some g))) (fun i' _ => G.ands.length - (intOf i').toNat)
    case atStart => exact ⟨0, Nat.zero_le _, rfl, HR0.out, HG0.out⟩
    case round =>
      obtain ⟨k, hk, rfl, HRK, HG⟩ := hrel
      by_cases hlt : k < G.ands.length
      · obtain ⟨d, hd⟩ := getElem_lt hlt
        obtain ⟨ob, oo, ea, hob, hoc⟩ := HAN.out.el hd
        have hobg : ob ≠ g := HAG.out ob oo ea (by intro e; rw [e] at hlt; simp at hlt)
        have hobX : ob < X.heap.size := hob
        have obR : ∀ (j : Nat) (v : Value), d.cells[j]? = some v → wr.cell? ⟨ob, oo + k * 2 + j, none⟩ = some v := fun j v hv => HG.out.cell (hoc j v hv) (by intro e; cases e; exact hobg rfl)
        have c0 : wr.cell? ⟨ob, oo + k * 2, none⟩ = some (.int .i64 d.x) := obR 0 _ rfl
        have c1 : wr.cell? ⟨ob, oo + k * 2 + 1, none⟩ = some (.int .i64 d.y) := obR 1 _ rfl
        have hobr : ob < wr.heap.size := Nat.lt_of_lt_of_le hobX HG.out.size
        obtain ⟨vs, HVS⟩ : ∃ vs, Hid (andsN b0 (G.ands.take k) = vs) := ⟨_, rfl⟩
        have hvl : vs.length = F + k := by rw [← HVS.out, ands_length, HB0L.out, List.length_take]; omega
        obtain ⟨hx, hy⟩ := HAI.out k d hd
        have hxI : InV vs d.x := ⟨hx.1, by rw [hvl]; exact hx.2⟩
        have hyI : InV vs d.y := ⟨hy.1, by rw [hvl]; exact hy.2⟩
        have HNX : Hid (andsN b0 (G.ands.take (k + 1)) = vs ++ [litV vs d.x && litV vs d.y]) := by
          show _ = _
          rw [take_next _ k d hd, ands_snoc, HVS.out]
        have hrk := HRK.out
        rw [HVS.out] at hrk
        have hdl : (vals2.drop (F + k)).length = vals2.length - (F + k) := List.length_drop
        have hcl : (vs ++ vals2.drop (F + k)).length = vals2.length := by rw [List.length_append, hdl]; have := HV2L.out; omega
        have HMR : Hid (MkAt wr mk gb g _ G (vs ++ vals2.drop (F + k))) := HMX.out.turn HG.out hmg hbg hcl hrk
        have HV2L' := HV2L.out
        have hgetd : ∃ old, vals2[F + k]? = some old := getElem_lt (by omega)
        obtain ⟨old, hold⟩ := hgetd
        have HSET : ∀ b : Bool, Hid (((vs ++ vals2.drop (F + k)).set (F + k) b) = vs ++ [b] ++ vals2.drop (F + (k + 1))) := by
          intro b
          show _ = _
          have e1 : vals2.drop (F + k) = old :: vals2.drop (F + (k + 1)) := by
            rw [List.drop_eq_getElem_cons (by omega)]
            have : vals2[F + k]'(by omega) = old := by
              have := List.getElem?_eq_getElem (l := vals2) (i := F + k) (by omega)
              rw [hold] at this; exact (Option.some.inj this).symm
            rw [this]; rfl
          rw [e1, ← hvl, set_mid]; simp
        have e3 : IntKind.i64.wrap ((k : Int) + 1) = (k : Int) + 1 := wrapI _ (by omega) (by omega)
        have hltI : (k : Int) < (G.ands.length : Int) := by omega
        have hgi : (k : Int) < ((vals.length - F : Nat) : Int) := by have := HV2N.out; omega
        subst ea
        obtain ⟨x, y⟩ := d
        simp only at *
        clear hoc obR hd
        go_wp2_with fail
        generalize hW5 : World.alloc wr _ = w5
        have HB5 : Hid (Below wr.heap.size wr w5) := by rw [← hW5]; exact (Below.refl _ _).alloc (Nat.le_refl _) _
        have z0 : w5.cell? ⟨wr.heap.size, 0, none⟩ = some (.int .i64 x) := by rw [← hW5]; simp
        have z1 : w5.cell? ⟨wr.heap.size, 1, none⟩ = some (.int .i64 y) := by rw [← hW5]; simp
        clear hW5 c0 c1
        have HM5 : Hid (MkAt w5 mk gb g _ G (vs ++ vals2.drop (F + k))) := HMR.out.to HB5.out
        have hbig5 : (vs ++ vals2.drop (F + k)).length < big := by rw [hcl, HV2N.out]; exact HVB.out
        have WX : Hid (∀ w', w' = w5 → Calls Try.prog 23 #[.pointer (some ⟨mk, 0, none⟩), .int .i64 x] w' fun e w'' => e = .returned (.bool (litV vs x)) ∧ w'' = w') := fun w' hw' => by
          subst hw'; rw [← litV_append vs (vals2.drop (F + k)) x hxI]; exact worth_any _ mk gb g _ G _ HM5.out hbig5 x (hxI.mono (by simp))
        have WY : Hid (∀ w', w' = w5 → Calls Try.prog 23 #[.pointer (some ⟨mk, 0, none⟩), .int .i64 y] w' fun e w'' => e = .returned (.bool (litV vs y)) ∧ w'' = w') := fun w' hw' => by
          subst hw'; rw [← litV_append vs (vals2.drop (F + k)) y hyI]; exact worth_any _ mk gb g _ G _ HM5.out hbig5 y (hyI.mono (by simp))
        generalize litV vs x = bx at *
        generalize litV vs y = bY at *
        have hcell5 : w5.cell? ⟨g, F + k, none⟩ = some (.bool old) := HM5.out.cell (by rw [List.getElem?_append_right (by omega), List.getElem?_drop, hvl, Nat.sub_self, Nat.add_zero]; exact hold)
        have hfz5 : w5.frozen? ⟨g, F + k, none⟩ = false := frozen_of_row w5 g (F + k) _ _ HM5.out.row
        have HROW5 := hidden HM5.out.row
        have HG5 : Hid (X.grownBy w5 (some g)) := grown_trans HG.out ⟨HB5.out.os, HB5.out.tape, HB5.out.output, HB5.out.size, fun k hk _ => HB5.out.block k hk⟩
        clear HRK HG hrk HMR HM5 hbig5 hcl hdl hxI hyI hx hy hold
        generalize wr.heap.size = zb at *
        cases bx
        · go_at_call 23
          refine (WX.out _ rfl).mono ?_
          rintro e w2 ⟨rfl, hw2⟩
          subst hw2
          clear WX WY
          go_wp2
          go_roundw
          case measure => simp [intOf]; omega
          case rel => exact ⟨k + 1, by omega, by simp, by show _ = _; rw [heap_setCell_same _ g (F + k) _ _ _ HROW5.out, HNX.out, ← (HSET _).out]; simp [bV], grown_trans HG5.out (grown_setCell _ _ _ _)⟩
        · go_at_call 23
          refine (WX.out _ rfl).mono ?_
          rintro e w2 ⟨rfl, hw2⟩
          subst hw2
          go_wp2_with fail
          go_at_call 23
          refine (WY.out _ rfl).mono ?_
          rintro e w3 ⟨rfl, hw3⟩
          subst hw3
          clear WX WY
          go_wp2
          go_roundw
          case measure => simp [intOf]; omega
          case rel => exact ⟨k + 1, by omega, by simp, by show _ = _; rw [heap_setCell_same _ g (F + k) _ _ _ HROW5.out, HNX.out, ← (HSET _).out]; simp [bV], grown_trans HG5.out (grown_setCell _ _ _ _)⟩
      · have hge : ¬ ((k : Int) < (G.ands.length : Int)) := by omega
        have HRE : Hid (wr.heap[g]? = some (.cells (R.map bV).toArray 4 (0, 0))) := by
          have := HRK.out
          rw [List.take_of_length_le (by omega), HRR.out, List.drop_eq_nil_of_le (by have := HV2L.out; omega), List.append_nil] at this
          exact this
        clear HRK
        go_wp2
        go_end0
        exact ⟨⟨_, rfl⟩, HRE.out, grown_trans HGX.out HG.out⟩

end Go.Proofs.Ytlgihgidpngifaa
