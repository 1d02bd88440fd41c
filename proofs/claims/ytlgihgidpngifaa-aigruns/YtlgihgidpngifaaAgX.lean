import Derived.Test.YtlgihgidpngifaaAgW
namespace Go.Proofs.Ytlgihgidpngifaa
open Go.RowKit

theorem made_nil (n : Nat) : (madeCells (Value.slice none 0 0).cells (n * 1)).toList = ([] : List RD).map RD.v ++ List.replicate (n - 0) (.slice none 0 0) := by
  rw [Nat.mul_one]
  apply List.ext_getElem?
  intro i
  by_cases h : i < n
  · simp [madeCells, Value.cells, h, Nat.mod_one]
  · simp [madeCells, Value.cells, h]
theorem grOk_parts {G : GrD} (h : GrOk G = true) : G.small ∧ AndsIn G ∧ LatsIn G (1 + G.ins.toNat + G.lats.length + G.ands.length) ∧ OutsIn G (1 + G.ins.toNat + G.lats.length + G.ands.length) := by
  unfold GrOk at h
  simp only [Bool.and_eq_true, decide_eq_true_eq] at h
  obtain ⟨⟨⟨hs, ha⟩, hl⟩, ho⟩ := h
  have g0 := hs.1
  have hv : G.vars = (((1 + G.ins.toNat + G.lats.length + G.ands.length) : Nat) : Int) := by unfold GrD.vars GrD.first; omega
  refine ⟨hs, fun k d hd => ?_, fun k d hd => ?_, fun k l hl' => ?_⟩
  · have hk : k < G.ands.length := (List.getElem?_eq_some_iff.1 hd).1
    have := List.all_eq_true.1 ha k (List.mem_range.2 hk)
    rw [andOk_of hd] at this
    simp only [litOk, Bool.and_eq_true, decide_eq_true_eq] at this
    have hf : G.first + (k : Int) = ((1 + G.ins.toNat + G.lats.length + k : Nat) : Int) := by unfold GrD.first; omega
    rw [hf] at this
    exact this
  · have := List.all_eq_true.1 hl d (List.mem_of_getElem? hd)
    simp only [latOk, litOk, decide_eq_true_eq, hv] at this
    exact this
  · have := List.all_eq_true.1 ho l (List.mem_of_getElem? hl')
    simp only [litOk, decide_eq_true_eq, hv] at this
    exact this

set_option maxRecDepth 100000 in
set_option maxHeartbeats 8000000 in
theorem run_any (B : Nat) (w : World) (S : GrS) (G : GrD) (h : GrAt B w S G) (hB : B ≤ w.heap.size) (hok : GrOk G = true) (ta : Option Addr) (tc : Nat) (trs : List TR) (ht : TrAt B w ta trs) :
    Calls Try.prog 13 #[.agg (S.cells G), .slice ta trs.length tc] w fun e w' => ∃ v, ∃ rows : List RD, e = .returned v ∧ w'.ownsRow w.heap.size 31 1 v trs.length (rows.map RD.v) ∧ rows.map RD.l = runN G (trs.map TR.l) (initN G) ∧ (∀ r, r ∈ rows → BS w' r.v r.l) ∧ Below w.heap.size w w' := by
  have VL : Hid (∀ w', Below w.heap.size w w' → Calls Try.prog 5 #[.agg (S.cells G)] w' fun e w'' => e = .returned (.bool true) ∧ Below w'.heap.size w' w'') := fun w' hw' => by
    have := valid_any B w' S G (h.to (hw'.mono hB)) (Nat.le_trans hB hw'.size)
    rw [hok] at this
    exact this
  obtain ⟨hs, hai, hli, hoi⟩ := grOk_parts hok
  obtain ⟨g0, g1, g2, g3, g4⟩ := hs
  obtain ⟨ni, hni, hnl⟩ : ∃ n : Nat, G.ins = (n : Int) ∧ n ≤ 60000 := ⟨G.ins.toNat, by omega, by omega⟩
  have hnt : G.ins.toNat = ni := by omega
  have hal : G.ands.length ≤ 60000 := by unfold GrD.vars GrD.first at g4; omega
  rw [hnt] at hli hoi
  obtain ⟨nv, hnv⟩ : ∃ nv, nv = 1 + ni + G.lats.length + G.ands.length := ⟨_, rfl⟩
  rw [← hnv] at hli hoi
  have HST : Hid (∀ w' gb, Below w.heap.size w w' → BoxAt w' gb S G → Calls Try.prog 16 #[.pointer (some ⟨gb, 0, none⟩)] w' fun e w'' => ∃ mk g, e = .returned (.pointer (some ⟨mk, 0, none⟩)) ∧ MkAt w'' mk gb g S G (firstV nv ni (initN G)) ∧ w'.heap.size ≤ g ∧ w'.heap.size ≤ mk ∧ mk ≠ g ∧ Below w'.heap.size w' w'') := fun w' gb hw' hx => by
    rw [hnv]
    exact start_any B w' gb S G (h.to (hw'.mono hB)) (Nat.le_trans hB hw'.size) hx ni hni hnl g2 hal
  have HAT := hidden h
  have HTR := hidden ht
  have hlen := ht.len
  have HNV := hidden hnv
  have HNI := hidden hni
  have hnvs : nv ≤ 130000 := by omega
  have hnvl : 1 + ni + G.lats.length ≤ nv := by omega
  have HLI := hidden hli
  have HOI := hidden hoi
  have HAI := hidden hai
  unfold GrS.cells at *
  clear hok hai hli hoi g0 g1 g4 hni hnv hnt ht
  obtain ⟨ib, hib, hzb, hsb, hbb⟩ := info_sl
  have HI := hidden hib
  have HZ := hidden hzb
  have HS := hidden hsb
  have HBY := hidden hbb
  clear hib hzb hsb hbb
  have hmkb : ib.bytes * trs.length ≤ 281474976710656 := by rw [HBY.out]; omega
  have hmx : trs.length ≤ maxLen := by simp only [maxLen]; omega
  go_enter Try.func13, Try.ntmps13
  go_upto_region 1 with fail
  generalize hW : World.alloc w _ = W
  have HB : Hid (Below w.heap.size w W) := by rw [← hW]; exact (Below.refl _ _).alloc (Nat.le_refl _) _
  have hN : w.heap.size < W.heap.size := by rw [← hW]; simp
  have HX : Hid (BoxAt W w.heap.size S G) := by
    rw [← hW]
    exact ⟨by simp, by simp, by simp, by simp, by simp⟩
  have HAW : Hid (GrAt B W S G) := h.to (HB.out.mono hB)
  have hBW : B ≤ W.heap.size := Nat.le_trans hB HB.out.size
  clear hW h
  have q0 := HX.out.c0
  have q1 := HX.out.c1
  have q2 := HX.out.c2
  have q3 := HX.out.c3
  go_wp2_with fail
  go_at_call 5
  refine (VL.out _ HB.out).mono ?_
  rintro e w1 ⟨rfl, hb1⟩
  have HB1 := hidden (HB.out.trans (hb1.mono HB.out.size))
  have HX1 : Hid (BoxAt w1 w.heap.size S G) := HX.out.to hN hb1
  clear hb1 q0 q1 q2 q3 VL HX
  go_wp2_with fail
  go_at_call 16
  refine (HST.out _ _ HB1.out HX1.out).mono ?_
  rintro e w2 ⟨mk, g, rfl, hm2, hg2, hmk2, hmg, hb2⟩
  have HM2 := hidden hm2
  have HB2 := hidden (HB1.out.trans (hb2.mono HB1.out.size))
  have hw1 := HB1.out.size
  have hbx := HX1.out.lt
  have hgw : w.heap.size < g := by omega
  have hmw : w.heap.size < mk := by omega
  have hgl := HM2.out.glt
  have hml := HM2.out.mlt
  clear hm2 hb2 HST HX1
  have tok : True := trivial
  go_upto_region 5 with (have _t := tok; at_make; (refine wpList_make_full _ rfl (.tmp 13) (.tmp 13) 29 rfl w2.heap.size 31 ib _ 1 Try.underlying29 HI.out HZ.out HS.out .i64 .i64 (trs.length : Int) (trs.length : Int) trs.length rfl rfl rfl rfl hmkb hmx (Nat.le_refl _) ?_; intro V hown1 hgrow1; have HBV := hidden (none_below hgrow1); have HOM := hidden hown1; clear tok hown1 hgrow1))
  have HBV2 : Hid (Below w.heap.size w V) := HB2.out.trans (HBV.out.mono HB2.out.size)
  have HMV := hidden (HM2.out.to HBV.out)
  obtain ⟨rg, hrg⟩ : ∃ r, r = w2.heap.size := ⟨_, rfl⟩
  have HO0 : Hid (V.ownsRow rg 31 1 (.slice (some ⟨rg, 0, none⟩) trs.length trs.length) trs.length (([] : List RD).map RD.v ++ List.replicate (trs.length - 0) (.slice none 0 0))) := by
    have := HOM.out
    rw [made_nil, ← hrg] at this
    exact this
  rw [← hrg]
  have hgr : g ≠ rg := by omega
  have hmr : mk ≠ rg := by omega
  have hrw : w.heap.size < rg := by omega
  have hbr : w.heap.size ≠ rg := by omega
  have hbg : w.heap.size ≠ g := by omega
  have hVs : rg < V.heap.size := by
    have := (HO0.out.lt rg rfl).2
    exact this
  have hgV : g < V.heap.size := HMV.out.glt
  clear HOM HM2 hrg HBV HB2 HB1 hw1 hbx hgl hml hg2 hmk2
  go_wp2_with fail
  go_loopw [17] (fun i' w' => ∃ (k : Nat) (rows : List RD) (vals : List Bool), k ≤ trs.length ∧ i' = .int .i64 k ∧ Hid (rows.length = k) ∧ Hid (MkAt w' mk w.heap.size g S G vals) ∧ Hid (ValsOk G nv ni vals (stN G (initN G) ((trs.take k).map TR.l))) ∧ Hid (w'.ownsRow rg 31 1 (.slice (some ⟨rg, 0, none⟩) trs.length trs.length) trs.length (rows.map RD.v ++ List.replicate (trs.length - k) (Value.slice none 0 0))) ∧ Hid (rows.map RD.l = runN G ((trs.take k).map TR.l) (initN G)) ∧ Hid (∀ r, r ∈ rows → BS w' r.v r.l ∧ ∀ x, r.v.ownBlock = some x → V.heap.size ≤ x) ∧ Hid (But V w' g rg)) (fun i' _ => trs.length - (intOf i').toNat)
  case atStart => exact ⟨0, [], _, Nat.zero_le _, rfl, rfl, HMV.out, ok_first G nv ni hnvl, HO0.out, rfl, fun r hr => (by simp at hr), But.refl _ _ _⟩
  case round =>
    obtain ⟨k, rows, vals, hk, rfl, HRN, HM, HVO, HO, HRL, HRB, HBT⟩ := hrel
    have HBr : Hid (Below w.heap.size w wr) := HBV2.out.trans (HBT.out.below HBV2.out.size (by omega) (by omega))
    by_cases hlt : k < trs.length
    · obtain ⟨t, hz⟩ := getElem_lt hlt
      obtain ⟨tb, to, ea, htb, htc⟩ := (HTR.out.to (HBr.out.mono hB)).row.el hz
      have c0 : wr.cell? ⟨tb, to + k, none⟩ = some (.slice t.a t.l.length t.c) := by have := htc 0 _ rfl; simpa using this
      subst ea
      have hltI : (k : Int) < (trs.length : Int) := by omega
      have e3 : IntKind.i64.wrap ((k : Int) + 1) = (k : Int) + 1 := wrapI _ (by omega) (by omega)
      obtain ⟨st, HST⟩ : ∃ st, Hid (stN G (initN G) ((trs.take k).map TR.l) = st) := ⟨_, rfl⟩
      have hvo := HVO.out
      rw [HST.out] at hvo
      have hsl : st.length = G.lats.length := by rw [← HST.out]; exact st_length G _ _ (by unfold initN; simp)
      have HNS : Hid (stN G (initN G) ((trs.take (k + 1)).map TR.l) = nextN G (cycN G t.l st)) := by
        show _ = _
        rw [take_next _ k t hz, List.map_append, show [t].map TR.l = [t.l] from rfl, st_snoc, HST.out]
      have HNR : Hid (runN G ((trs.take (k + 1)).map TR.l) (initN G) = runN G ((trs.take k).map TR.l) (initN G) ++ [outN G (cycN G t.l st)]) := by
        show _ = _
        rw [take_next _ k t hz, List.map_append, show [t].map TR.l = [t.l] from rfl, run_snoc, HST.out]
      have htm : t ∈ trs := List.mem_of_getElem? hz
      have hwr := HBr.out.size
      have HWO : Hid (Calls Try.prog 17 #[.pointer (some ⟨mk, 0, none⟩), .slice t.a t.l.length t.c] wr fun e w' => (∃ v, e = .returned v) ∧ w'.heap[g]? = some (.cells ((cycN G t.l st).map bV).toArray 4 (0, 0)) ∧ wr.grownBy w' (some g)) := by
        have hA := HAT.out.to (HBr.out.mono hB)
        have := workOut_any wr mk w.heap.size g S G vals HM.out hmg hbg ni HNI.out hnl g2 hal (by rw [hvo.len, HNV.out]) hvo.zero (hA.a.mono (Nat.le_trans hB hwr)) (fun b o hb hne => ?_) HAI.out t.l t.a t.c (((HTR.out.each t htm).to (HBr.out.mono hB)).mono (Nat.le_trans hB hwr)) (fun b o hb hne => ?_)
        · rw [hvo.part] at this
          exact this
        · obtain ⟨b', o', hb', hlt', -⟩ := hA.a (by intro e; exact hne (List.map_eq_nil_iff.1 e))
          rw [hb] at hb'; cases hb'
          omega
        · obtain ⟨b', o', hb', hlt', -⟩ := (HTR.out.each t htm).to (HBr.out.mono hB) (by intro e; exact hne (List.map_eq_nil_iff.1 e))
          rw [hb] at hb'; cases hb'
          omega
      have hcl : (cycN G t.l st).length = nv := by rw [cyc_length, hsl, HNV.out, HNI.out]; simp
      have hc0 := hidden (cyc_zero G t.l st)
      obtain ⟨cy, HCY⟩ : ∃ c, cycN G t.l st = c := ⟨_, rfl⟩
      rw [HCY] at HWO HNS HNR hcl hc0
      have HVN : Hid (ValsOk G nv ni (splice cy (1 + ni) (nextN G cy)) (nextN G cy)) := ok_next G nv ni cy hnvl hcl hc0.out
      have hvl := hvo.len
      clear HCY hz htc hvo hsl HST htm
      generalize t.l.length = tl at *
      generalize t.a = tA at *
      generalize t.c = tC at *
      go_wp2_with fail
      go_at_call 17
      refine HWO.out.mono ?_
      rintro e w3 ⟨⟨vv, rfl⟩, hr3, hg3⟩
      have HM3 : Hid (MkAt w3 mk w.heap.size g S G cy) := HM.out.turn hg3 hmg hbg (by rw [hcl, hvl]) hr3
      have HO3 : Hid (w3.ownsRow rg 31 1 (.slice (some ⟨rg, 0, none⟩) trs.length trs.length) trs.length (rows.map RD.v ++ List.replicate (trs.length - k) (Value.slice none 0 0))) := HO.out.kept hg3 (.inr (by show some rg ≠ some g; intro e; cases e; exact hgr rfl))
      have HR3 : Hid (∀ r, r ∈ rows → BS w3 r.v r.l ∧ ∀ x, r.v.ownBlock = some x → V.heap.size ≤ x) := fun r hr => ⟨(HRB.out r hr).1.kept hg3 (by intro x hx e; cases hx; have := (HRB.out r hr).2 _ e; omega), (HRB.out r hr).2⟩
      have HT3 : Hid (But V w3 g rg) := HBT.out.grown hg3 (by intro x hx; cases hx; exact .inl rfl)
      have HB3 : Hid (Below w.heap.size w w3) := HBV2.out.trans (HT3.out.below HBV2.out.size (by omega) (by omega))
      have hw3 := HB3.out.size
      have hV3 := HT3.out.size
      clear hr3 hg3 HWO HM HO HRB HBT HBr c0 hwr hvl
      have HTO : Hid (Calls Try.prog 18 #[.pointer (some ⟨mk, 0, none⟩)] w3 fun e w' => e = .returned (.slice (some ⟨w3.heap.size, 0, none⟩) G.outs.length G.outs.length) ∧ w'.ownsRow w3.heap.size 4 1 (.slice (some ⟨w3.heap.size, 0, none⟩) G.outs.length G.outs.length) G.outs.length ((outN G cy).map bV) ∧ Below w3.heap.size w3 w') :=
        told_any w3 mk w.heap.size g S G cy HM3.out (by rw [hcl]; simp only [big]; omega) ((HAT.out.o.to (HB3.out.mono hB)).mono (Nat.le_trans hB hw3)) (by rw [hcl]; exact HOI.out) g3
      go_wp2_with fail
      go_at_call 18
      refine HTO.out.mono ?_
      rintro e w4 ⟨rfl, ho4, hb4⟩
      obtain ⟨nb, hnb⟩ : ∃ n, n = w3.heap.size := ⟨_, rfl⟩
      rw [← hnb] at ho4 ⊢
      have HM4 := hidden (HM3.out.to hb4)
      have HO4 := hidden (own_below HO3.out hb4)
      have HN4 : Hid (BS w4 (.slice (some ⟨nb, 0, none⟩) G.outs.length G.outs.length) (outN G cy)) := BS.of ho4
      have HR4 : Hid (∀ r, r ∈ rows ++ [RD.mk (.slice (some ⟨nb, 0, none⟩) G.outs.length G.outs.length) (outN G cy)] → BS w4 r.v r.l ∧ ∀ x, r.v.ownBlock = some x → V.heap.size ≤ x) := by
        intro r hr
        rcases List.mem_append.1 hr with hr | hr
        · exact ⟨(HR3.out r hr).1.to hb4, (HR3.out r hr).2⟩
        · rw [List.mem_singleton.1 hr]
          refine ⟨HN4.out, fun x hx => ?_⟩
          have : nb = x := by cases hx; rfl
          omega
      have HT4 : Hid (But V w4 g rg) := HT3.out.grown (grown_of_below hb4) (by intro x hx; cases hx)
      clear ho4 hb4 HTO HM3 HO3 HR3 HT3 hV3 hnb
      have hcl4 := HO4.out.cellAt k (by omega)
      have hfz4 := HO4.out.frozenAt k
      have hold4 : ∃ old, w4.cell? ⟨rg, k, none⟩ = some old := by
        rw [hcl4]
        have hL : k < (rows.map RD.v ++ List.replicate (trs.length - k) (Value.slice none 0 0)).length := by simp; have := HRN.out; omega
        exact ⟨_, List.getElem?_eq_getElem hL⟩
      obtain ⟨old4, hold4⟩ := hold4
      have HST4 := hidden (HO4.out.stored k (.slice (some ⟨nb, 0, none⟩) G.outs.length G.outs.length))
      have HNX : Hid ((rows.map RD.v ++ List.replicate (trs.length - k) (Value.slice none 0 0)).set k (.slice (some ⟨nb, 0, none⟩) G.outs.length G.outs.length) = (rows ++ [RD.mk (.slice (some ⟨nb, 0, none⟩) G.outs.length G.outs.length) (outN G cy)]).map RD.v ++ List.replicate (trs.length - (k + 1)) (Value.slice none 0 0)) := by
        show _ = _
        have hkl : (rows.map RD.v).length = k := by rw [List.length_map]; exact HRN.out
        rw [show trs.length - k = (trs.length - (k + 1)) + 1 by omega, List.replicate_succ, ← hkl, set_mid, hkl]
        simp
      clear hcl4 HO4
      go_wp2_with fail
      generalize hW5 : World.setCell w4 _ _ = w5
      rw [hW5] at HST4
      have HG5 := hidden HST4.out.2
      have HM5 : Hid (MkAt w5 mk w.heap.size g S G cy) := HM4.out.other HG5.out hmr hbr hgr
      have HO5 : Hid (w5.ownsRow rg 31 1 (.slice (some ⟨rg, 0, none⟩) trs.length trs.length) trs.length ((rows ++ [RD.mk (.slice (some ⟨nb, 0, none⟩) G.outs.length G.outs.length) (outN G cy)]).map RD.v ++ List.replicate (trs.length - (k + 1)) (Value.slice none 0 0))) := by
        have := HST4.out.1
        rw [HNX.out] at this
        exact this
      have HR5 : Hid (∀ r, r ∈ rows ++ [RD.mk (.slice (some ⟨nb, 0, none⟩) G.outs.length G.outs.length) (outN G cy)] → BS w5 r.v r.l ∧ ∀ x, r.v.ownBlock = some x → V.heap.size ≤ x) := fun r hr => ⟨(HR4.out r hr).1.kept HG5.out (by intro x hx e; cases hx; have := (HR4.out r hr).2 _ e; omega), (HR4.out r hr).2⟩
      have HT5 : Hid (But V w5 g rg) := HT4.out.grown HG5.out (by intro x hx; cases hx; exact .inr (.inl rfl))
      have HB5 : Hid (Below w.heap.size w w5) := HBV2.out.trans (HT5.out.below HBV2.out.size (by omega) (by omega))
      have hw5 := HB5.out.size
      clear hW5 HST4 HG5 HM4 HR4 HT4 HN4 hold4 hfz4 HNX HB3 hw3
      have HCK : Hid (Calls Try.prog 19 #[.pointer (some ⟨mk, 0, none⟩)] w5 fun e w' => (∃ v, e = .returned v) ∧ w'.heap[g]? = some (.cells ((splice cy (1 + ni) (nextN G cy)).map bV).toArray 4 (0, 0)) ∧ w5.grownBy w' (some g)) :=
        clock_any w5 mk w.heap.size g S G cy HM5.out (by rw [hcl]; simp only [big]; omega) hmg hbg ni HNI.out (by rw [hcl]; exact hnvl) ((HAT.out.l.to (HB5.out.mono hB)).mono (Nat.le_trans hB hw5)) (by rw [hcl]; exact HLI.out) g2
      go_at_call 19
      refine HCK.out.mono ?_
      rintro e w6 ⟨⟨vv2, rfl⟩, hr6, hg6⟩
      have HM6 : Hid (MkAt w6 mk w.heap.size g S G (splice cy (1 + ni) (nextN G cy))) := HM5.out.turn hg6 hmg hbg (by rw [HVN.out.len, hcl]) hr6
      have HO6 : Hid (w6.ownsRow rg 31 1 (.slice (some ⟨rg, 0, none⟩) trs.length trs.length) trs.length ((rows ++ [RD.mk (.slice (some ⟨nb, 0, none⟩) G.outs.length G.outs.length) (outN G cy)]).map RD.v ++ List.replicate (trs.length - (k + 1)) (Value.slice none 0 0))) := HO5.out.kept hg6 (.inr (by show some rg ≠ some g; intro e; cases e; exact hgr rfl))
      have HR6 : Hid (∀ r, r ∈ rows ++ [RD.mk (.slice (some ⟨nb, 0, none⟩) G.outs.length G.outs.length) (outN G cy)] → BS w6 r.v r.l ∧ ∀ x, r.v.ownBlock = some x → V.heap.size ≤ x) := fun r hr => ⟨(HR5.out r hr).1.kept hg6 (by intro x hx e; cases hx; have := (HR5.out r hr).2 _ e; omega), (HR5.out r hr).2⟩
      have HT6 : Hid (But V w6 g rg) := HT5.out.grown hg6 (by intro x hx; cases hx; exact .inl rfl)
      have HL6 : Hid ((rows ++ [RD.mk (.slice (some ⟨nb, 0, none⟩) G.outs.length G.outs.length) (outN G cy)]).map RD.l = runN G ((trs.take (k + 1)).map TR.l) (initN G)) := by
        show _ = _
        rw [List.map_append, HNR.out, HRL.out]; rfl
      have HV6 : Hid (ValsOk G nv ni (splice cy (1 + ni) (nextN G cy)) (stN G (initN G) ((trs.take (k + 1)).map TR.l))) := by
        show ValsOk _ _ _ _ _
        rw [HNS.out]; exact HVN.out
      have HN6 : Hid ((rows ++ [RD.mk (.slice (some ⟨nb, 0, none⟩) G.outs.length G.outs.length) (outN G cy)]).length = k + 1) := by show _ = _; rw [List.length_append, HRN.out]; rfl
      clear hr6 hg6 HCK HM5 HO5 HR5 HT5 HB5 HRL HNR HNS HVN HRN HVO
      generalize splice cy (1 + ni) (nextN G cy) = vals6 at *
      go_wp2
      go_roundw
      case measure => simp [intOf]; omega
      case rel => exact ⟨k + 1, _, vals6, by omega, by simp, HN6.out, HM6.out, HV6.out, HO6.out, HL6.out, HR6.out, HT6.out⟩
    · have hge : ¬ ((k : Int) < (trs.length : Int)) := by omega
      have HO7 : Hid (wr.ownsRow rg 31 1 (.slice (some ⟨rg, 0, none⟩) trs.length trs.length) trs.length (rows.map RD.v)) := by
        have := HO.out
        rw [show trs.length - k = 0 by omega] at this
        show World.ownsRow _ _ _ _ _ _ _
        simpa using this
      have HL7 : Hid (rows.map RD.l = runN G (trs.map TR.l) (initN G)) := by
        have := HRL.out
        rwa [List.take_of_length_le (by omega)] at this
      clear HO HRL
      go_wp2
      go_ret
      exact ⟨_, rfl, rows, own_mono HO7.out (by omega), HL7.out, fun r hr => (HRB.out r hr).1, HBr.out⟩

end Go.Proofs.Ytlgihgidpngifaa
