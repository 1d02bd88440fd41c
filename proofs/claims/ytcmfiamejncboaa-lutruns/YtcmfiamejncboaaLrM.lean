import Derived.Test.YtcmfiamejncboaaLrL
namespace Go.Proofs.Ytcmfiamejncboaa
open Go.RowKit

theorem MkT.other {w w' : World} {mk gb g r : Nat} {S : NtS} {N : NtD} {vals : List Bool} (h : MkT w mk gb g S N vals) (hg : w.grownBy w' (some r)) (h1 : mk ≠ r) (h2 : gb ≠ r) (h3 : g ≠ r) : MkT w' mk gb g S N vals :=
  ⟨hg.cell h.m0 (by intro e; cases e; exact h1 rfl), hg.cell h.m1 (by intro e; cases e; exact h1 rfl), Nat.lt_of_lt_of_le h.mlt hg.size, Nat.lt_of_lt_of_le h.glt hg.size, h.box.grown hg h2, (hg.block g h.glt (by intro e; cases e; exact h3 rfl)).trans h.row⟩
/-- all that stood there but two blocks stands as it did -/
structure But (V w : World) (a b : Nat) : Prop where
  os : w.os = V.os
  tape : w.tape = V.tape
  output : w.output = V.output
  size : V.heap.size ≤ w.heap.size
  block : ∀ k, k < V.heap.size → k ≠ a → k ≠ b → w.heap[k]? = V.heap[k]?
theorem But.refl (V : World) (a b : Nat) : But V V a b := ⟨rfl, rfl, rfl, Nat.le_refl _, fun _ _ _ _ => rfl⟩
theorem But.grown {V w w' : World} {a b : Nat} {r : Option Nat} (h : But V w a b) (hg : w.grownBy w' r) (hr : ∀ x, r = some x → x = a ∨ x = b ∨ V.heap.size ≤ x) : But V w' a b :=
  ⟨hg.os.trans h.os, hg.tape.trans h.tape, hg.output.trans h.output, Nat.le_trans h.size hg.size, fun k hk h1 h2 => (hg.block k (Nat.lt_of_lt_of_le hk h.size) (fun e => by
    rcases hr k e.symm with hx | hx | hx
    · exact h1 hx
    · exact h2 hx
    · omega)).trans (h.block k hk h1 h2)⟩
theorem But.below {V w : World} {a b C : Nat} (h : But V w a b) (hC : C ≤ V.heap.size) (ha : C ≤ a) (hb : C ≤ b) : Below C V w :=
  ⟨h.os, h.tape, h.output, h.size, fun k hk => h.block k (Nat.lt_of_lt_of_le hk hC) (by omega) (by omega)⟩
theorem grown_of_below {w w' : World} (h : Below w.heap.size w w') : w.grownBy w' none := ⟨h.os, h.tape, h.output, h.size, fun k hk _ => h.block k hk⟩
theorem splice_part (L cs : List Bool) (off : Nat) (h : off ≤ L.length) : ((splice L off cs).drop off).take cs.length = cs := by
  unfold splice
  have e : (L.take off).length = off := by simp; omega
  rw [List.drop_append_of_le_length (by omega), List.drop_of_length_le (by omega), List.nil_append, List.take_append_of_le_length (Nat.le_refl _), List.take_length]
theorem made_nil (n : Nat) : (madeCells (Value.slice none 0 0).cells (n * 1)).toList = ([] : List RD).map RD.v ++ List.replicate (n - 0) (.slice none 0 0) := by
  rw [Nat.mul_one]
  apply List.ext_getElem?
  intro i
  by_cases h : i < n
  · simp [madeCells, Value.cells, h, Nat.mod_one]
  · simp [madeCells, Value.cells, h]

theorem splice_two (L cs : List Bool) (off : Nat) (h : 2 ≤ off) (h2 : off ≤ L.length) : (splice L off cs).take 2 = L.take 2 := by
  unfold splice
  rw [List.take_append_of_le_length (by simp; omega), List.take_take, Nat.min_eq_left h]
theorem tabsN_two (v : List Bool) (l : List TbD) (h : 2 ≤ v.length) : (tabsN v l).take 2 = v.take 2 := by
  induction l generalizing v with
  | nil => rfl
  | cons d t ih =>
    have := ih (v ++ [tabV d v]) (by simp; omega)
    show (tabsN (v ++ [tabV d v]) t).take 2 = _
    rw [this, List.take_append_of_le_length h]
theorem cyc_two (N : NtD) (row st : List Bool) : (cycT N row st).take 2 = [false, true] := by
  unfold cycT
  rw [tabsN_two _ _ (by simp)]
  rfl
theorem cycT_length (N : NtD) (row st : List Bool) : (cycT N row st).length = 2 + N.ins.toNat + st.length + N.tabs.length := by
  unfold cycT
  rw [tabs_length]
  simp [inRow_length]; omega
/-- what the values of a machine are between two cycles -/
structure ValsOk (N : NtD) (nv ni : Nat) (vals st : List Bool) : Prop where
  len : vals.length = nv
  two : vals.take 2 = [false, true]
  part : (vals.drop (2 + ni)).take N.init.length = st
theorem ok_first (N : NtD) (nv ni : Nat) (h : 2 + ni + N.init.length ≤ nv) : ValsOk N nv ni (firstT nv (2 + ni) N.init) N.init := by
  unfold firstT
  refine ⟨by rw [length_splice _ _ _ (by simp; omega)]; simp, ?_, ?_⟩
  · rw [splice_two _ _ _ (by omega) (by simp; omega)]
    obtain ⟨m, rfl⟩ : ∃ m, nv = m + 2 := ⟨nv - 2, by omega⟩
    simp [List.replicate_succ]
  · exact splice_part _ _ _ (by simp; omega)
theorem ok_next (N : NtD) (nv ni : Nat) (vals : List Bool) (h : 2 + ni + N.init.length ≤ nv) (hnx : N.next.length = N.init.length) (hl : vals.length = nv) (h0 : vals.take 2 = [false, true]) : ValsOk N nv ni (splice vals (2 + ni) (nextT N vals)) (nextT N vals) := by
  have hn : (nextT N vals).length = N.init.length := by unfold nextT; simp [hnx]
  refine ⟨?_, ?_, ?_⟩
  · rw [length_splice _ _ _ (by omega)]; exact hl
  · rw [splice_two _ _ _ (by omega) (by omega)]; exact h0
  · have := splice_part vals (nextT N vals) (2 + ni) (by omega)
    rw [hn] at this
    exact this

set_option maxRecDepth 100000 in
set_option maxHeartbeats 8000000 in
theorem run_any (B : Nat) (w : World) (S : NtS) (N : NtD) (h : NtAt B w S N) (hB : B ≤ w.heap.size) (hok : NtOk N = true) (hin : NtIn N) (ta : Option Addr) (tc : Nat) (trs : List TR) (ht : TrAt B w ta trs) :
    Calls Try.prog 15 #[.agg (S.cells N), .slice ta trs.length tc] w fun e w' => ∃ v, ∃ rows : List RD, e = .returned v ∧ w'.ownsRow w.heap.size 22 1 v trs.length (rows.map RD.v) ∧ rows.map RD.l = runT N (trs.map TR.l) N.init ∧ (∀ r, r ∈ rows → BS w' r.v r.l) ∧ Below w.heap.size w w' := by
  have VL : Hid (∀ w', Below w.heap.size w w' → Calls Try.prog 5 #[.agg (S.cells N)] w' fun e w'' => e = .returned (.bool true) ∧ Below w'.heap.size w' w'') := fun w' hw' => by
    have := valid_any B w' S N (h.to (hw'.mono hB)) (Nat.le_trans hB hw'.size)
    rw [hok] at this
    exact this
  have g2 := hin.il
  have hal := hin.tl
  have g3 := hin.ol
  have HNXL := hidden hin.nl
  have i0 := hin.i0
  have i1 := hin.i1
  have HIN := hidden hin
  obtain ⟨ni, hni, hnl⟩ : ∃ n : Nat, N.ins = (n : Int) ∧ n ≤ 60000 := ⟨N.ins.toNat, by omega, by omega⟩
  have hnt : N.ins.toNat = ni := by omega
  obtain ⟨nv, hnv⟩ : ∃ nv, nv = 2 + ni + N.init.length + N.tabs.length := ⟨_, rfl⟩
  have hsg : N.sigs = (nv : Int) := by unfold NtD.sigs NtD.first; rw [hni, hnv]; omega
  have HLI : Hid (∀ s, s ∈ N.next → 0 ≤ s ∧ s < (nv : Int)) := by have := hin.ni; rw [hsg] at this; exact this
  have HOI : Hid (∀ s, s ∈ N.outs → 0 ≤ s ∧ s < (nv : Int)) := by have := hin.oi; rw [hsg] at this; exact this
  have HST : Hid (∀ w' gb, Below w.heap.size w w' → BoxAt w' gb S N → Calls Try.prog 20 #[.pointer (some ⟨gb, 0, none⟩)] w' fun e w'' => ∃ mk g, e = .returned (.pointer (some ⟨mk, 0, none⟩)) ∧ MkT w'' mk gb g S N (firstT nv (2 + ni) N.init) ∧ w'.heap.size ≤ g ∧ w'.heap.size ≤ mk ∧ mk ≠ g ∧ Below w'.heap.size w' w'') := fun w' gb hw' hx => by
    rw [hnv]
    exact startT_any w' gb S N hx ni hni hnl g2 hal ((h.i.to (hw'.mono hB)).mono (Nat.le_trans hB hw'.size))
  have HAT := hidden h
  have HTR := hidden ht
  have hlen := ht.len
  have HNV := hidden hnv
  have HNI := hidden hni
  have hnvs : nv ≤ 22000000000000 := by omega
  have hnvl : 2 + ni + N.init.length ≤ nv := by omega
  clear hsg hin i0 i1
  unfold NtS.cells at *
  clear hok hni hnv hnt ht
  obtain ⟨ib, hib, hzb, hsb, hbb⟩ := info_sl
  have HI := hidden hib
  have HZ := hidden hzb
  have HS := hidden hsb
  have HBY := hidden hbb
  clear hib hzb hsb hbb
  have hmkb : ib.bytes * trs.length ≤ 281474976710656 := by rw [HBY.out]; omega
  have hmx : trs.length ≤ maxLen := by simp only [maxLen]; omega
  go_enter Try.func15, Try.ntmps15
  go_upto_region 1 with fail
  generalize hW : World.alloc w _ = W
  have HB : Hid (Below w.heap.size w W) := by rw [← hW]; exact (Below.refl _ _).alloc (Nat.le_refl _) _
  have hN : w.heap.size < W.heap.size := by rw [← hW]; simp
  have HX : Hid (BoxAt W w.heap.size S N) := by
    rw [← hW]
    exact BoxAt.new w S N
  have HAW : Hid (NtAt B W S N) := h.to (HB.out.mono hB)
  have hBW : B ≤ W.heap.size := Nat.le_trans hB HB.out.size
  clear hW h
  have q0 := HX.out.c0
  have q1 := HX.out.c1
  have q2 := HX.out.c2
  have q3 := HX.out.c3
  have q4 := HX.out.c4
  go_wp2_with fail
  go_at_call 5
  refine (VL.out _ HB.out).mono ?_
  rintro e w1 ⟨rfl, hb1⟩
  have HB1 := hidden (HB.out.trans (hb1.mono HB.out.size))
  have HX1 : Hid (BoxAt w1 w.heap.size S N) := HX.out.to hN hb1
  clear hb1 q0 q1 q2 q3 q4 VL HX
  go_wp2_with fail
  go_at_call 20
  refine (HST.out _ _ HB1.out HX1.out).mono ?_
  rintro e w2 ⟨mk, g, rfl, hm2, hg2, hmk2, hmg, hb2⟩
  have HM2 := hidden hm2
  have HB2 := hidden (HB1.out.trans (hb2.mono HB1.out.size))
  have hw1 := HB1.out.size
  have hbx := HX1.out.lt
  have hgw : w.heap.size < g := by omega
  have hmw : w.heap.size < mk := by omega
  have hgl := HM2.out.glt
  have hml := HM2.out.mlt
  clear hm2 hb2 HST HX1
  have tok : True := trivial
  go_upto_region 5 with (have _t := tok; at_make; (refine wpList_make_full _ rfl (.tmp 13) (.tmp 13) 29 rfl w2.heap.size 22 ib _ 1 Try.underlying29 HI.out HZ.out HS.out .i64 .i64 (trs.length : Int) (trs.length : Int) trs.length rfl rfl rfl rfl hmkb hmx (Nat.le_refl _) ?_; intro V hown1 hgrow1; have HBV := hidden (none_below hgrow1); have HOM := hidden hown1; clear tok hown1 hgrow1))
  have HBV2 : Hid (Below w.heap.size w V) := HB2.out.trans (HBV.out.mono HB2.out.size)
  have HMV := hidden (HM2.out.to HBV.out)
  obtain ⟨rg, hrg⟩ : ∃ r, r = w2.heap.size := ⟨_, rfl⟩
  have HO0 : Hid (V.ownsRow rg 22 1 (.slice (some ⟨rg, 0, none⟩) trs.length trs.length) trs.length (([] : List RD).map RD.v ++ List.replicate (trs.length - 0) (.slice none 0 0))) := by
    have := HOM.out
    rw [made_nil, ← hrg] at this
    exact this
  rw [← hrg]
  have hgr : g ≠ rg := by omega
  have hmr : mk ≠ rg := by omega
  have hrw : w.heap.size < rg := by omega
  have hbr : w.heap.size ≠ rg := by omega
  have hbg : w.heap.size ≠ g := by omega
  have hVs : rg < V.heap.size := by
    have := (HO0.out.lt rg rfl).2
    exact this
  have hgV : g < V.heap.size := HMV.out.glt
  clear HOM HM2 hrg HBV HB2 HB1 hw1 hbx hgl hml hg2 hmk2
  go_wp2_with fail
  go_loopw [17] (fun i' w' => ∃ (k : Nat) (rows : List RD) (vals : List Bool), k ≤ trs.length ∧ i' = .int .i64 k ∧ Hid (rows.length = k) ∧ Hid (MkT w' mk w.heap.size g S N vals) ∧ Hid (ValsOk N nv ni vals (stT N N.init ((trs.take k).map TR.l))) ∧ Hid (w'.ownsRow rg 22 1 (.slice (some ⟨rg, 0, none⟩) trs.length trs.length) trs.length (rows.map RD.v ++ List.replicate (trs.length - k) (Value.slice none 0 0))) ∧ Hid (rows.map RD.l = runT N ((trs.take k).map TR.l) N.init) ∧ Hid (∀ r, r ∈ rows → BS w' r.v r.l ∧ ∀ x, r.v.ownBlock = some x → V.heap.size ≤ x) ∧ Hid (But V w' g rg)) (fun i' _ => trs.length - (intOf i').toNat)
  case atStart => exact ⟨0, [], _, Nat.zero_le _, rfl, rfl, HMV.out, ok_first N nv ni hnvl, HO0.out, rfl, fun r hr => (by simp at hr), But.refl _ _ _⟩
  case round =>
    obtain ⟨k, rows, vals, hk, rfl, HRN, HM, HVO, HO, HRL, HRB, HBT⟩ := hrel
    have HBr : Hid (Below w.heap.size w wr) := HBV2.out.trans (HBT.out.below HBV2.out.size (by omega) (by omega))
    by_cases hlt : k < trs.length
    · obtain ⟨t, hz⟩ := getElem_lt hlt
      obtain ⟨tb, tof, ea, htb, htc⟩ := (HTR.out.to (HBr.out.mono hB)).row.el hz
      have c0 : wr.cell? ⟨tb, tof + k, none⟩ = some (.slice t.a t.l.length t.c) := by have := htc 0 _ rfl; simpa using this
      subst ea
      have hltI : (k : Int) < (trs.length : Int) := by omega
      have e3 : IntKind.i64.wrap ((k : Int) + 1) = (k : Int) + 1 := wrapI _ (by omega) (by omega)
      obtain ⟨st, HST⟩ : ∃ st, Hid (stT N N.init ((trs.take k).map TR.l) = st) := ⟨_, rfl⟩
      have hvo := HVO.out
      rw [HST.out] at hvo
      have hsl : st.length = N.init.length := by rw [← HST.out]; exact stT_length N _ _ rfl HNXL.out
      have HNS : Hid (stT N N.init ((trs.take (k + 1)).map TR.l) = nextT N (cycT N t.l st)) := by
        show _ = _
        rw [take_next _ k t hz, List.map_append, show [t].map TR.l = [t.l] from rfl, stT_snoc, HST.out]
      have HNR : Hid (runT N ((trs.take (k + 1)).map TR.l) N.init = runT N ((trs.take k).map TR.l) N.init ++ [outT N (cycT N t.l st)]) := by
        show _ = _
        rw [take_next _ k t hz, List.map_append, show [t].map TR.l = [t.l] from rfl, runT_snoc, HST.out]
      have htm : t ∈ trs := List.mem_of_getElem? hz
      have hwr := HBr.out.size
      have HWO : Hid (Calls Try.prog 21 #[.pointer (some ⟨mk, 0, none⟩), .slice t.a t.l.length t.c] wr fun e w' => (∃ v, e = .returned v) ∧ w'.heap[g]? = some (.cells ((cycT N t.l st).map bV).toArray 4 (0, 0)) ∧ wr.grownBy w' (some g)) := by
        have := workOutT_any B wr mk w.heap.size g S N vals HM.out hmg hbg (HAT.out.to (HBr.out.mono hB)) (by omega) (Nat.le_trans hB hwr) HIN.out ni HNI.out (by rw [hvo.len, HNV.out]) hvo.two t.l t.a t.c ((HTR.out.each t htm).to (HBr.out.mono hB))
        rw [hvo.part] at this
        exact this
      have hcl : (cycT N t.l st).length = nv := by rw [cycT_length, hsl, HNV.out, HNI.out]; simp
      have hc0 := hidden (cyc_two N t.l st)
      obtain ⟨cy, HCY⟩ : ∃ c, cycT N t.l st = c := ⟨_, rfl⟩
      rw [HCY] at HWO HNS HNR hcl hc0
      have HVN : Hid (ValsOk N nv ni (splice cy (2 + ni) (nextT N cy)) (nextT N cy)) := ok_next N nv ni cy hnvl HNXL.out hcl hc0.out
      have hvl := hvo.len
      clear HCY hz htc hvo hsl HST htm
      generalize t.l.length = tl at *
      generalize t.a = tA at *
      generalize t.c = tC at *
      go_wp2_with fail
      go_at_call 21
      refine HWO.out.mono ?_
      rintro e w3 ⟨⟨vv, rfl⟩, hr3, hg3⟩
      have HM3 : Hid (MkT w3 mk w.heap.size g S N cy) := HM.out.turn hg3 hmg hbg (by rw [hcl, hvl]) hr3
      have HO3 : Hid (w3.ownsRow rg 22 1 (.slice (some ⟨rg, 0, none⟩) trs.length trs.length) trs.length (rows.map RD.v ++ List.replicate (trs.length - k) (Value.slice none 0 0))) := HO.out.kept hg3 (.inr (by show some rg ≠ some g; intro e; cases e; exact hgr rfl))
      have HR3 : Hid (∀ r, r ∈ rows → BS w3 r.v r.l ∧ ∀ x, r.v.ownBlock = some x → V.heap.size ≤ x) := fun r hr => ⟨(HRB.out r hr).1.kept hg3 (by intro x hx e; cases hx; have := (HRB.out r hr).2 _ e; omega), (HRB.out r hr).2⟩
      have HT3 : Hid (But V w3 g rg) := HBT.out.grown hg3 (by intro x hx; cases hx; exact .inl rfl)
      have HB3 : Hid (Below w.heap.size w w3) := HBV2.out.trans (HT3.out.below HBV2.out.size (by omega) (by omega))
      have hw3 := HB3.out.size
      have hV3 := HT3.out.size
      clear hr3 hg3 HWO HM HO HRB HBT HBr c0 hwr hvl
      have HTO : Hid (Calls Try.prog 22 #[.pointer (some ⟨mk, 0, none⟩), .slice S.a4 N.outs.length S.c4] w3 fun e w' => e = .returned (.slice (some ⟨w3.heap.size, 0, none⟩) N.outs.length N.outs.length) ∧ w'.ownsRow w3.heap.size 4 1 (.slice (some ⟨w3.heap.size, 0, none⟩) N.outs.length N.outs.length) N.outs.length ((outT N cy).map bV) ∧ Below w3.heap.size w3 w') :=
        toldT_any w3 mk w.heap.size g S N cy HM3.out (by rw [hcl]; simp only [huge]; omega) S.a4 S.c4 N.outs ((HAT.out.o.to (HB3.out.mono hB)).mono (Nat.le_trans hB hw3)) (by rw [hcl]; exact HOI.out) (by omega)
      have q4 := HM3.out.box.c4
      go_wp2_with fail
      go_at_call 22
      refine HTO.out.mono ?_
      rintro e w4 ⟨rfl, ho4, hb4⟩
      obtain ⟨nb, hnb⟩ : ∃ n, n = w3.heap.size := ⟨_, rfl⟩
      rw [← hnb] at ho4 ⊢
      have HM4 := hidden (HM3.out.to hb4)
      have HO4 := hidden (own_below HO3.out hb4)
      have HN4 : Hid (BS w4 (.slice (some ⟨nb, 0, none⟩) N.outs.length N.outs.length) (outT N cy)) := BS.of ho4
      have HR4 : Hid (∀ r, r ∈ rows ++ [RD.mk (.slice (some ⟨nb, 0, none⟩) N.outs.length N.outs.length) (outT N cy)] → BS w4 r.v r.l ∧ ∀ x, r.v.ownBlock = some x → V.heap.size ≤ x) := by
        intro r hr
        rcases List.mem_append.1 hr with hr | hr
        · exact ⟨(HR3.out r hr).1.to hb4, (HR3.out r hr).2⟩
        · rw [List.mem_singleton.1 hr]
          refine ⟨HN4.out, fun x hx => ?_⟩
          have : nb = x := by cases hx; rfl
          omega
      have HT4 : Hid (But V w4 g rg) := HT3.out.grown (grown_of_below hb4) (by intro x hx; cases hx)
      clear q4 ho4 hb4 HTO HM3 HO3 HR3 HT3 hV3 hnb
      have hcl4 := HO4.out.cellAt k (by omega)
      have hfz4 := HO4.out.frozenAt k
      have hold4 : ∃ old, w4.cell? ⟨rg, k, none⟩ = some old := by
        rw [hcl4]
        have hL : k < (rows.map RD.v ++ List.replicate (trs.length - k) (Value.slice none 0 0)).length := by simp; have := HRN.out; omega
        exact ⟨_, List.getElem?_eq_getElem hL⟩
      obtain ⟨old4, hold4⟩ := hold4
      have HST4 := hidden (HO4.out.stored k (.slice (some ⟨nb, 0, none⟩) N.outs.length N.outs.length))
      have HNX : Hid ((rows.map RD.v ++ List.replicate (trs.length - k) (Value.slice none 0 0)).set k (.slice (some ⟨nb, 0, none⟩) N.outs.length N.outs.length) = (rows ++ [RD.mk (.slice (some ⟨nb, 0, none⟩) N.outs.length N.outs.length) (outT N cy)]).map RD.v ++ List.replicate (trs.length - (k + 1)) (Value.slice none 0 0)) := by
        show _ = _
        have hkl : (rows.map RD.v).length = k := by rw [List.length_map]; exact HRN.out
        rw [show trs.length - k = (trs.length - (k + 1)) + 1 by omega, List.replicate_succ, ← hkl, set_mid, hkl]
        simp
      clear hcl4 HO4
      go_wp2_with fail
      generalize hW5 : World.setCell w4 _ _ = w5
      rw [hW5] at HST4
      have HG5 := hidden HST4.out.2
      have HM5 : Hid (MkT w5 mk w.heap.size g S N cy) := HM4.out.other HG5.out hmr hbr hgr
      have HO5 : Hid (w5.ownsRow rg 22 1 (.slice (some ⟨rg, 0, none⟩) trs.length trs.length) trs.length ((rows ++ [RD.mk (.slice (some ⟨nb, 0, none⟩) N.outs.length N.outs.length) (outT N cy)]).map RD.v ++ List.replicate (trs.length - (k + 1)) (Value.slice none 0 0))) := by
        have := HST4.out.1
        rw [HNX.out] at this
        exact this
      have HR5 : Hid (∀ r, r ∈ rows ++ [RD.mk (.slice (some ⟨nb, 0, none⟩) N.outs.length N.outs.length) (outT N cy)] → BS w5 r.v r.l ∧ ∀ x, r.v.ownBlock = some x → V.heap.size ≤ x) := fun r hr => ⟨(HR4.out r hr).1.kept HG5.out (by intro x hx e; cases hx; have := (HR4.out r hr).2 _ e; omega), (HR4.out r hr).2⟩
      have HT5 : Hid (But V w5 g rg) := HT4.out.grown HG5.out (by intro x hx; cases hx; exact .inr (.inl rfl))
      have HB5 : Hid (Below w.heap.size w w5) := HBV2.out.trans (HT5.out.below HBV2.out.size (by omega) (by omega))
      have hw5 := HB5.out.size
      clear hW5 HST4 HG5 HM4 HR4 HT4 HN4 hold4 hfz4 HNX HB3 hw3
      have HCK : Hid (Calls Try.prog 23 #[.pointer (some ⟨mk, 0, none⟩)] w5 fun e w' => (∃ v, e = .returned v) ∧ w'.heap[g]? = some (.cells ((splice cy (2 + ni) (nextT N cy)).map bV).toArray 4 (0, 0)) ∧ w5.grownBy w' (some g)) :=
        clockT_any w5 mk w.heap.size g S N cy HM5.out hmg hbg ni HNI.out hnl g2 HNXL.out (by rw [hcl]; exact hnvl) (by rw [hcl]; exact hnvs) ((HAT.out.n.to (HB5.out.mono hB)).mono (Nat.le_trans hB hw5)) (by rw [hcl]; exact HLI.out)
      go_at_call 23
      refine HCK.out.mono ?_
      rintro e w6 ⟨⟨vv2, rfl⟩, hr6, hg6⟩
      have HM6 : Hid (MkT w6 mk w.heap.size g S N (splice cy (2 + ni) (nextT N cy))) := HM5.out.turn hg6 hmg hbg (by rw [HVN.out.len, hcl]) hr6
      have HO6 : Hid (w6.ownsRow rg 22 1 (.slice (some ⟨rg, 0, none⟩) trs.length trs.length) trs.length ((rows ++ [RD.mk (.slice (some ⟨nb, 0, none⟩) N.outs.length N.outs.length) (outT N cy)]).map RD.v ++ List.replicate (trs.length - (k + 1)) (Value.slice none 0 0))) := HO5.out.kept hg6 (.inr (by show some rg ≠ some g; intro e; cases e; exact hgr rfl))
      have HR6 : Hid (∀ r, r ∈ rows ++ [RD.mk (.slice (some ⟨nb, 0, none⟩) N.outs.length N.outs.length) (outT N cy)] → BS w6 r.v r.l ∧ ∀ x, r.v.ownBlock = some x → V.heap.size ≤ x) := fun r hr => ⟨(HR5.out r hr).1.kept hg6 (by intro x hx e; cases hx; have := (HR5.out r hr).2 _ e; omega), (HR5.out r hr).2⟩
      have HT6 : Hid (But V w6 g rg) := HT5.out.grown hg6 (by intro x hx; cases hx; exact .inl rfl)
      have HL6 : Hid ((rows ++ [RD.mk (.slice (some ⟨nb, 0, none⟩) N.outs.length N.outs.length) (outT N cy)]).map RD.l = runT N ((trs.take (k + 1)).map TR.l) N.init) := by
        show _ = _
        rw [List.map_append, HNR.out, HRL.out]; rfl
      have HV6 : Hid (ValsOk N nv ni (splice cy (2 + ni) (nextT N cy)) (stT N N.init ((trs.take (k + 1)).map TR.l))) := by
        show ValsOk _ _ _ _ _
        rw [HNS.out]; exact HVN.out
      have HN6 : Hid ((rows ++ [RD.mk (.slice (some ⟨nb, 0, none⟩) N.outs.length N.outs.length) (outT N cy)]).length = k + 1) := by show _ = _; rw [List.length_append, HRN.out]; rfl
      clear hr6 hg6 HCK HM5 HO5 HR5 HT5 HB5 HRL HNR HNS HVN HRN HVO
      generalize splice cy (2 + ni) (nextT N cy) = vals6 at *
      go_wp2
      go_roundw
      case measure => simp [intOf]; omega
      case rel => exact ⟨k + 1, _, vals6, by omega, by simp, HN6.out, HM6.out, HV6.out, HO6.out, HL6.out, HR6.out, HT6.out⟩
    · have hge : ¬ ((k : Int) < (trs.length : Int)) := by omega
      have HO7 : Hid (wr.ownsRow rg 22 1 (.slice (some ⟨rg, 0, none⟩) trs.length trs.length) trs.length (rows.map RD.v)) := by
        have := HO.out
        rw [show trs.length - k = 0 by omega] at this
        show World.ownsRow _ _ _ _ _ _ _
        simpa using this
      have HL7 : Hid (rows.map RD.l = runT N (trs.map TR.l) N.init) := by
        have := HRL.out
        rwa [List.take_of_length_le (by omega)] at this
      clear HO HRL
      go_wp2
      go_ret
      exact ⟨_, rfl, rows, own_mono HO7.out (by omega), HL7.out, fun r hr => (HRB.out r hr).1, HBr.out⟩


end Go.Proofs.Ytcmfiamejncboaa
