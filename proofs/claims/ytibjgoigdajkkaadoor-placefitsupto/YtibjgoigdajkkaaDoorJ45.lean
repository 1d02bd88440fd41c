import Derived.Test.YtibjgoigdajkkaaDoorJ41
namespace Go.Proofs.YtibjgoigdajkkaaDoor
open Go.RowKit

set_option maxRecDepth 100000 in
set_option maxHeartbeats 8000000 in
theorem laid_any (D : PnS) (T : PnT) (w : World) (h : PlAt D w T) (B : Nat) (S : NtS) (N : NtD) (hN : NtAt B w S N) (hB : B ≤ w.heap.size) (hx : BoxAt w D.nb S N) (hin : NtIn N) (ni si nr rr so rows : Nat) (hP : PlNet D N ni nr) (hG : Good D T) (hsp : spreadB D T = true) (hsi : D.sh.ins = si) (hrr : D.sh.regs = rr) (hso : D.sh.outs = so) (hrw : D.sh.rows = rows) (h1 : ni ≤ si) (h2 : nr ≤ rr) (h3 : N.outs.length ≤ so) (h4 : si ≤ 500) (h5 : rr ≤ 500) (h6 : so ≤ 500) (hsgs : N.sigs ≤ 4000000) :
    Calls Tryd.prog 21 #[.pointer (some ⟨D.pb, 0, none⟩)] w fun e w' => ∃ (SC : CnS) (M : CnD), e = .returned (.agg (SC.cells M)) ∧ (∀ v : World, w'.heap.size ≤ v.heap.size → (∀ k, w.heap.size ≤ k → k < w'.heap.size → v.heap[k]? = w'.heap[k]?) → CnAt v.heap.size v SC M) ∧ LaidP D T N ni si nr rr so rows M ∧ Below w.heap.size w w' := by
  have p1 := h.bs.c1
  have p2 : w.cell? ⟨D.pb, 2, none⟩ = some (.int .i64 D.sh.outs) := h.bs.pl.cell (i := 2) rfl
  have p3 : w.cell? ⟨D.pb, 3, none⟩ = some (.int .i64 D.sh.regs) := h.bs.pl.cell (i := 3) rfl
  have p4 := h.bs.c4
  have p5 := h.bs.c5
  have hcc := h.bs.cc
  rw [hsi] at p1
  rw [hso] at p2
  rw [hrr] at p3
  rw [hrw] at p4
  rw [hcc.1] at p5
  obtain ⟨pb, Epb⟩ := exh D.pb
  obtain ⟨cc, Ecc⟩ := exh D.cc
  rw [← Epb.out] at p1 p2 p3 p4 p5
  rw [← Ecc.out] at p5
  rw [← Epb.out]
  have hpl := World.block_lt_of_cell? w _ p1
  have HH := hidden h
  have HN := hidden hN
  have HX := hidden hx
  have HIN := hidden hin
  have HP := hidden hP
  have HG := hidden hG
  have HSP := hidden hsp
  have HCC := hidden hcc
  clear h hN hx hin hP hG hsp hcc
  go_enter Tryd.func21, Tryd.ntmps21
  go_upto_region 2 with fail
  obtain ⟨rb, Erb⟩ := exh w.heap.size
  obtain ⟨sb, Esb⟩ := exh (w.heap.size + 1)
  rw [← Esb.out, ← Erb.out]
  have ha1 : Below w.heap.size w (w.alloc (.cells #[.int .i64 0, .int .i64 0, .int .i64 0, .int .i64 0, .int .i64 0, .slice none 0 0, .slice none 0 0, .slice none 0 0] 36)) := (Below.refl _ _).alloc (Nat.le_refl _) _
  have ha2 : Below (w.alloc (.cells #[.int .i64 0, .int .i64 0, .int .i64 0, .int .i64 0, .int .i64 0, .slice none 0 0, .slice none 0 0, .slice none 0 0] 36)).heap.size (w.alloc (.cells #[.int .i64 0, .int .i64 0, .int .i64 0, .int .i64 0, .int .i64 0, .slice none 0 0, .slice none 0 0, .slice none 0 0] 36)) ((w.alloc (.cells #[.int .i64 0, .int .i64 0, .int .i64 0, .int .i64 0, .int .i64 0, .slice none 0 0, .slice none 0 0, .slice none 0 0] 36)).alloc (.cells #[.int .i64 (si : Int), .int .i64 (so : Int), .int .i64 (rr : Int), .int .i64 (rows : Int), .int .i64 (cc : Int)] 28)) := (Below.refl _ _).alloc (Nat.le_refl _) _
  have HBR : Hid (Blk ((w.alloc (.cells #[.int .i64 0, .int .i64 0, .int .i64 0, .int .i64 0, .int .i64 0, .slice none 0 0, .slice none 0 0, .slice none 0 0] 36)).alloc (.cells #[.int .i64 (si : Int), .int .i64 (so : Int), .int .i64 (rr : Int), .int .i64 (rows : Int), .int .i64 (cc : Int)] 28)) rb 36 #[.int .i64 0, .int .i64 0, .int .i64 0, .int .i64 0, .int .i64 0, .slice none 0 0, .slice none 0 0, .slice none 0 0]) := by
    rw [Erb.out]; exact (Blk.new w 36 _).below ha2
  have HBS : Hid (Blk ((w.alloc (.cells #[.int .i64 0, .int .i64 0, .int .i64 0, .int .i64 0, .int .i64 0, .slice none 0 0, .slice none 0 0, .slice none 0 0] 36)).alloc (.cells #[.int .i64 (si : Int), .int .i64 (so : Int), .int .i64 (rr : Int), .int .i64 (rows : Int), .int .i64 (cc : Int)] 28)) sb 28 #[.int .i64 (si : Int), .int .i64 (so : Int), .int .i64 (rr : Int), .int .i64 (rows : Int), .int .i64 (cc : Int)]) := by
    have e : sb = (w.alloc (.cells #[.int .i64 0, .int .i64 0, .int .i64 0, .int .i64 0, .int .i64 0, .slice none 0 0, .slice none 0 0, .slice none 0 0] 36)).heap.size := by rw [Esb.out]; simp
    rw [e]; exact Blk.new _ _ _
  have HB1 : Hid (Below w.heap.size w ((w.alloc (.cells #[.int .i64 0, .int .i64 0, .int .i64 0, .int .i64 0, .int .i64 0, .slice none 0 0, .slice none 0 0, .slice none 0 0] 36)).alloc (.cells #[.int .i64 (si : Int), .int .i64 (so : Int), .int .i64 (rr : Int), .int .i64 (rows : Int), .int .i64 (cc : Int)] 28))) := ha1.trans (ha2.mono ha1.size)
  clear ha1 ha2 p1 p2 p3 p4 p5
  generalize (w.alloc (.cells #[.int .i64 0, .int .i64 0, .int .i64 0, .int .i64 0, .int .i64 0, .slice none 0 0, .slice none 0 0, .slice none 0 0] 36)).alloc (.cells #[.int .i64 (si : Int), .int .i64 (so : Int), .int .i64 (rr : Int), .int .i64 (rows : Int), .int .i64 (cc : Int)] 28) = w1 at *
  have hsl := HBS.out.lt
  have s0 := HBS.out.cell (i := 0) rfl
  have s1 := HBS.out.cell (i := 1) rfl
  have s2 := HBS.out.cell (i := 2) rfl
  have s3 := HBS.out.cell (i := 3) rfl
  have s4 := HBS.out.cell (i := 4) rfl
  have hw1 := HB1.out.size
  rename_i K1 hK1
  have HKK : Hid (∀ (gA_ gR gO cb : Nat) (w2 : World), Hid (LdAt w2 w.heap.size rb cb gA_ gR gO cc rr so ⟨(si : Int), (so : Int), (rr : Int), (rows : Int), (cc : Int)⟩ (colF (fun _ => 0) rows 0) (regK (regF D T N ni si nr) 0) (outK (outF D T N ni si nr) 0)) → Hid (Below w.heap.size w w2) → K1 ⟨#[.pointer (some ⟨pb, 0, none⟩), undef, .pointer (some ⟨rb, 0, none⟩), .pointer (some ⟨sb, 0, none⟩), .pointer (some ⟨cb, 0, none⟩), undef, undef, undef, undef, undef, undef, undef, .pointer (some ⟨pb, 0, none⟩), .pointer (some ⟨pb, 0, none⟩), .pointer (some ⟨pb, 1, none⟩), .agg #[.int .i64 (si : Int), .int .i64 (so : Int), .int .i64 (rr : Int), .int .i64 (rows : Int), .int .i64 (cc : Int)], .agg #[.int .i64 (si : Int), .int .i64 (so : Int), .int .i64 (rr : Int), .int .i64 (rows : Int), .int .i64 (cc : Int)], .pointer (some ⟨sb, 4, none⟩), .int .i64 (cc : Int), .slice (some ⟨gA_, 0, none⟩) cc cc, .pointer (some ⟨sb, 2, none⟩), .int .i64 (rr : Int), .slice (some ⟨gR, 0, none⟩) rr rr, .pointer (some ⟨sb, 1, none⟩), .int .i64 (so : Int), .slice (some ⟨gO, 0, none⟩) so so, .agg #[.int .i64 (si : Int), .int .i64 (so : Int), .int .i64 (rr : Int), .int .i64 (rows : Int), .int .i64 (cc : Int), .slice (some ⟨gA_, 0, none⟩) cc cc, .slice (some ⟨gR, 0, none⟩) rr rr, .slice (some ⟨gO, 0, none⟩) so so], undef, undef, undef, undef, undef, undef, undef, undef, undef, undef, undef, undef, undef, undef, undef, undef, undef, undef, undef, undef, undef, undef, undef, undef, undef, undef, undef, undef, undef, undef, undef, undef, undef, undef, undef, undef, undef, undef, undef, undef, undef, undef, undef, undef, undef, undef, undef, undef, undef, undef, undef, undef, undef, undef, undef, undef, undef, undef, undef, undef, undef, undef, undef, undef, undef, undef, undef, undef, undef, undef, undef, undef, undef, undef, undef, undef, undef], []⟩ w2) := fun gA_ gR gO cb w2 HLD HB2 => by
    refine hK1 _ _ ?_
    clear hK1 HBR HBS HB1 hsl s0 s1 s2 s3 s4 hw1
    obtain ⟨nb, Enb⟩ := exh D.nb
    have HSH : Hid (D.sh = ⟨(si : Int), (so : Int), (rr : Int), (rows : Int), (cc : Int)⟩) := by
      have h5' : D.sh.cols = (cc : Int) := by rw [Ecc.out]; exact HCC.out.1
      show _ = _
      rcases hd : D.sh with ⟨a, b, c, d, e⟩
      rw [hd] at hsi hso hrr hrw h5'
      simp only at hsi hso hrr hrw h5'
      rw [hsi, hso, hrr, hrw, h5']
    have hcc9 : cc ≤ 100 := by rw [Ecc.out]; exact HCC.out.2.2
    have hrb2 : rows ≤ 500 := by have := HH.out.bs.rw_; rw [hrw] at this; omega
    have HSR := hidden (sources_any D T w2 (HH.out.below HB2.out) S N (HX.out.to HX.out.lt HB2.out) ni nr si HP.out.ins HP.out.init hsi (by omega) (by omega) h4)
    rw [← Epb.out] at HSR
    go_wp2_with fail
    go_at_call 43
    refine HSR.out.mono ?_
    rintro e w3 ⟨rfl, hm3, hb3⟩
    obtain ⟨m0, Em0⟩ := exh w2.heap.size
    rw [← Em0.out] at hm3
    rw [← Em0.out]
    have HM3 : Hid (MAt w3 m0 (2 + ni + nr) (whF D T ni si nr 0)) := hm3
    have HB3 := hidden (HB2.out.trans (hb3.mono HB2.out.size))
    have HL3 := hidden (HLD.out.below hb3)
    clear hm3 hb3 HSR
    have HHE := hidden (held_any D T w3 (HH.out.below HB3.out))
    rw [← Epb.out, ← Ecc.out] at HHE
    go_wp2_with fail
    go_at_call 44
    refine HHE.out.mono ?_
    rintro e w4 ⟨rfl, ⟨vs, hd4⟩, hb4⟩
    obtain ⟨hb, Ehb⟩ := exh w3.heap.size
    rw [← Ehb.out] at hd4
    rw [← Ehb.out]
    have HD4 := hidden hd4
    have HM4 := hidden (HM3.out.heap (hb4.block m0 HM3.out.lt))
    have HB4 := hidden (HB3.out.trans (hb4.mono HB3.out.size))
    have HL4 := hidden (HL3.out.below hb4)
    have hA3 := HL3.out.cols.lt
    rw [← Ehb.out] at hA3
    clear hd4 hb4 HHE HM3 HB3 HL3 HLD HB2
    go_wp2_with fail
    go_loopw [5, 6, 7, 32] (fun f' _ _ i' w' => ∃ (c mb mm : Nat) (blk : Nat → Nat), c ≤ cc ∧ i' = .int .i64 (c : Int) ∧ f' = .map (some mb) ∧ Hid (MAt w' mb mm (whF D T ni si nr c)) ∧ Hid (LdAt w' w.heap.size rb cb gA_ gR gO cc rr so ⟨(si : Int), (so : Int), (rr : Int), (rows : Int), (cc : Int)⟩ (colF blk rows c) (regK (regF D T N ni si nr) 0) (outK (outF D T N ni si nr) 0)) ∧ Hid (∀ j, j < c → gA_ < blk j ∧ CeAt w' (blk j) rows (rowC D T N (whF D T ni si nr j) j (heldK D T D.n j) (heldK D T D.n j).length)) ∧ Hid (Kp [gA_] w4 w')) (fun _ _ _ i' _ => cc - (intOf i').toNat)
    case atStart => exact ⟨0, m0, _, _, Nat.zero_le _, rfl, rfl, HM4.out, HL4.out, fun j hj => absurd hj (by omega), Kp.refl _ _⟩
    case round =>
      clear HM4 HL4
      obtain ⟨c, mb, mm, blk, hc, rfl, rfl, HM, HL, HCE, HKP⟩ := hrel
      have hgA := HL.out.ge
      have HBW : Hid (Below w.heap.size w wr) := HB4.out.trans (HKP.out.below (fun g hg => by rw [List.mem_singleton.1 hg]; exact hgA.2.2.1) HB4.out.size)
      by_cases hlt : c < cc
      · have hltI : (c : Int) < (cc : Int) := by omega
        have e2 : IntKind.i64.wrap ((c : Int) + 1) = (c : Int) + 1 := wrapI _ (by omega) (by omega)
        have hcD : c < D.cc := by rw [← Ecc.out]; exact hlt
        have hrow := HD4.out.rw_ c hlt
        obtain ⟨la, lc, hvs, -, hrw4⟩ := own_nats hrow
        have hcv : wr.cell? ⟨hb, c, none⟩ = some (.slice la (heldK D T D.n c).length lc) := by
          rw [← hvs]
          exact HKP.out.cell (HD4.out.bk.cell (tab_get hlt)) HD4.out.bk.lt (by simp; omega)
        have HRW : Hid (∀ k x, (heldK D T D.n c)[k]? = some x → ∃ b o, la = some ⟨b, o, none⟩ ∧ b < wr.heap.size ∧ wr.cell? ⟨b, o + k, none⟩ = some (.int .i64 (x : Nat))) := fun k x hk => by
          obtain ⟨b, o, q1, q2, q3⟩ := hrw4 k x hk
          have hbh := (own_lt hrow (g := b) (by rw [hvs, q1]; rfl)).1
          exact ⟨b, o, q1, Nat.lt_of_lt_of_le q2 HKP.out.size, HKP.out.cell q3 q2 (by simp; omega)⟩
        have hl5 := good_rows HG.out HCC.out.2.1 HSP.out hrw hcD
        have HCL := hidden (cells_any D T wr.drew (HH.out.below (Below.drew HBW.out)) B S N (HN.out.to ((Below.drew HBW.out).mono hB)) (Nat.le_trans hB HBW.out.size) (HX.out.to HX.out.lt (Below.drew HBW.out)) HIN.out rows c hrw (heldK D T D.n c) la lc hl5 HRW.out mb mm _ (HM.out.heap rfl) (good_look HP.out HG.out HIN.out HH.out.bs.insn hcD))
        have hlow : ∀ g, g ∈ [gA_] → w.heap.size ≤ g := fun g hg => by rw [List.mem_singleton.1 hg]; exact hgA.2.2.1
        have HRO : Hid (∀ v : World, Kp [gA_] wr v → Calls Tryd.prog 46 #[.pointer (some ⟨pb, 0, none⟩), .slice la (heldK D T D.n c).length lc] v fun e w' => e = .returned (.map (some v.heap.size)) ∧ MAt w' v.heap.size (2 + (heldK D T D.n c).length) (rowsK D.sig (heldK D T D.n c) (heldK D T D.n c).length) ∧ Below v.heap.size v w') := fun v hv => by
          have hbv : Below w.heap.size w v := HBW.out.trans (hv.below hlow HBW.out.size)
          rw [Epb.out]
          refine rows_any D T v (HH.out.below hbv) (fun i hi => (HP.out.sig i hi).2.2) _ la lc (fun i hi => (mem_heldK.1 hi).1) (by omega) (fun k x hk => ?_)
          obtain ⟨b, o, q1, q2, q3⟩ := HRW.out k x hk
          have hbh := (own_lt hrow (g := b) (by rw [hvs, q1]; rfl)).1
          exact ⟨b, o, q1, Nat.lt_of_lt_of_le q2 hv.size, hv.cell q3 q2 (by simp; omega)⟩
        have hNA := HL.out.ne
        have k5 : wr.cell? ⟨cb, 5, none⟩ = some (.slice (some ⟨gA_, 0, none⟩) cc cc) := HL.out.box.cell (i := 5) rfl
        rw [← Epb.out] at HCL
        obtain ⟨hl, Ehl⟩ := exh (heldK D T D.n c).length
        rw [← Ehl.out] at HCL HRO hcv
        obtain ⟨gb, Egb⟩ := exh wr.heap.size
        have hgb : gA_ < gb := by rw [Egb.out]; exact HL.out.cols.lt
        have HST : Hid (∀ w5 : World, CeAt w5 wr.heap.size rows (rowC D T N (whF D T ni si nr c) c (heldK D T D.n c) hl) → Below wr.heap.size wr.drew w5 → (∃ old, w5.cell? ⟨gA_, c, none⟩ = some old) ∧ w5.frozen? ⟨gA_, c, none⟩ = false ∧ w5.cell? ⟨cb, 5, none⟩ = some (.slice (some ⟨gA_, 0, none⟩) cc cc) ∧ (w5.setCell ⟨gA_, c, none⟩ (.slice (some ⟨gb, 0, none⟩) rows rows)).cell? ⟨cb, 5, none⟩ = some (.slice (some ⟨gA_, 0, none⟩) cc cc) ∧ Hid (LdAt (w5.setCell ⟨gA_, c, none⟩ (.slice (some ⟨gb, 0, none⟩) rows rows)) w.heap.size rb cb gA_ gR gO cc rr so ⟨(si : Int), (so : Int), (rr : Int), (rows : Int), (cc : Int)⟩ (colF (upd blk c gb) rows (c + 1)) (regK (regF D T N ni si nr) 0) (outK (outF D T N ni si nr) 0)) ∧ Hid (∀ j, j < c + 1 → gA_ < upd blk c gb j ∧ CeAt (w5.setCell ⟨gA_, c, none⟩ (.slice (some ⟨gb, 0, none⟩) rows rows)) (upd blk c gb j) rows (rowC D T N (whF D T ni si nr j) j (heldK D T D.n j) (heldK D T D.n j).length)) ∧ Hid (Kp [gA_] wr (w5.setCell ⟨gA_, c, none⟩ (.slice (some ⟨gb, 0, none⟩) rows rows)))) := fun w5 hce hb5d => by
          have hb5 : Below wr.heap.size wr w5 := (Below.drew (Below.refl _ _)).trans hb5d
          have hL5 := HL.out.below hb5
          have hbt := But.set gA_ c w5 (.slice (some ⟨gb, 0, none⟩) rows rows)
          have k5' := hL5.box.cell (i := 5) rfl
          refine ⟨⟨_, hL5.cols.cell (tab_get hlt)⟩, hL5.cols.frozen c, k5', hbt.cell k5' (fun e => hNA.2.1.1 e.symm), ?_, fun j hj => ?_, (Below.kp hb5).trans (hbt.kp (by simp))⟩
          · have := hL5.setCol c (slB gb rows)
            rw [colF_next] at this
            exact this
          · by_cases e : j = c
            · subst e
              rw [upd_same]
              refine ⟨hgb, ?_⟩
              rw [Ehl.out, ← Egb.out] at hce
              exact hbt.blk hce (by omega)
            · rw [upd_ne e]
              obtain ⟨q1, q2⟩ := HCE.out j (by omega)
              exact ⟨q1, hbt.blk (Blk.below q2 hb5) (by omega)⟩
        have HWN : Hid (whF D T ni si nr (c + 1) = rowsK D.sig (heldK D T D.n c) hl) := by show rowsK _ _ _ = _; rw [Ehl.out]
        rw [show wr.drew.heap.size = wr.heap.size from rfl] at HCL
        rw [← Egb.out] at HCL HST
        clear hrow hvs hrw4 HRW HL HCE HM hl5 hcD hNA
        go_upto_region 7 with fail
        refine wp_region_noPanic ?_
        refine wp_region_held_drew (S := fun v => v.cell? ⟨cb, 5, none⟩ = some (.slice (some ⟨gA_, 0, none⟩) cc cc)) (by kernel_rfl) (by exact k5) (fun hHeld => ?_)
        refine tk 0 ?_
        refine tk 1 ?_
        refine tk 2 ?_
        refine tk 3 ?_
        refine tk 4 ?_
        refine tk 5 ?_
        refine tk 6 ?_
        refine rd 7 fun K hK => ?_
        (try simp only [gA, gB, gC]); go_simp
        go_at_call 45
        refine HCL.out.mono ?_
        rintro e w5 ⟨rfl, hce, hb5⟩
        obtain ⟨⟨old, cold⟩, cfr, q5, q6, HL6, HC6, HK6⟩ := HST.out w5 hce hb5
        clear hce hb5 HST HCL
        go_wp2_with fail
        refine wo hK q5 fun _ => ?_
        clear hK K
        refine tk 8 ?_
        refine rd 9 fun K hK => ?_
        (try simp only [gA, gB, gC]); go_simp
        refine wo hK q6 fun _ => ?_
        clear hK K
        refine wpAnyH_done (by kernel_rfl) ?_ _
        refine NoPanic.normal ?_
        clear cold cfr q5 q6 hHeld k5
        have RO := hidden (HRO.out _ HK6.out)
        have HK7 := hidden (HKP.out.trans HK6.out)
        clear HRO HK6 HKP
        generalize w5.setCell ⟨gA_, c, none⟩ (.slice (some ⟨gb, 0, none⟩) rows rows) = w6 at *
        go_wp2_with fail
        go_at_call 46
        refine RO.out.mono ?_
        rintro e w7 ⟨rfl, hm7, hb7⟩
        obtain ⟨m7, Em7⟩ := exh w6.heap.size
        rw [← Em7.out] at hm7
        rw [← Em7.out]
        have HM7 : Hid (MAt w7 m7 (2 + hl) (whF D T ni si nr (c + 1))) := by rw [HWN.out]; exact hm7
        have HL7 := hidden (HL6.out.below hb7)
        have HC7 : Hid (∀ j, j < c + 1 → gA_ < upd blk c gb j ∧ CeAt w7 (upd blk c gb j) rows (rowC D T N (whF D T ni si nr j) j (heldK D T D.n j) (heldK D T D.n j).length)) := fun j hj => ⟨(HC6.out j hj).1, Blk.below (HC6.out j hj).2 hb7⟩
        have HK8 := hidden (HK7.out.trans (Below.kp hb7))
        clear hm7 hb7 HL6 HC6 HK7 RO
        go_wp2
        go_roundw
        case measure => simp [intOf]; omega
        case rel => exact ⟨c + 1, m7, _, upd blk c gb, by omega, by simp, rfl, HM7.out, HL7.out, HC7.out, HK8.out⟩
      · obtain rfl : c = cc := by omega
        have hge : ¬ (c : Int) < (c : Int) := by omega
        have hnr : N.init.length = nr := HP.out.init
        have hnn : N.next.length = nr := by rw [HIN.out.nl]; exact hnr
        have HNX := hidden hnn
        have HNI := hidden hnr
        clear hnn hnr
        obtain ⟨no, Eno⟩ := exh N.outs.length
        rw [← Eno.out] at h3
        have hcD : c = D.cc := Ecc.out
        have HCD := hidden hcD
        clear hcD
        obtain ⟨a3, Ea3⟩ := exh S.a3
        obtain ⟨a4, Ea4⟩ := exh S.a4
        have HHB : Hid (∀ v : World, Kp [gR, gO] wr v → Below w.heap.size w v) := fun v hv => HBW.out.trans (hv.below (fun g hg => by simp only [List.mem_cons, List.not_mem_nil, or_false] at hg; rcases hg with rfl | rfl <;> omega) HBW.out.size)
        have HNC : Hid (∀ v : World, Kp [gR, gO] wr v → v.cell? ⟨pb, 0, none⟩ = some (.pointer (some ⟨nb, 0, none⟩)) ∧ v.cell? ⟨nb, 1, none⟩ = some (.slice S.a1 nr S.c1) ∧ v.cell? ⟨nb, 3, none⟩ = some (.slice a3 nr S.c3) ∧ v.cell? ⟨nb, 4, none⟩ = some (.slice a4 no S.c4) ∧ NtAt B v S N) := fun v hv => by
          have hbv := HHB.out v hv
          have hp := HH.out.below hbv
          have hbx := HX.out.to HX.out.lt hbv
          rw [Epb.out, Enb.out, Ea3.out, Ea4.out]
          refine ⟨hp.bs.c0, ?_, ?_, ?_, HN.out.to (hbv.mono hB)⟩
          · rw [← HNI.out]; exact hbx.c1
          · rw [← HNX.out]; exact hbx.c3
          · rw [Eno.out]; exact hbx.c4
        have HMM : Hid (∀ v : World, Kp [gR, gO] wr v → MAt v mb mm (whF D T ni si nr D.cc)) := fun v hv => by
          have h0 := HM.out
          rw [HCD.out] at h0
          have hm := HM.out
          refine h0.heap (hv.block mb h0.lt ?_)
          obtain ⟨DM, ⟨es, clock, hbm, _⟩, _⟩ := hm
          simp only [List.mem_cons, List.not_mem_nil, or_false, not_or]
          refine ⟨fun e => ?_, fun e => ?_⟩
          · have q := HL.out.regs
            rw [← e] at q
            have := hbm.symm.trans q
            simp at this
          · have q := HL.out.outs
            rw [← e] at q
            have := hbm.symm.trans q
            simp at this
        obtain ⟨c0, c1, c3, c4, -⟩ := HNC.out wr (Kp.refl _ _)
        have HCE0 := HCE
        have HL0 := HL
        have HWR : Hid (∀ j, j < c → blk j ∉ [gR, gO]) := fun j hj => by
          have h1 := (HCE.out j hj).2
          simp only [List.mem_cons, List.not_mem_nil, or_false, not_or]
          exact ⟨Blk.ne h1 HL.out.regs (by decide), Blk.ne h1 HL.out.outs (by decide)⟩
        have HCG : Hid (∀ j, j < c → w.heap.size ≤ blk j) := fun j hj => by have := (HCE.out j hj).1; omega
        have HCK : Hid (∀ v : World, Kp [gR, gO] wr v → ∀ j, j < c → CeAt v (blk j) rows (rowC D T N (whF D T ni si nr j) j (heldK D T D.n j) (heldK D T D.n j).length)) := fun v hv j hj => hv.blk (HCE.out j hj).2 (HWR.out j hj)
        obtain ⟨W, EW⟩ := exh wr
        rw [← EW.out] at HHB HNC HMM HCK
        clear HM HCE HKP HWR HCE0
        go_wp2_with fail
        clear c0 c1 c3 c4
        go_loopw [8, 9, 58] (fun _ _ i' w' => ∃ k : Nat, k ≤ nr ∧ i' = .int .i64 (k : Int) ∧ Hid (LdAt w' w.heap.size rb cb gA_ gR gO c rr so ⟨(si : Int), (so : Int), (rr : Int), (rows : Int), (c : Int)⟩ (colF blk rows c) (regK (regF D T N ni si nr) k) (outK (outF D T N ni si nr) 0)) ∧ Hid (Kp [gR, gO] W w')) (fun _ _ i' _ => nr - (intOf i').toNat)
        case atStart => exact ⟨0, Nat.zero_le _, rfl, HL0.out, by rw [EW.out]; exact Kp.refl _ _⟩
        case round =>
          clear HL0 HL HBW
          obtain ⟨k, hk, rfl, HL, HKP⟩ := hrel
          by_cases hlt2 : k < nr
          · have hltI : (k : Int) < (nr : Int) := by omega
            have e2 : IntKind.i64.wrap ((k : Int) + 1) = (k : Int) + 1 := wrapI _ (by omega) (by omega)
            obtain ⟨c0, c1, c3, c4, hnt⟩ := HNC.out wr HKP.out
            obtain ⟨s, hs⟩ := getElem_lt (show k < N.next.length by rw [HNX.out]; exact hlt2)
            obtain ⟨ib, hib⟩ := getElem_lt (show k < N.init.length by rw [HNI.out]; exact hlt2)
            obtain ⟨b1, o1, ea1, _, cs⟩ := hnt.n.int hs
            obtain ⟨b2, o2, ea2, _, ci⟩ := rowB hnt.i hib
            have hsb := HIN.out.ni s (List.mem_of_getElem? hs)
            obtain ⟨y, hy⟩ := good_ends (si := si) HP.out HG.out HIN.out s (Or.inr (List.mem_of_getElem? hs))
            have HMW := hidden (HMM.out wr HKP.out)
            have hlkd : (Instr.lookup 84 (.map (some mb)) (.int .i64 s) false).run Tryd.prog wr.drew = .ok (.int .i64 y) wr.drew := (HMW.out.heap (w' := wr.drew) rfl).look (k := s) (wf64 (by omega) (by omega)) hy
            have HRK : Hid (upd (regK (regF D T N ni si nr) k) k ⟨y, ib⟩ = regK (regF D T N ni si nr) (k + 1)) := by
              show _ = _
              rw [← regK_next]
              congr 1
              unfold regF
              rw [if_pos hlt2, getD_of hs, getD_of hib]
              unfold whr
              rw [hy]; rfl
            have k6 : wr.cell? ⟨cb, 6, none⟩ = some (.slice (some ⟨gR, 0, none⟩) rr rr) := HL.out.box.cell (i := 6) rfl
            have hkr : k < rr := by omega
            have hkrI : (k : Int) < (rr : Int) := by omega
            have g0 := HL.out.regs.cell (tab_get (show k * 2 < rr * 2 by omega))
            have g1 := (HL.out.regs.set (k * 2) (.int .i64 y)).cell (i := k * 2 + 1) (by rw [tab_set]; exact tab_get (by omega))
            have gf0 := HL.out.regs.frozen (k * 2)
            have gf1 := (HL.out.regs.set (k * 2) (.int .i64 y)).frozen (k * 2 + 1)
            generalize rgF (regK (regF D T N ni si nr) k) (k * 2) = z0 at g0
            generalize upd _ _ _ (k * 2 + 1) = z1 at g1
            have HL2 := hidden (HL.out.setReg k y ib)
            rw [HRK.out] at HL2
            have hbt : But gR wr ((wr.setCell ⟨gR, k * 2, none⟩ (.int .i64 y)).setCell ⟨gR, k * 2 + 1, none⟩ (.bool ib)) := (But.set gR (k * 2) wr _).trans (But.set gR (k * 2 + 1) _ _)
            have HK2 : Hid (Kp [gR, gO] W ((wr.setCell ⟨gR, k * 2, none⟩ (.int .i64 y)).setCell ⟨gR, k * 2 + 1, none⟩ (.bool ib))) := HKP.out.trans (hbt.kp (by simp))
            obtain ⟨c0', c1', _, _, hnt'⟩ := HNC.out _ HK2.out
            obtain ⟨b3, o3, ea3, _, ci'⟩ := rowB hnt'.i hib
            have e3 : (some ⟨b3, o3, none⟩ : Option Addr) = some ⟨b2, o2, none⟩ := ea3.symm.trans ea2
            simp only [Option.some.injEq, Addr.mk.injEq, and_true] at e3
            obtain ⟨rfl, rfl⟩ := e3
            have k6' : ((wr.setCell ⟨gR, k * 2, none⟩ (.int .i64 y)).setCell ⟨gR, k * 2 + 1, none⟩ (.bool ib)).cell? ⟨cb, 6, none⟩ = some (.slice (some ⟨gR, 0, none⟩) rr rr) := HL2.out.box.cell (i := 6) rfl
            have hlk2 : (Instr.lookup 84 (.map (some mb)) (.int .i64 s) false).run Tryd.prog ((wr.setCell ⟨gR, k * 2, none⟩ (.int .i64 y)).setCell ⟨gR, k * 2 + 1, none⟩ (.bool ib)).drew = .ok (.int .i64 y) ((wr.setCell ⟨gR, k * 2, none⟩ (.int .i64 y)).setCell ⟨gR, k * 2 + 1, none⟩ (.bool ib)).drew := ((HMM.out _ HK2.out).heap (w' := ((wr.setCell ⟨gR, k * 2, none⟩ (.int .i64 y)).setCell ⟨gR, k * 2 + 1, none⟩ (.bool ib)).drew) rfl).look (k := s) (wf64 (by omega) (by omega)) hy
            rw [← Ea3.out] at ea1
            rw [ea2] at c1 c1'
            have HSE : Hid (((wr.setCell ⟨gR, k * 2, none⟩ (.int .i64 y)).setCell ⟨gR, k * 2 + 1, none⟩ (.bool ib)).drew.cell? ⟨cb, 6, none⟩ = some (.slice (some ⟨gR, 0, none⟩) rr rr) ∧ (Instr.lookup 84 (.map (some mb)) (.int .i64 s) false).run Tryd.prog ((wr.setCell ⟨gR, k * 2, none⟩ (.int .i64 y)).setCell ⟨gR, k * 2 + 1, none⟩ (.bool ib)).drew = .ok (.int .i64 y) ((wr.setCell ⟨gR, k * 2, none⟩ (.int .i64 y)).setCell ⟨gR, k * 2 + 1, none⟩ (.bool ib)).drew ∧ ((wr.setCell ⟨gR, k * 2, none⟩ (.int .i64 y)).setCell ⟨gR, k * 2 + 1, none⟩ (.bool ib)).drew.cell? ⟨pb, 0, none⟩ = some (.pointer (some ⟨nb, 0, none⟩)) ∧ ((wr.setCell ⟨gR, k * 2, none⟩ (.int .i64 y)).setCell ⟨gR, k * 2 + 1, none⟩ (.bool ib)).drew.cell? ⟨nb, 1, none⟩ = some (.slice (some ⟨b3, o3, none⟩) nr S.c1) ∧ ((wr.setCell ⟨gR, k * 2, none⟩ (.int .i64 y)).setCell ⟨gR, k * 2 + 1, none⟩ (.bool ib)).drew.cell? ⟨b3, o3 + k, none⟩ = some (.bool ib)) := ⟨k6', hlk2, c0', c1', ci'⟩
            clear hs hib hy HRK HL HKP hnt hnt' HMW c0' c1' ci' k6' hlk2 hbt ea3
            subst ea1
            go_upto_region 13 with fail
            refine wp_region_noPanic ?_
            refine wp_region_held_drew (S := fun v => v.cell? ⟨cb, 6, none⟩ = some (.slice (some ⟨gR, 0, none⟩) rr rr) ∧ (Instr.lookup 84 (.map (some mb)) (.int .i64 s) false).run Tryd.prog v = .ok (.int .i64 y) v ∧ v.cell? ⟨pb, 0, none⟩ = some (.pointer (some ⟨nb, 0, none⟩)) ∧ v.cell? ⟨nb, 1, none⟩ = some (.slice (some ⟨b3, o3, none⟩) nr S.c1) ∧ v.cell? ⟨b3, o3 + k, none⟩ = some (.bool ib)) (by kernel_rfl) (by exact ⟨k6, hlkd, c0, c1, ci⟩) (fun hHeld => ?_)
            refine tk 0 ?_
            refine tk 1 ?_
            refine tk 2 ?_
            refine tk 3 ?_
            refine tk 4 ?_
            refine tk 5 ?_
            refine tk 6 ?_
            refine tk 7 ?_
            refine tk 8 ?_
            refine tk 9 ?_
            refine tk 10 ?_
            refine tk 11 ?_
            refine tk 12 ?_
            refine tk 13 ?_
            refine tk 14 ?_
            refine tk 15 ?_
            refine tk 16 ?_
            refine tk 17 ?_
            refine rd 18 fun K hK => ?_
            (try simp only [gA, gB, gC]); go_simp
            refine wo hK HSE.out fun _ => ?_
            clear hK K
            refine wpAnyH_done (by kernel_rfl) ?_ _
            refine NoPanic.normal ?_
            clear hHeld HSE g0 g1 gf0 gf1 k6 c0 c1 cs ci hlkd c3 c4
            have HL3 : Hid (LdAt ((wr.setCell ⟨gR, k * 2, none⟩ (.int .i64 y)).setCell ⟨gR, k * 2 + 1, none⟩ (.bool ib)).drew w.heap.size rb cb gA_ gR gO c rr so ⟨(si : Int), (so : Int), (rr : Int), (rows : Int), (c : Int)⟩ (colF blk rows c) (regK (regF D T N ni si nr) (k + 1)) (outK (outF D T N ni si nr) 0)) := HL2.out.below (Below.drew (Below.refl _ _))
            have HK3 : Hid (Kp [gR, gO] W ((wr.setCell ⟨gR, k * 2, none⟩ (.int .i64 y)).setCell ⟨gR, k * 2 + 1, none⟩ (.bool ib)).drew) := HK2.out.drew
            clear HL2 HK2
            generalize ((wr.setCell ⟨gR, k * 2, none⟩ (.int .i64 y)).setCell ⟨gR, k * 2 + 1, none⟩ (.bool ib)).drew = w9 at *
            go_wp2
            go_roundw
            case measure => simp [intOf]; omega
            case rel => exact ⟨k + 1, by omega, by simp, HL3.out, HK3.out⟩
          · obtain rfl : k = nr := by omega
            have hge2 : ¬ (k : Int) < (k : Int) := by omega
            obtain ⟨c0, c1, c3, c4, -⟩ := HNC.out wr HKP.out
            have HL0 := HL
            have HK0 := HKP
            clear HL HKP
            go_wp2_with fail
            clear c0 c1 c3 c4
            go_loopw [10, 11, 90] (fun _ _ i' w' => ∃ m : Nat, m ≤ no ∧ i' = .int .i64 (m : Int) ∧ Hid (LdAt w' w.heap.size rb cb gA_ gR gO c rr so ⟨(si : Int), (so : Int), (rr : Int), (rows : Int), (c : Int)⟩ (colF blk rows c) (regK (regF D T N ni si k) k) (outK (outF D T N ni si k) m)) ∧ Hid (Kp [gR, gO] W w')) (fun _ _ i' _ => no - (intOf i').toNat)
            case atStart => exact ⟨0, Nat.zero_le _, rfl, HL0.out, HK0.out⟩
            case round =>
              clear HL0 HK0
              obtain ⟨m, hm, rfl, HL, HKP⟩ := hrel
              by_cases hlt3 : m < no
              · have hltI : (m : Int) < (no : Int) := by omega
                have e2 : IntKind.i64.wrap ((m : Int) + 1) = (m : Int) + 1 := wrapI _ (by omega) (by omega)
                obtain ⟨c0, c1, c3, c4, hnt⟩ := HNC.out wr HKP.out
                obtain ⟨s, hs⟩ := getElem_lt (show m < N.outs.length by rw [← Eno.out]; exact hlt3)
                obtain ⟨b1, o1, ea1, _, cs⟩ := hnt.o.int hs
                have hsb := HIN.out.oi s (List.mem_of_getElem? hs)
                obtain ⟨y, hy⟩ := good_ends (si := si) HP.out HG.out HIN.out s (Or.inl (List.mem_of_getElem? hs))
                have hlk := (HMM.out wr HKP.out).look (k := s) (wf64 (by omega) (by omega)) hy
                have HRK : Hid (upd (outK (outF D T N ni si k) m) m y = outK (outF D T N ni si k) (m + 1)) := by
                  show _ = _
                  rw [← outK_next]
                  congr 1
                  unfold outF
                  rw [if_pos (by rw [← Eno.out]; exact hlt3), getD_of hs]
                  unfold whr
                  rw [hy]; rfl
                have k7 : wr.cell? ⟨cb, 7, none⟩ = some (.slice (some ⟨gO, 0, none⟩) so so) := HL.out.box.cell (i := 7) rfl
                have hms : m < so := by omega
                have hmsI : (m : Int) < (so : Int) := by omega
                have g0 := HL.out.outs.cell (tab_get hms)
                have gf0 := HL.out.outs.frozen m
                have HL2 := hidden (HL.out.setOut m y)
                rw [HRK.out] at HL2
                have HK2 : Hid (Kp [gR, gO] W (wr.setCell ⟨gO, m, none⟩ (.int .i64 y))) := HKP.out.trans ((But.set gO m wr (.int .i64 y)).kp (by simp))
                rw [← Ea4.out] at ea1
                subst ea1
                generalize outK (outF D T N ni si k) m m = old at g0
                clear hs hy HRK HL HKP hnt c0 c1 c3 c4
                go_wp2
                go_roundw
                case measure => simp [intOf]; omega
                case rel => exact ⟨m + 1, by omega, by simp, HL2.out, HK2.out⟩
              · obtain rfl : m = no := by omega
                have hge3 : ¬ (m : Int) < (m : Int) := by omega
                have b0 := HL.out.bz
                unfold cfgZ at b0
                have b1 : Blk (wr.setCell ⟨rb, 0, none⟩ (.int .i64 (si : Int))) rb 36 #[.int .i64 (si : Int), .int .i64 0, .int .i64 0, .int .i64 0, .int .i64 0, .slice none 0 0, .slice none 0 0, .slice none 0 0] := b0.set 0 (.int .i64 (si : Int))
                have b2 : Blk ((wr.setCell ⟨rb, 0, none⟩ (.int .i64 (si : Int))).setCell ⟨rb, 1, none⟩ (.int .i64 (so : Int))) rb 36 #[.int .i64 (si : Int), .int .i64 (so : Int), .int .i64 0, .int .i64 0, .int .i64 0, .slice none 0 0, .slice none 0 0, .slice none 0 0] := b1.set 1 (.int .i64 (so : Int))
                have b3 : Blk (((wr.setCell ⟨rb, 0, none⟩ (.int .i64 (si : Int))).setCell ⟨rb, 1, none⟩ (.int .i64 (so : Int))).setCell ⟨rb, 2, none⟩ (.int .i64 (rr : Int))) rb 36 #[.int .i64 (si : Int), .int .i64 (so : Int), .int .i64 (rr : Int), .int .i64 0, .int .i64 0, .slice none 0 0, .slice none 0 0, .slice none 0 0] := b2.set 2 (.int .i64 (rr : Int))
                have b4 : Blk ((((wr.setCell ⟨rb, 0, none⟩ (.int .i64 (si : Int))).setCell ⟨rb, 1, none⟩ (.int .i64 (so : Int))).setCell ⟨rb, 2, none⟩ (.int .i64 (rr : Int))).setCell ⟨rb, 3, none⟩ (.int .i64 (rows : Int))) rb 36 #[.int .i64 (si : Int), .int .i64 (so : Int), .int .i64 (rr : Int), .int .i64 (rows : Int), .int .i64 0, .slice none 0 0, .slice none 0 0, .slice none 0 0] := b3.set 3 (.int .i64 (rows : Int))
                have b5 : Blk (((((wr.setCell ⟨rb, 0, none⟩ (.int .i64 (si : Int))).setCell ⟨rb, 1, none⟩ (.int .i64 (so : Int))).setCell ⟨rb, 2, none⟩ (.int .i64 (rr : Int))).setCell ⟨rb, 3, none⟩ (.int .i64 (rows : Int))).setCell ⟨rb, 4, none⟩ (.int .i64 (c : Int))) rb 36 #[.int .i64 (si : Int), .int .i64 (so : Int), .int .i64 (rr : Int), .int .i64 (rows : Int), .int .i64 (c : Int), .slice none 0 0, .slice none 0 0, .slice none 0 0] := b4.set 4 (.int .i64 (c : Int))
                have b6 : Blk ((((((wr.setCell ⟨rb, 0, none⟩ (.int .i64 (si : Int))).setCell ⟨rb, 1, none⟩ (.int .i64 (so : Int))).setCell ⟨rb, 2, none⟩ (.int .i64 (rr : Int))).setCell ⟨rb, 3, none⟩ (.int .i64 (rows : Int))).setCell ⟨rb, 4, none⟩ (.int .i64 (c : Int))).setCell ⟨rb, 5, none⟩ (.slice (some ⟨gA_, 0, none⟩) c c)) rb 36 #[.int .i64 (si : Int), .int .i64 (so : Int), .int .i64 (rr : Int), .int .i64 (rows : Int), .int .i64 (c : Int), .slice (some ⟨gA_, 0, none⟩) c c, .slice none 0 0, .slice none 0 0] := b5.set 5 (.slice (some ⟨gA_, 0, none⟩) c c)
                have b7 : Blk (((((((wr.setCell ⟨rb, 0, none⟩ (.int .i64 (si : Int))).setCell ⟨rb, 1, none⟩ (.int .i64 (so : Int))).setCell ⟨rb, 2, none⟩ (.int .i64 (rr : Int))).setCell ⟨rb, 3, none⟩ (.int .i64 (rows : Int))).setCell ⟨rb, 4, none⟩ (.int .i64 (c : Int))).setCell ⟨rb, 5, none⟩ (.slice (some ⟨gA_, 0, none⟩) c c)).setCell ⟨rb, 6, none⟩ (.slice (some ⟨gR, 0, none⟩) rr rr)) rb 36 #[.int .i64 (si : Int), .int .i64 (so : Int), .int .i64 (rr : Int), .int .i64 (rows : Int), .int .i64 (c : Int), .slice (some ⟨gA_, 0, none⟩) c c, .slice (some ⟨gR, 0, none⟩) rr rr, .slice none 0 0] := b6.set 6 (.slice (some ⟨gR, 0, none⟩) rr rr)
                have b8 : Blk ((((((((wr.setCell ⟨rb, 0, none⟩ (.int .i64 (si : Int))).setCell ⟨rb, 1, none⟩ (.int .i64 (so : Int))).setCell ⟨rb, 2, none⟩ (.int .i64 (rr : Int))).setCell ⟨rb, 3, none⟩ (.int .i64 (rows : Int))).setCell ⟨rb, 4, none⟩ (.int .i64 (c : Int))).setCell ⟨rb, 5, none⟩ (.slice (some ⟨gA_, 0, none⟩) c c)).setCell ⟨rb, 6, none⟩ (.slice (some ⟨gR, 0, none⟩) rr rr)).setCell ⟨rb, 7, none⟩ (.slice (some ⟨gO, 0, none⟩) so so)) rb 36 #[.int .i64 (si : Int), .int .i64 (so : Int), .int .i64 (rr : Int), .int .i64 (rows : Int), .int .i64 (c : Int), .slice (some ⟨gA_, 0, none⟩) c c, .slice (some ⟨gR, 0, none⟩) rr rr, .slice (some ⟨gO, 0, none⟩) so so] := b7.set 7 (.slice (some ⟨gO, 0, none⟩) so so)
                have e0 := b0.cell (i := 0) rfl
                have f0 := b0.frozen 0
                have d0 : wr.cell? ⟨cb, 0, none⟩ = some (.int .i64 (si : Int)) := HL.out.box.cell (i := 0) rfl
                have e1 := b1.cell (i := 1) rfl
                have f1 := b1.frozen 1
                have d1 : wr.cell? ⟨cb, 1, none⟩ = some (.int .i64 (so : Int)) := HL.out.box.cell (i := 1) rfl
                have e2 := b2.cell (i := 2) rfl
                have f2 := b2.frozen 2
                have d2 : wr.cell? ⟨cb, 2, none⟩ = some (.int .i64 (rr : Int)) := HL.out.box.cell (i := 2) rfl
                have e3 := b3.cell (i := 3) rfl
                have f3 := b3.frozen 3
                have d3 : wr.cell? ⟨cb, 3, none⟩ = some (.int .i64 (rows : Int)) := HL.out.box.cell (i := 3) rfl
                have e4 := b4.cell (i := 4) rfl
                have f4 := b4.frozen 4
                have d4 : wr.cell? ⟨cb, 4, none⟩ = some (.int .i64 (c : Int)) := HL.out.box.cell (i := 4) rfl
                have e5 := b5.cell (i := 5) rfl
                have f5 := b5.frozen 5
                have d5 : wr.cell? ⟨cb, 5, none⟩ = some (.slice (some ⟨gA_, 0, none⟩) c c) := HL.out.box.cell (i := 5) rfl
                have e6 := b6.cell (i := 6) rfl
                have f6 := b6.frozen 6
                have d6 : wr.cell? ⟨cb, 6, none⟩ = some (.slice (some ⟨gR, 0, none⟩) rr rr) := HL.out.box.cell (i := 6) rfl
                have e7 := b7.cell (i := 7) rfl
                have f7 := b7.frozen 7
                have d7 : wr.cell? ⟨cb, 7, none⟩ = some (.slice (some ⟨gO, 0, none⟩) so so) := HL.out.box.cell (i := 7) rfl
                have hbt : But rb wr ((((((((wr.setCell ⟨rb, 0, none⟩ (.int .i64 (si : Int))).setCell ⟨rb, 1, none⟩ (.int .i64 (so : Int))).setCell ⟨rb, 2, none⟩ (.int .i64 (rr : Int))).setCell ⟨rb, 3, none⟩ (.int .i64 (rows : Int))).setCell ⟨rb, 4, none⟩ (.int .i64 (c : Int))).setCell ⟨rb, 5, none⟩ (.slice (some ⟨gA_, 0, none⟩) c c)).setCell ⟨rb, 6, none⟩ (.slice (some ⟨gR, 0, none⟩) rr rr)).setCell ⟨rb, 7, none⟩ (.slice (some ⟨gO, 0, none⟩) so so)) := But.set rb 0 _ _ |>.trans (But.set rb 1 _ _) |>.trans (But.set rb 2 _ _) |>.trans (But.set rb 3 _ _) |>.trans (But.set rb 4 _ _) |>.trans (But.set rb 5 _ _) |>.trans (But.set rb 6 _ _) |>.trans (But.set rb 7 _ _)
                have hHB := HHB.out wr HKP.out
                have hgeL := HL.out.ge
                have HBE : Hid (Below w.heap.size w ((((((((wr.setCell ⟨rb, 0, none⟩ (.int .i64 (si : Int))).setCell ⟨rb, 1, none⟩ (.int .i64 (so : Int))).setCell ⟨rb, 2, none⟩ (.int .i64 (rr : Int))).setCell ⟨rb, 3, none⟩ (.int .i64 (rows : Int))).setCell ⟨rb, 4, none⟩ (.int .i64 (c : Int))).setCell ⟨rb, 5, none⟩ (.slice (some ⟨gA_, 0, none⟩) c c)).setCell ⟨rb, 6, none⟩ (.slice (some ⟨gR, 0, none⟩) rr rr)).setCell ⟨rb, 7, none⟩ (.slice (some ⟨gO, 0, none⟩) so so))) := hHB.trans (hbt.below hgeL.1 hHB.size)
                have hne := HL.out.ne
                have q1 : Blk ((((((((wr.setCell ⟨rb, 0, none⟩ (.int .i64 (si : Int))).setCell ⟨rb, 1, none⟩ (.int .i64 (so : Int))).setCell ⟨rb, 2, none⟩ (.int .i64 (rr : Int))).setCell ⟨rb, 3, none⟩ (.int .i64 (rows : Int))).setCell ⟨rb, 4, none⟩ (.int .i64 (c : Int))).setCell ⟨rb, 5, none⟩ (.slice (some ⟨gA_, 0, none⟩) c c)).setCell ⟨rb, 6, none⟩ (.slice (some ⟨gR, 0, none⟩) rr rr)).setCell ⟨rb, 7, none⟩ (.slice (some ⟨gO, 0, none⟩) so so)) gA_ 66 (tabL D.cc (colF blk rows D.cc)).toArray := by rw [← HCD.out]; exact hbt.blk HL.out.cols hne.1.1
                have q2 := hbt.blk HL.out.regs hne.1.2.1
                have q3 : Blk ((((((((wr.setCell ⟨rb, 0, none⟩ (.int .i64 (si : Int))).setCell ⟨rb, 1, none⟩ (.int .i64 (so : Int))).setCell ⟨rb, 2, none⟩ (.int .i64 (rr : Int))).setCell ⟨rb, 3, none⟩ (.int .i64 (rows : Int))).setCell ⟨rb, 4, none⟩ (.int .i64 (c : Int))).setCell ⟨rb, 5, none⟩ (.slice (some ⟨gA_, 0, none⟩) c c)).setCell ⟨rb, 6, none⟩ (.slice (some ⟨gR, 0, none⟩) rr rr)).setCell ⟨rb, 7, none⟩ (.slice (some ⟨gO, 0, none⟩) so so)) gO 3 (tabL so fun j => .int .i64 (outK (outF D T N ni si k) N.outs.length j)).toArray := by rw [← Eno.out]; exact hbt.blk HL.out.outs hne.1.2.2
                have q4 : ∀ j, j < D.cc → CeAt ((((((((wr.setCell ⟨rb, 0, none⟩ (.int .i64 (si : Int))).setCell ⟨rb, 1, none⟩ (.int .i64 (so : Int))).setCell ⟨rb, 2, none⟩ (.int .i64 (rr : Int))).setCell ⟨rb, 3, none⟩ (.int .i64 (rows : Int))).setCell ⟨rb, 4, none⟩ (.int .i64 (c : Int))).setCell ⟨rb, 5, none⟩ (.slice (some ⟨gA_, 0, none⟩) c c)).setCell ⟨rb, 6, none⟩ (.slice (some ⟨gR, 0, none⟩) rr rr)).setCell ⟨rb, 7, none⟩ (.slice (some ⟨gO, 0, none⟩) so so)) (blk j) rows (rowC D T N (whF D T ni si k j) j (heldK D T D.n j) (heldK D T D.n j).length) := fun j hj => hbt.blk (HCK.out wr HKP.out j (by rw [HCD.out]; exact hj)) (Blk.ne (HCK.out wr HKP.out j (by rw [HCD.out]; exact hj)) HL.out.bz (by decide))
                have HCN : Hid ((∀ v : World, ((((((((wr.setCell ⟨rb, 0, none⟩ (.int .i64 (si : Int))).setCell ⟨rb, 1, none⟩ (.int .i64 (so : Int))).setCell ⟨rb, 2, none⟩ (.int .i64 (rr : Int))).setCell ⟨rb, 3, none⟩ (.int .i64 (rows : Int))).setCell ⟨rb, 4, none⟩ (.int .i64 (c : Int))).setCell ⟨rb, 5, none⟩ (.slice (some ⟨gA_, 0, none⟩) c c)).setCell ⟨rb, 6, none⟩ (.slice (some ⟨gR, 0, none⟩) rr rr)).setCell ⟨rb, 7, none⟩ (.slice (some ⟨gO, 0, none⟩) so so)).heap.size ≤ v.heap.size → (∀ k, w.heap.size ≤ k → k < ((((((((wr.setCell ⟨rb, 0, none⟩ (.int .i64 (si : Int))).setCell ⟨rb, 1, none⟩ (.int .i64 (so : Int))).setCell ⟨rb, 2, none⟩ (.int .i64 (rr : Int))).setCell ⟨rb, 3, none⟩ (.int .i64 (rows : Int))).setCell ⟨rb, 4, none⟩ (.int .i64 (c : Int))).setCell ⟨rb, 5, none⟩ (.slice (some ⟨gA_, 0, none⟩) c c)).setCell ⟨rb, 6, none⟩ (.slice (some ⟨gR, 0, none⟩) rr rr)).setCell ⟨rb, 7, none⟩ (.slice (some ⟨gO, 0, none⟩) so so)).heap.size → v.heap[k]? = ((((((((wr.setCell ⟨rb, 0, none⟩ (.int .i64 (si : Int))).setCell ⟨rb, 1, none⟩ (.int .i64 (so : Int))).setCell ⟨rb, 2, none⟩ (.int .i64 (rr : Int))).setCell ⟨rb, 3, none⟩ (.int .i64 (rows : Int))).setCell ⟨rb, 4, none⟩ (.int .i64 (c : Int))).setCell ⟨rb, 5, none⟩ (.slice (some ⟨gA_, 0, none⟩) c c)).setCell ⟨rb, 6, none⟩ (.slice (some ⟨gR, 0, none⟩) rr rr)).setCell ⟨rb, 7, none⟩ (.slice (some ⟨gO, 0, none⟩) so so)).heap[k]?) → CnAt v.heap.size v ⟨some ⟨gA_, 0, none⟩, D.cc, some ⟨gR, 0, none⟩, rr, some ⟨gO, 0, none⟩, so⟩ ⟨D.sh, tabL D.cc (fun c => ⟨some ⟨blk c, 0, none⟩, rows, colL D T N ni si k rows c⟩), tabL rr (regF D T N ni si k), tabL so (outF D T N ni si k)⟩) ∧ LaidP D T N ni si k rr so rows ⟨D.sh, tabL D.cc (fun c => ⟨some ⟨blk c, 0, none⟩, rows, colL D T N ni si k rows c⟩), tabL rr (regF D T N ni si k), tabL so (outF D T N ni si k)⟩) :=
                  ⟨fun v _ hv => (laid_cn ((hv gA_ hgeL.2.2.1 q1.lt).trans q1) ((hv gR hgeL.2.2.2.1 q2.lt).trans q2) ((hv gO hgeL.2.2.2.2 q3.lt).trans q3) (fun j hj => (hv (blk j) (HCG.out j (by rw [HCD.out]; exact hj)) (Blk.lt (q4 j hj))).trans (q4 j hj)) HCC.out.2.2 h5 h6 hrb2 hsi).1, (laid_cn q1 q2 q3 q4 HCC.out.2.2 h5 h6 hrb2 hsi).2⟩
                have HE : Hid (Ending.returned (.agg #[.int .i64 (si : Int), .int .i64 (so : Int), .int .i64 (rr : Int), .int .i64 (rows : Int), .int .i64 (c : Int), .slice (some ⟨gA_, 0, none⟩) c c, .slice (some ⟨gR, 0, none⟩) rr rr, .slice (some ⟨gO, 0, none⟩) so so]) = .returned (.agg (CnS.cells ⟨some ⟨gA_, 0, none⟩, D.cc, some ⟨gR, 0, none⟩, rr, some ⟨gO, 0, none⟩, so⟩ ⟨D.sh, tabL D.cc (fun c => ⟨some ⟨blk c, 0, none⟩, rows, colL D T N ni si k rows c⟩), tabL rr (regF D T N ni si k), tabL so (outF D T N ni si k)⟩))) := by
                  show _ = _
                  unfold CnS.cells
                  simp only [tabL_len, HSH.out, ← HCD.out]
                have r0 : ((((((((wr.setCell ⟨rb, 0, none⟩ (.int .i64 (si : Int))).setCell ⟨rb, 1, none⟩ (.int .i64 (so : Int))).setCell ⟨rb, 2, none⟩ (.int .i64 (rr : Int))).setCell ⟨rb, 3, none⟩ (.int .i64 (rows : Int))).setCell ⟨rb, 4, none⟩ (.int .i64 (c : Int))).setCell ⟨rb, 5, none⟩ (.slice (some ⟨gA_, 0, none⟩) c c)).setCell ⟨rb, 6, none⟩ (.slice (some ⟨gR, 0, none⟩) rr rr)).setCell ⟨rb, 7, none⟩ (.slice (some ⟨gO, 0, none⟩) so so)).cell? ⟨rb, 0, none⟩ = some (.int .i64 (si : Int)) := b8.cell (i := 0) rfl
                have r1 : ((((((((wr.setCell ⟨rb, 0, none⟩ (.int .i64 (si : Int))).setCell ⟨rb, 1, none⟩ (.int .i64 (so : Int))).setCell ⟨rb, 2, none⟩ (.int .i64 (rr : Int))).setCell ⟨rb, 3, none⟩ (.int .i64 (rows : Int))).setCell ⟨rb, 4, none⟩ (.int .i64 (c : Int))).setCell ⟨rb, 5, none⟩ (.slice (some ⟨gA_, 0, none⟩) c c)).setCell ⟨rb, 6, none⟩ (.slice (some ⟨gR, 0, none⟩) rr rr)).setCell ⟨rb, 7, none⟩ (.slice (some ⟨gO, 0, none⟩) so so)).cell? ⟨rb, 1, none⟩ = some (.int .i64 (so : Int)) := b8.cell (i := 1) rfl
                have r2 : ((((((((wr.setCell ⟨rb, 0, none⟩ (.int .i64 (si : Int))).setCell ⟨rb, 1, none⟩ (.int .i64 (so : Int))).setCell ⟨rb, 2, none⟩ (.int .i64 (rr : Int))).setCell ⟨rb, 3, none⟩ (.int .i64 (rows : Int))).setCell ⟨rb, 4, none⟩ (.int .i64 (c : Int))).setCell ⟨rb, 5, none⟩ (.slice (some ⟨gA_, 0, none⟩) c c)).setCell ⟨rb, 6, none⟩ (.slice (some ⟨gR, 0, none⟩) rr rr)).setCell ⟨rb, 7, none⟩ (.slice (some ⟨gO, 0, none⟩) so so)).cell? ⟨rb, 2, none⟩ = some (.int .i64 (rr : Int)) := b8.cell (i := 2) rfl
                have r3 : ((((((((wr.setCell ⟨rb, 0, none⟩ (.int .i64 (si : Int))).setCell ⟨rb, 1, none⟩ (.int .i64 (so : Int))).setCell ⟨rb, 2, none⟩ (.int .i64 (rr : Int))).setCell ⟨rb, 3, none⟩ (.int .i64 (rows : Int))).setCell ⟨rb, 4, none⟩ (.int .i64 (c : Int))).setCell ⟨rb, 5, none⟩ (.slice (some ⟨gA_, 0, none⟩) c c)).setCell ⟨rb, 6, none⟩ (.slice (some ⟨gR, 0, none⟩) rr rr)).setCell ⟨rb, 7, none⟩ (.slice (some ⟨gO, 0, none⟩) so so)).cell? ⟨rb, 3, none⟩ = some (.int .i64 (rows : Int)) := b8.cell (i := 3) rfl
                have r4 : ((((((((wr.setCell ⟨rb, 0, none⟩ (.int .i64 (si : Int))).setCell ⟨rb, 1, none⟩ (.int .i64 (so : Int))).setCell ⟨rb, 2, none⟩ (.int .i64 (rr : Int))).setCell ⟨rb, 3, none⟩ (.int .i64 (rows : Int))).setCell ⟨rb, 4, none⟩ (.int .i64 (c : Int))).setCell ⟨rb, 5, none⟩ (.slice (some ⟨gA_, 0, none⟩) c c)).setCell ⟨rb, 6, none⟩ (.slice (some ⟨gR, 0, none⟩) rr rr)).setCell ⟨rb, 7, none⟩ (.slice (some ⟨gO, 0, none⟩) so so)).cell? ⟨rb, 4, none⟩ = some (.int .i64 (c : Int)) := b8.cell (i := 4) rfl
                have r5 : ((((((((wr.setCell ⟨rb, 0, none⟩ (.int .i64 (si : Int))).setCell ⟨rb, 1, none⟩ (.int .i64 (so : Int))).setCell ⟨rb, 2, none⟩ (.int .i64 (rr : Int))).setCell ⟨rb, 3, none⟩ (.int .i64 (rows : Int))).setCell ⟨rb, 4, none⟩ (.int .i64 (c : Int))).setCell ⟨rb, 5, none⟩ (.slice (some ⟨gA_, 0, none⟩) c c)).setCell ⟨rb, 6, none⟩ (.slice (some ⟨gR, 0, none⟩) rr rr)).setCell ⟨rb, 7, none⟩ (.slice (some ⟨gO, 0, none⟩) so so)).cell? ⟨rb, 5, none⟩ = some (.slice (some ⟨gA_, 0, none⟩) c c) := b8.cell (i := 5) rfl
                have r6 : ((((((((wr.setCell ⟨rb, 0, none⟩ (.int .i64 (si : Int))).setCell ⟨rb, 1, none⟩ (.int .i64 (so : Int))).setCell ⟨rb, 2, none⟩ (.int .i64 (rr : Int))).setCell ⟨rb, 3, none⟩ (.int .i64 (rows : Int))).setCell ⟨rb, 4, none⟩ (.int .i64 (c : Int))).setCell ⟨rb, 5, none⟩ (.slice (some ⟨gA_, 0, none⟩) c c)).setCell ⟨rb, 6, none⟩ (.slice (some ⟨gR, 0, none⟩) rr rr)).setCell ⟨rb, 7, none⟩ (.slice (some ⟨gO, 0, none⟩) so so)).cell? ⟨rb, 6, none⟩ = some (.slice (some ⟨gR, 0, none⟩) rr rr) := b8.cell (i := 6) rfl
                have r7 : ((((((((wr.setCell ⟨rb, 0, none⟩ (.int .i64 (si : Int))).setCell ⟨rb, 1, none⟩ (.int .i64 (so : Int))).setCell ⟨rb, 2, none⟩ (.int .i64 (rr : Int))).setCell ⟨rb, 3, none⟩ (.int .i64 (rows : Int))).setCell ⟨rb, 4, none⟩ (.int .i64 (c : Int))).setCell ⟨rb, 5, none⟩ (.slice (some ⟨gA_, 0, none⟩) c c)).setCell ⟨rb, 6, none⟩ (.slice (some ⟨gR, 0, none⟩) rr rr)).setCell ⟨rb, 7, none⟩ (.slice (some ⟨gO, 0, none⟩) so so)).cell? ⟨rb, 7, none⟩ = some (.slice (some ⟨gO, 0, none⟩) so so) := b8.cell (i := 7) rfl
                clear q1 q2 q3 q4 hbt hHB hgeL hne b0 b1 b2 b3 b4 b5 b6 b7 b8 HL HKP HNC HMM HHB HCK
                go_wp2
                generalize ((((((((wr.setCell ⟨rb, 0, none⟩ (.int .i64 (si : Int))).setCell ⟨rb, 1, none⟩ (.int .i64 (so : Int))).setCell ⟨rb, 2, none⟩ (.int .i64 (rr : Int))).setCell ⟨rb, 3, none⟩ (.int .i64 (rows : Int))).setCell ⟨rb, 4, none⟩ (.int .i64 (c : Int))).setCell ⟨rb, 5, none⟩ (.slice (some ⟨gA_, 0, none⟩) c c)).setCell ⟨rb, 6, none⟩ (.slice (some ⟨gR, 0, none⟩) rr rr)).setCell ⟨rb, 7, none⟩ (.slice (some ⟨gO, 0, none⟩) so so)) = X at HCN HBE r0 r1 r2 r3 r4 r5 r6 r7 ⊢
                refine bodyPost_ret (v := .agg #[.int .i64 (si : Int), .int .i64 (so : Int), .int .i64 (rr : Int), .int .i64 (rows : Int), .int .i64 (c : Int), .slice (some ⟨gA_, 0, none⟩) c c, .slice (some ⟨gR, 0, none⟩) rr rr, .slice (some ⟨gO, 0, none⟩) so so]) (by simp [results, Tryd.results21, go_sem, r0, r1, r2, r3, r4, r5, r6, r7]) rfl ?_
                exact ⟨_, _, HE.out, HCN.out.1, HCN.out.2, HBE.out⟩
  clear hK1
  have hcc1 : cc ≤ 100 := by rw [Ecc.out]; exact HCC.out.2.2
  have HMC := hidden (fun v : World => make_cols (w := v) hcc1)
  have HMR := hidden (fun v : World => make_regs (w := v) (n := rr) h5)
  have HMO := hidden (fun v : World => newL5 (w := v) (cc := so) h6)
  refine wp_region_noPanic ?_
  refine wp_region_held_drew (S := fun v => v.cell? ⟨sb, 0, none⟩ = some (.int .i64 (si : Int)) ∧ v.cell? ⟨sb, 1, none⟩ = some (.int .i64 (so : Int)) ∧ v.cell? ⟨sb, 2, none⟩ = some (.int .i64 (rr : Int)) ∧ v.cell? ⟨sb, 3, none⟩ = some (.int .i64 (rows : Int)) ∧ v.cell? ⟨sb, 4, none⟩ = some (.int .i64 (cc : Int)) ∧ w1.heap.size ≤ v.heap.size) (by kernel_rfl) (by exact ⟨s0, s1, s2, s3, s4, Nat.le_refl _⟩) (fun hHeld => ?_)
  clear s0 s1 s2 s3 s4
  refine tk 0 ?_
  refine tk 1 ?_
  refine tk 2 ?_
  refine tk 4 ?_
  refine tk 5 ?_
  refine tk 7 ?_
  refine tk 8 ?_
  refine makes4 (fun b1 b2 b3 b4 => #[true, true, true, b1, true, true, b2, true, true, b3, false, b4, false]) (fun b4 => #[true, true, true, true, true, true, true, true, true, true, true, b4, false]) (fun y1 y2 y3 y4 => ⟨#[.pointer (some ⟨pb, 0, none⟩), undef, .pointer (some ⟨rb, 0, none⟩), .pointer (some ⟨sb, 0, none⟩), y4, undef, undef, undef, undef, undef, undef, undef, .pointer (some ⟨pb, 0, none⟩), .pointer (some ⟨pb, 0, none⟩), .pointer (some ⟨pb, 1, none⟩), .agg #[.int .i64 (si : Int), .int .i64 (so : Int), .int .i64 (rr : Int), .int .i64 (rows : Int), .int .i64 (cc : Int)], .agg #[.int .i64 (si : Int), .int .i64 (so : Int), .int .i64 (rr : Int), .int .i64 (rows : Int), .int .i64 (cc : Int)], .pointer (some ⟨sb, 4, none⟩), .int .i64 (cc : Int), y1, .pointer (some ⟨sb, 2, none⟩), .int .i64 (rr : Int), y2, .pointer (some ⟨sb, 1, none⟩), .int .i64 (so : Int), y3, undef, undef, undef, undef, undef, undef, undef, undef, undef, undef, undef, undef, undef, undef, undef, undef, undef, undef, undef, undef, undef, undef, undef, undef, undef, undef, undef, undef, undef, undef, undef, undef, undef, undef, undef, undef, undef, undef, undef, undef, undef, undef, undef, undef, undef, undef, undef, undef, undef, undef, undef, undef, undef, undef, undef, undef, undef, undef, undef, undef, undef, undef, undef, undef, undef, undef, undef, undef, undef, undef, undef, undef, undef, undef, undef, undef, undef, undef], []⟩) (fun y1 y2 y3 y4 => ⟨#[.pointer (some ⟨pb, 0, none⟩), undef, .pointer (some ⟨rb, 0, none⟩), .pointer (some ⟨sb, 0, none⟩), y4, undef, undef, undef, undef, undef, undef, undef, .pointer (some ⟨pb, 0, none⟩), .pointer (some ⟨pb, 0, none⟩), .pointer (some ⟨pb, 1, none⟩), .agg #[.int .i64 (si : Int), .int .i64 (so : Int), .int .i64 (rr : Int), .int .i64 (rows : Int), .int .i64 (cc : Int)], .agg #[.int .i64 (si : Int), .int .i64 (so : Int), .int .i64 (rr : Int), .int .i64 (rows : Int), .int .i64 (cc : Int)], .pointer (some ⟨sb, 4, none⟩), .int .i64 (cc : Int), y1, .pointer (some ⟨sb, 2, none⟩), .int .i64 (rr : Int), y2, .pointer (some ⟨sb, 1, none⟩), .int .i64 (so : Int), y3, .agg #[.int .i64 (si : Int), .int .i64 (so : Int), .int .i64 (rr : Int), .int .i64 (rows : Int), .int .i64 (cc : Int), y1, y2, y3], undef, undef, undef, undef, undef, undef, undef, undef, undef, undef, undef, undef, undef, undef, undef, undef, undef, undef, undef, undef, undef, undef, undef, undef, undef, undef, undef, undef, undef, undef, undef, undef, undef, undef, undef, undef, undef, undef, undef, undef, undef, undef, undef, undef, undef, undef, undef, undef, undef, undef, undef, undef, undef, undef, undef, undef, undef, undef, undef, undef, undef, undef, undef, undef, undef, undef, undef, undef, undef, undef, undef, undef, undef, undef, undef, undef, undef], []⟩) 3 6 9 11
    (fun v u => ∃ g, v = .slice (some ⟨g, 0, none⟩) cc cc ∧ w1.heap.size ≤ g ∧ Blk u g 66 (tabL cc fun _ => Value.slice none 0 0).toArray)
    (fun v u => ∃ g, v = .slice (some ⟨g, 0, none⟩) rr rr ∧ w1.heap.size ≤ g ∧ Blk u g 72 (tabL (rr * 2) (rgF fun _ => ⟨0, false⟩)).toArray)
    (fun v u => ∃ g, v = .slice (some ⟨g, 0, none⟩) so so ∧ w1.heap.size ≤ g ∧ Blk u g 3 (tabL so fun _ => Value.int .i64 0).toArray)
    (fun v u => ∃ g, v = .pointer (some ⟨g, 0, none⟩) ∧ w1.heap.size ≤ g ∧ Blk u g 36 #[.int .i64 0, .int .i64 0, .int .i64 0, .int .i64 0, .int .i64 0, .slice none 0 0, .slice none 0 0, .slice none 0 0])
    (fun _ _ _ ⟨g, h1, h2, h3⟩ hb => ⟨g, h1, h2, h3.below hb⟩) (fun _ _ _ ⟨g, h1, h2, h3⟩ hb => ⟨g, h1, h2, h3.below hb⟩) (fun _ _ _ ⟨g, h1, h2, h3⟩ hb => ⟨g, h1, h2, h3.below hb⟩) (fun _ _ _ ⟨g, h1, h2, h3⟩ hb => ⟨g, h1, h2, h3.below hb⟩) ?_ ?_ ?_ ?_ ?_ ?_ ?_ ?_ hHeld
  · intro v u ⟨q0, q1, q2, q3, q4, q5⟩ hb
    have hl := World.block_lt_of_cell? v _ q0
    exact ⟨(hb.cell (p := ⟨sb, 0, none⟩) hl).trans q0, (hb.cell (p := ⟨sb, 1, none⟩) hl).trans q1, (hb.cell (p := ⟨sb, 2, none⟩) hl).trans q2, (hb.cell (p := ⟨sb, 3, none⟩) hl).trans q3, (hb.cell (p := ⟨sb, 4, none⟩) hl).trans q4, Nat.le_trans q5 hb.size⟩
  · intro y2 y3 y4 v K ⟨_, _, _, _, _, q5⟩ hK
    obtain ⟨v', hr, hk, hb⟩ := HMC.out v
    have HK := hidden hK
    clear hK
    (try simp only [gA, gB, gC]); go_simp
    exact HK.out _ _ ⟨_, rfl, q5, hk⟩ hb
  · intro y1 y3 y4 v K ⟨_, _, _, _, _, q5⟩ hK
    obtain ⟨v', hr, hk, hb⟩ := HMR.out v
    have HK := hidden hK
    clear hK
    (try simp only [gA, gB, gC]); go_simp
    exact HK.out _ _ ⟨_, rfl, q5, hk⟩ hb
  · intro y1 y2 y4 v K ⟨_, _, _, _, _, q5⟩ hK
    obtain ⟨v', hr, hk, hb⟩ := HMO.out v
    have HK := hidden hK
    clear hK
    (try simp only [gA, gB, gC]); go_simp
    exact HK.out _ _ ⟨_, rfl, q5, hk⟩ hb
  · intro y1 y2 y3 v K ⟨_, _, _, _, _, q5⟩ hK
    have HK := hidden hK
    clear hK
    (try simp only [gA, gB, gC]); go_simp
    exact HK.out _ _ ⟨_, rfl, q5, Blk.new v _ _⟩ ((Below.refl _ _).alloc (Nat.le_refl _) _)
  · intro y1 y2 y3 v K ⟨_, _, _, _, _, q5⟩ hK
    have HK := hidden hK
    clear hK
    (try simp only [gA, gB, gC]); go_simp
    exact HK.out _ _ ⟨_, rfl, q5, Blk.new v _ _⟩ ((Below.refl _ _).alloc (Nat.le_refl _) _)
  · rintro fuel _ _ _ y4 b4 v ⟨gA_, rfl, _, _⟩ ⟨gR, rfl, _, _⟩ ⟨gO, rfl, _, _⟩ hS hh
    cases b4
    · refine tk 10 ?_
      exact hh
    · refine tk 10 ?_
      exact hh
  · rintro _ _ _ _ v ⟨gA_, rfl, hA1, hA2⟩ ⟨gR, rfl, hR1, hR2⟩ ⟨gO, rfl, hO1, hO2⟩ ⟨cb, rfl, hC1, b0⟩ hS hb
    have hsc : sb ≠ cb := by have := HBS.out.lt; omega
    have b1 : Blk (v.setCell ⟨cb, 0, none⟩ (.int .i64 (si : Int))) cb 36 #[.int .i64 (si : Int), .int .i64 0, .int .i64 0, .int .i64 0, .int .i64 0, .slice none 0 0, .slice none 0 0, .slice none 0 0] := b0.set 0 (.int .i64 (si : Int))
    have b2 : Blk ((v.setCell ⟨cb, 0, none⟩ (.int .i64 (si : Int))).setCell ⟨cb, 1, none⟩ (.int .i64 (so : Int))) cb 36 #[.int .i64 (si : Int), .int .i64 (so : Int), .int .i64 0, .int .i64 0, .int .i64 0, .slice none 0 0, .slice none 0 0, .slice none 0 0] := b1.set 1 (.int .i64 (so : Int))
    have b3 : Blk (((v.setCell ⟨cb, 0, none⟩ (.int .i64 (si : Int))).setCell ⟨cb, 1, none⟩ (.int .i64 (so : Int))).setCell ⟨cb, 2, none⟩ (.int .i64 (rr : Int))) cb 36 #[.int .i64 (si : Int), .int .i64 (so : Int), .int .i64 (rr : Int), .int .i64 0, .int .i64 0, .slice none 0 0, .slice none 0 0, .slice none 0 0] := b2.set 2 (.int .i64 (rr : Int))
    have b4 : Blk ((((v.setCell ⟨cb, 0, none⟩ (.int .i64 (si : Int))).setCell ⟨cb, 1, none⟩ (.int .i64 (so : Int))).setCell ⟨cb, 2, none⟩ (.int .i64 (rr : Int))).setCell ⟨cb, 3, none⟩ (.int .i64 (rows : Int))) cb 36 #[.int .i64 (si : Int), .int .i64 (so : Int), .int .i64 (rr : Int), .int .i64 (rows : Int), .int .i64 0, .slice none 0 0, .slice none 0 0, .slice none 0 0] := b3.set 3 (.int .i64 (rows : Int))
    have b5 : Blk (((((v.setCell ⟨cb, 0, none⟩ (.int .i64 (si : Int))).setCell ⟨cb, 1, none⟩ (.int .i64 (so : Int))).setCell ⟨cb, 2, none⟩ (.int .i64 (rr : Int))).setCell ⟨cb, 3, none⟩ (.int .i64 (rows : Int))).setCell ⟨cb, 4, none⟩ (.int .i64 (cc : Int))) cb 36 #[.int .i64 (si : Int), .int .i64 (so : Int), .int .i64 (rr : Int), .int .i64 (rows : Int), .int .i64 (cc : Int), .slice none 0 0, .slice none 0 0, .slice none 0 0] := b4.set 4 (.int .i64 (cc : Int))
    have b6 : Blk ((((((v.setCell ⟨cb, 0, none⟩ (.int .i64 (si : Int))).setCell ⟨cb, 1, none⟩ (.int .i64 (so : Int))).setCell ⟨cb, 2, none⟩ (.int .i64 (rr : Int))).setCell ⟨cb, 3, none⟩ (.int .i64 (rows : Int))).setCell ⟨cb, 4, none⟩ (.int .i64 (cc : Int))).setCell ⟨cb, 5, none⟩ (.slice (some ⟨gA_, 0, none⟩) cc cc)) cb 36 #[.int .i64 (si : Int), .int .i64 (so : Int), .int .i64 (rr : Int), .int .i64 (rows : Int), .int .i64 (cc : Int), .slice (some ⟨gA_, 0, none⟩) cc cc, .slice none 0 0, .slice none 0 0] := b5.set 5 (.slice (some ⟨gA_, 0, none⟩) cc cc)
    have b7 : Blk (((((((v.setCell ⟨cb, 0, none⟩ (.int .i64 (si : Int))).setCell ⟨cb, 1, none⟩ (.int .i64 (so : Int))).setCell ⟨cb, 2, none⟩ (.int .i64 (rr : Int))).setCell ⟨cb, 3, none⟩ (.int .i64 (rows : Int))).setCell ⟨cb, 4, none⟩ (.int .i64 (cc : Int))).setCell ⟨cb, 5, none⟩ (.slice (some ⟨gA_, 0, none⟩) cc cc)).setCell ⟨cb, 6, none⟩ (.slice (some ⟨gR, 0, none⟩) rr rr)) cb 36 #[.int .i64 (si : Int), .int .i64 (so : Int), .int .i64 (rr : Int), .int .i64 (rows : Int), .int .i64 (cc : Int), .slice (some ⟨gA_, 0, none⟩) cc cc, .slice (some ⟨gR, 0, none⟩) rr rr, .slice none 0 0] := b6.set 6 (.slice (some ⟨gR, 0, none⟩) rr rr)
    have b8 : Blk ((((((((v.setCell ⟨cb, 0, none⟩ (.int .i64 (si : Int))).setCell ⟨cb, 1, none⟩ (.int .i64 (so : Int))).setCell ⟨cb, 2, none⟩ (.int .i64 (rr : Int))).setCell ⟨cb, 3, none⟩ (.int .i64 (rows : Int))).setCell ⟨cb, 4, none⟩ (.int .i64 (cc : Int))).setCell ⟨cb, 5, none⟩ (.slice (some ⟨gA_, 0, none⟩) cc cc)).setCell ⟨cb, 6, none⟩ (.slice (some ⟨gR, 0, none⟩) rr rr)).setCell ⟨cb, 7, none⟩ (.slice (some ⟨gO, 0, none⟩) so so)) cb 36 #[.int .i64 (si : Int), .int .i64 (so : Int), .int .i64 (rr : Int), .int .i64 (rows : Int), .int .i64 (cc : Int), .slice (some ⟨gA_, 0, none⟩) cc cc, .slice (some ⟨gR, 0, none⟩) rr rr, .slice (some ⟨gO, 0, none⟩) so so] := b7.set 7 (.slice (some ⟨gO, 0, none⟩) so so)
    have e0 := b0.cell (i := 0) rfl
    have f0 := b0.frozen 0
    have e1 := b1.cell (i := 1) rfl
    have f1 := b1.frozen 1
    have e2 := b2.cell (i := 2) rfl
    have f2 := b2.frozen 2
    have e3 := b3.cell (i := 3) rfl
    have f3 := b3.frozen 3
    have e4 := b4.cell (i := 4) rfl
    have f4 := b4.frozen 4
    have e5 := b5.cell (i := 5) rfl
    have f5 := b5.frozen 5
    have e6 := b6.cell (i := 6) rfl
    have f6 := b6.frozen 6
    have e7 := b7.cell (i := 7) rfl
    have f7 := b7.frozen 7
    have hbut : But cb v ((((((((v.setCell ⟨cb, 0, none⟩ (.int .i64 (si : Int))).setCell ⟨cb, 1, none⟩ (.int .i64 (so : Int))).setCell ⟨cb, 2, none⟩ (.int .i64 (rr : Int))).setCell ⟨cb, 3, none⟩ (.int .i64 (rows : Int))).setCell ⟨cb, 4, none⟩ (.int .i64 (cc : Int))).setCell ⟨cb, 5, none⟩ (.slice (some ⟨gA_, 0, none⟩) cc cc)).setCell ⟨cb, 6, none⟩ (.slice (some ⟨gR, 0, none⟩) rr rr)).setCell ⟨cb, 7, none⟩ (.slice (some ⟨gO, 0, none⟩) so so)) := But.set cb 0 _ _ |>.trans (But.set cb 1 _ _) |>.trans (But.set cb 2 _ _) |>.trans (But.set cb 3 _ _) |>.trans (But.set cb 4 _ _) |>.trans (But.set cb 5 _ _) |>.trans (But.set cb 6 _ _) |>.trans (But.set cb 7 _ _)
    have hrb : rb < cb := by have := HBR.out.lt; omega
    have HB8 : Hid (Below w.heap.size w ((((((((v.setCell ⟨cb, 0, none⟩ (.int .i64 (si : Int))).setCell ⟨cb, 1, none⟩ (.int .i64 (so : Int))).setCell ⟨cb, 2, none⟩ (.int .i64 (rr : Int))).setCell ⟨cb, 3, none⟩ (.int .i64 (rows : Int))).setCell ⟨cb, 4, none⟩ (.int .i64 (cc : Int))).setCell ⟨cb, 5, none⟩ (.slice (some ⟨gA_, 0, none⟩) cc cc)).setCell ⟨cb, 6, none⟩ (.slice (some ⟨gR, 0, none⟩) rr rr)).setCell ⟨cb, 7, none⟩ (.slice (some ⟨gO, 0, none⟩) so so))) := (HB1.out.trans ((Below.drew (Below.refl _ _)).trans hb |>.mono HB1.out.size)).trans (hbut.below (by omega) (Nat.le_trans HB1.out.size hb.size))
    have HL8 : Hid (LdAt ((((((((v.setCell ⟨cb, 0, none⟩ (.int .i64 (si : Int))).setCell ⟨cb, 1, none⟩ (.int .i64 (so : Int))).setCell ⟨cb, 2, none⟩ (.int .i64 (rr : Int))).setCell ⟨cb, 3, none⟩ (.int .i64 (rows : Int))).setCell ⟨cb, 4, none⟩ (.int .i64 (cc : Int))).setCell ⟨cb, 5, none⟩ (.slice (some ⟨gA_, 0, none⟩) cc cc)).setCell ⟨cb, 6, none⟩ (.slice (some ⟨gR, 0, none⟩) rr rr)).setCell ⟨cb, 7, none⟩ (.slice (some ⟨gO, 0, none⟩) so so)) w.heap.size rb cb gA_ gR gO cc rr so ⟨(si : Int), (so : Int), (rr : Int), (rows : Int), (cc : Int)⟩ (colF (fun _ => 0) rows 0) (regK (regF D T N ni si nr) 0) (outK (outF D T N ni si nr) 0)) :=
      ⟨⟨by rw [Erb.out]; exact Nat.le_refl _, hrb, by omega, by omega, by omega⟩, hbut.blk (HBR.out.below ((Below.drew (Below.refl _ _)).trans hb)) (by omega), b8, hbut.blk hA2 (hA2.ne b0 (by decide)), hbut.blk hR2 (hR2.ne b0 (by decide)), hbut.blk hO2 (hO2.ne b0 (by decide))⟩
    have hq : w1.heap.size ≤ v.heap.size := hS.2.2.2.2.2
    have HSE : Hid (∀ u : World, But cb v u → u.cell? ⟨sb, 0, none⟩ = some (.int .i64 (si : Int)) ∧ u.cell? ⟨sb, 1, none⟩ = some (.int .i64 (so : Int)) ∧ u.cell? ⟨sb, 2, none⟩ = some (.int .i64 (rr : Int)) ∧ u.cell? ⟨sb, 3, none⟩ = some (.int .i64 (rows : Int)) ∧ u.cell? ⟨sb, 4, none⟩ = some (.int .i64 (cc : Int)) ∧ w1.heap.size ≤ u.heap.size) := fun u hu => ⟨hu.cell hS.1 hsc, hu.cell hS.2.1 hsc, hu.cell hS.2.2.1 hsc, hu.cell hS.2.2.2.1 hsc, hu.cell hS.2.2.2.2.1 hsc, Nat.le_trans hq hu.size⟩
    refine rd 12 fun K hK => ?_
    (try simp only [gA, gB, gC]); go_simp
    refine wo hK (HSE.out _ hbut) fun _ => ?_
    clear hK K
    refine wpAnyH_done (by kernel_rfl) ?_ _
    refine NoPanic.normal ?_
    exact HKK.out gA_ gR gO cb _ HL8 HB8


end Go.Proofs.YtibjgoigdajkkaaDoor
