import Derived.Test.YtibjgoigdajkkaaDoorJ28
namespace Go.Proofs.YtibjgoigdajkkaaDoor
open Go.RowKit

theorem upd_upd {α : Type} (f : Nat → α) (i : Nat) (a b : α) : upd (upd f i a) i b = upd f i b := by
  funext j; unfold upd; by_cases e : j = i <;> simp [e]
/-- a cell is written whole -/
theorem CeAt.whole {w : World} {gb n : Nat} {cs : Nat → CeD} (h : CeAt w gb n cs) (r : Nat) (x0 x1 x2 x3 x4 : Int) : CeAt (((((w.setCell ⟨gb, r * 5, none⟩ (.int .i64 x0)).setCell ⟨gb, r * 5 + 1, none⟩ (.int .i64 x1)).setCell ⟨gb, r * 5 + 2, none⟩ (.int .i64 x2)).setCell ⟨gb, r * 5 + 3, none⟩ (.int .i64 x3)).setCell ⟨gb, r * 5 + 4, none⟩ (.int .i64 x4)) gb n (upd cs r ⟨x0, x1, x2, x3, x4⟩) := by
  have := ((((h.set r 0 x0 (by decide)).set r 1 x1 (by decide)).set r 2 x2 (by decide)).set r 3 x3 (by decide)).set r 4 x4 (by decide)
  simp only [upd_upd, upd_same] at this
  exact this
theorem But.five {w : World} {gb i0 i1 i2 i3 i4 : Nat} {v0 v1 v2 v3 v4 : Value} : But gb w (((((w.setCell ⟨gb, i0, none⟩ v0).setCell ⟨gb, i1, none⟩ v1).setCell ⟨gb, i2, none⟩ v2).setCell ⟨gb, i3, none⟩ v3).setCell ⟨gb, i4, none⟩ v4) :=
  ((((But.set gb i0 w v0).trans (But.set gb i1 _ v1)).trans (But.set gb i2 _ v2)).trans (But.set gb i3 _ v3)).trans (But.set gb i4 _ v4)
/-- what the cells of a column look up is there -/
structure LookOk (D : PnS) (T : PnT) (N : NtD) (f : Int → Option Int) (c : Nat) (hl : List Nat) : Prop where
  n : ∀ i, i ∈ hl → i < D.n ∧ D.sig i ≤ 4000000
  ps : ∀ i, i ∈ hl → T.col i < (c : Int) → ∃ v, f (D.sig i : Nat) = some v
  tb : ∀ i, i ∈ hl → ¬ T.col i < (c : Int) → ∃ d, N.first.toNat ≤ D.sig i ∧ N.tabs[D.sig i - N.first.toNat]? = some d ∧ ∀ s, s ∈ d.ins → -4000000 ≤ s ∧ s ≤ 4000000 ∧ ∃ v, f s = some v
set_option maxRecDepth 100000 in
set_option maxHeartbeats 8000000 in
theorem cells_any (D : PnS) (T : PnT) (w : World) (h : PlAt D w T) (B : Nat) (S : NtS) (N : NtD) (hN : NtAt B w S N) (hB : B ≤ w.heap.size) (hx : BoxAt w D.nb S N) (hin : NtIn N) (rows c : Nat) (hrw : D.sh.rows = rows) (hl : List Nat) (la : Option Addr) (lc : Nat) (hl5 : hl.length ≤ rows) (hr : ∀ k x, hl[k]? = some x → ∃ b o, la = some ⟨b, o, none⟩ ∧ b < w.heap.size ∧ w.cell? ⟨b, o + k, none⟩ = some (.int .i64 (x : Nat)))
    (mb mm : Nat) (f : Int → Option Int) (hM : MAt w mb mm f) (hK : LookOk D T N f c hl) :
    Calls Tryd.prog 45 #[.pointer (some ⟨D.pb, 0, none⟩), .int .i64 (c : Int), .slice la hl.length lc, .map (some mb)] w fun e w' => e = .returned (.slice (some ⟨w.heap.size, 0, none⟩) rows rows) ∧ CeAt w' w.heap.size rows (rowC D T N f c hl hl.length) ∧ Below w.heap.size w w' := by
  have hrb := h.bs.rw_
  rw [hrw] at hrb
  obtain ⟨pb, Epb⟩ := exh D.pb
  obtain ⟨ib, Eib⟩ := exh D.ib
  obtain ⟨nb, Enb⟩ := exh D.nb
  obtain ⟨n, En⟩ := exh D.n
  obtain ⟨ln, Eln⟩ := exh hl.length
  obtain ⟨gb, Egb⟩ := exh w.heap.size
  have HC : Hid (∀ v : World, Below w.heap.size w v → v.cell? ⟨pb, 4, none⟩ = some (.int .i64 (rows : Int)) ∧ v.cell? ⟨pb, 0, none⟩ = some (.pointer (some ⟨nb, 0, none⟩)) ∧ v.cell? ⟨nb, 2, none⟩ = some (.slice S.a2 N.tabs.length S.c2) ∧ MAt v mb mm f ∧ BoxAt v nb S N ∧ NtAt B v S N) := fun v hv => by
    have hp := h.below hv
    have hb := hx.to hx.lt hv
    rw [Epb.out, Enb.out, ← hrw]
    exact ⟨hp.bs.c4, hp.bs.c0, hb.c2, hM.heap (hv.block mb hM.lt), hb, hN.to (hv.mono hB)⟩
  have HR : Hid (∀ v : World, Below w.heap.size w v → ∀ (k x : Nat), hl[k]? = some x → ∃ b o, la = some ⟨b, o, none⟩ ∧ (x : Int) < (n : Int) ∧ v.cell? ⟨b, o + k, none⟩ = some (.int .i64 (x : Nat)) ∧ v.cell? ⟨pb, 6, none⟩ = some (.slice (some ⟨ib, 0, none⟩) n D.icap) ∧ v.cell? ⟨ib, x * 5, none⟩ = some (.int .i64 (D.sig x : Nat)) ∧ v.cell? ⟨ib, x * 5 + 3, none⟩ = some (.int .i64 (T.col x))) := fun v hv k x hx => by
    obtain ⟨b, o, h1, h2, h3⟩ := hr k x hx
    have hxn := (hK.n x (List.mem_of_getElem? hx)).1
    have hp := h.below hv
    refine ⟨b, o, h1, by have := En.out; omega, (hv.cell (p := ⟨b, o + k, none⟩) h2).trans h3, ?_, ?_, ?_⟩
    · rw [Epb.out, Eib.out, En.out, ← hp.bs.ia (by omega)]; exact hp.bs.c6
    · rw [Eib.out]; exact hp.i0 hxn
    · rw [Eib.out]; exact hp.i3 hxn
  have HK := hidden hK
  have HIN := hidden hin
  obtain ⟨ic, hic, hz, hs, hby⟩ := info_cell
  have HI := hidden hic
  have HZ := hidden hz
  have HSI := hidden hs
  have hmkb : ic.bytes * rows ≤ 281474976710656 := by rw [hby]; omega
  have hmx : rows ≤ maxLen := by simp only [maxLen]; omega
  obtain ⟨c4, -⟩ := HC.out w (Below.refl _ _)
  rw [← Eln.out] at hl5
  rw [← Epb.out, ← Eln.out, ← Egb.out]
  have hli := hN.li
  clear h hN hx hM hr hK hin hic hz hs hby hrw
  have tok : True := trivial
  go_enter Tryd.func45, Tryd.ntmps45
  go_upto_region 2 with (have _t := tok; at_make; (refine wpList_make_full _ rfl (.tmp 20) (.tmp 20) 66 rfl w.heap.size 69 ic _ 5 Tryd.underlying66 HI.out HZ.out HSI.out .i64 .i64 (rows : Int) (rows : Int) rows rfl rfl rfl rfl hmkb hmx (Nat.le_refl _) ?_; intro w1 hown1 hgrow1; have HB1 := hidden (none_below hgrow1); have HOM := hidden (full_blk hown1); clear tok hown1 hgrow1))
  rw [← Egb.out]
  have HD1 : Hid (CeAt w1 gb rows (rowC D T N f c hl 0)) := by
    have := HOM.out
    rw [made_cell, ← Egb.out] at this
    exact this
  clear HOM c4
  go_wp2_with fail
  go_loopw [10, 11, 12, 13, 14, 15, 24] (fun _ _ _ _ _ _ i' w' => ∃ k : Nat, k ≤ ln ∧ i' = .int .i64 (k : Int) ∧ Hid (CeAt w' gb rows (rowC D T N f c hl k)) ∧ Hid (Below w.heap.size w w')) (fun _ _ _ _ _ _ i' _ => ln - (intOf i').toNat)
  case atStart => exact ⟨0, Nat.zero_le _, rfl, HD1.out, HB1.out⟩
  case round =>
    clear HD1 HB1
    obtain ⟨k, hk, rfl, HD, HB⟩ := hrel
    by_cases hlt : k < ln
    · have hltI : (k : Int) < (ln : Int) := by omega
      obtain ⟨x, hx⟩ := getElem_lt (show k < hl.length by rw [← Eln.out]; exact hlt)
      obtain ⟨b, o, ea, hxI, cx, c6, i0, i3⟩ := HR.out wr HB.out k x hx
      obtain ⟨hxn, hxs⟩ := HK.out.n x (List.mem_of_getElem? hx)
      obtain ⟨-, p0, n2, hm, hbx, hnt⟩ := HC.out wr HB.out
      have HM := hidden hm
      have HBX := hidden hbx
      have HNT := hidden hnt
      have HNX := hidden (rowC_next D T N f c hl k x hx)
      have hkr : k < rows := by omega
      have hkrI : (k : Int) < (rows : Int) := by omega
      have q0 := HD.out.cell (j := 0) hkr (by decide)
      have q1 := HD.out.cell (j := 1) hkr (by decide)
      have q2 := HD.out.cell (j := 2) hkr (by decide)
      have q3 := HD.out.cell (j := 3) hkr (by decide)
      have q4 := HD.out.cell (j := 4) hkr (by decide)
      have ez : rowC D T N f c hl k k = ce0 := by unfold rowC; rw [if_neg (by omega)]
      rw [ez] at q0 q1 q2 q3 q4
      have qf : ∀ j, wr.frozen? ⟨gb, j, none⟩ = false := fun j => Blk.frozen HD.out j
      have e2 : IntKind.i64.wrap ((k : Int) + 1) = (k : Int) + 1 := wrapI _ (by omega) (by omega)
      obtain ⟨sg, Esg⟩ := exh (D.sig x)
      obtain ⟨cl, Ecl⟩ := exh (T.col x)
      rw [← Esg.out] at i0 hxs
      rw [← Ecl.out] at i3
      subst ea
      clear hm hbx hnt
      by_cases hcl : cl < (c : Int)
      · obtain ⟨v, hv⟩ := HK.out.ps x (List.mem_of_getElem? hx) (by rw [← Ecl.out]; exact hcl)
        rw [← Esg.out] at hv
        have hlk := HM.out.look (k := (sg : Int)) (wf64 (by omega) (by omega)) hv
        have HCE : Hid (ceO D T N f c x = ⟨v, 0, 0, 0, 2⟩) := by
          unfold ceO
          rw [if_pos (by rw [← Ecl.out]; exact hcl)]
          unfold ceP whr
          rw [← Esg.out, hv]; rfl
        have s0 := HD.out.set k 0 v (by decide)
        have s1 := s0.set k 1 0 (by decide)
        have s2 := s1.set k 2 0 (by decide)
        have s3 := s2.set k 3 0 (by decide)
        have t1 := s0.cell (j := 1) hkr (by decide)
        have t2 := s1.cell (j := 2) hkr (by decide)
        have t3 := s2.cell (j := 3) hkr (by decide)
        have t4 := s3.cell (j := 4) hkr (by decide)
        have u1 := Blk.frozen s0 (k * 5 + 1)
        have u2 := Blk.frozen s1 (k * 5 + 2)
        have u3 := Blk.frozen s2 (k * 5 + 3)
        have u4 := Blk.frozen s3 (k * 5 + 4)
        rw [Nat.add_zero] at t1 t2 t3 t4 u1 u2 u3 u4 q0
        have HN := HD.out.whole k v 0 0 0 2
        rw [← HCE.out, HNX.out] at HN
        replace HN := hidden HN
        have HB5 : Hid (Below w.heap.size w (((((wr.setCell ⟨gb, k * 5, none⟩ (.int .i64 v)).setCell ⟨gb, k * 5 + 1, none⟩ (.int .i64 0)).setCell ⟨gb, k * 5 + 2, none⟩ (.int .i64 0)).setCell ⟨gb, k * 5 + 3, none⟩ (.int .i64 0)).setCell ⟨gb, k * 5 + 4, none⟩ (.int .i64 2))) := HB.out.trans (But.five.below (by rw [Egb.out]; exact Nat.le_refl _) HB.out.size)
        clear hv hx s0 s1 s2 s3 HD HB HNX HCE
        generalize ceV _ 1 = y1 at t1
        generalize ceV _ 2 = y2 at t2
        generalize ceV _ 3 = y3 at t3
        generalize ceV _ 4 = y4 at t4
        go_wp2
        go_roundw
        case measure => simp [intOf]; omega
        case rel => exact ⟨k + 1, by omega, by simp, HN.out, HB5.out⟩
      · obtain ⟨d, hfs, hd, hds⟩ := HK.out.tb x (List.mem_of_getElem? hx) (by rw [← Ecl.out]; exact hcl)
        have hF0 : 0 ≤ N.first := by unfold NtD.first; have := HIN.out.i0; omega
        obtain ⟨F, EF⟩ : ∃ F : Nat, Hid (N.first = F) := ⟨N.first.toNat, by show _ = _; omega⟩
        rw [EF.out, Int.toNat_natCast, ← Esg.out] at hfs hd
        obtain ⟨ti, Eti⟩ := exh (sg - F)
        rw [← Eti.out] at hd
        have htl : ti < N.tabs.length := (List.getElem?_eq_some_iff.1 hd).1
        have HCE : Hid (ceO D T N f c x = ceT f d) := by
          unfold ceO
          rw [if_neg (by rw [← Ecl.out]; exact hcl)]
          unfold tabOf
          rw [EF.out, Int.toNat_natCast, ← Esg.out, ← Eti.out, getD_of hd]
          rfl
        have hd4 := (HIN.out.t4 d (List.mem_of_getElem? hd)).1
        have HDS := hidden hds
        obtain ⟨tbb, o2, ea2, hlt2, htc⟩ := HNT.out.t.el hd
        have hdm := List.mem_of_getElem? hd
        have htg : tbb ≠ gb := by rw [Egb.out]; omega
        have tc0 := htc 0 _ rfl
        have tc1 := htc 1 _ rfl
        rw [Nat.add_zero] at tc0
        rw [ea2] at n2
        obtain ⟨da, Eda⟩ := exh d.a
        obtain ⟨dl, Edl⟩ := exh d.ins.length
        obtain ⟨tl, Etl⟩ := exh N.tabs.length
        rw [← Eda.out, ← Edl.out] at tc0
        rw [← Edl.out] at hd4
        rw [← Etl.out] at n2 htl
        have FT : Hid (Calls Tryd.prog 38 #[.pointer (some ⟨nb, 0, none⟩)] wr.drew fun e w' => e = .returned (.int .i64 (F : Int)) ∧ ∃ n, w' = wr.drew.drewN n) := by
          rw [← EF.out]
          exact pfirst_any wr.drew nb S N ⟨HBX.out.lt, HBX.out.c0, HBX.out.c1, HBX.out.c2, HBX.out.c3, HBX.out.c4⟩ HIN.out.i0 HIN.out.i1 hli
        have e3 : IntKind.i64.wrap ((sg : Int) - (F : Int)) = (ti : Int) := by rw [wrapI _ (by omega) (by omega)]; have := Eti.out; omega
        have htI : (ti : Int) < (tl : Int) := by omega
        clear hd htc hds hF0
        go_upto_region 8 with fail
        refine wp_region_noPanic ?_
        refine wp_region_held_drew (S := fun v => v.cell? ⟨pb, 0, none⟩ = some (.pointer (some ⟨nb, 0, none⟩)) ∧ v.cell? ⟨nb, 2, none⟩ = some (.slice (some ⟨tbb, o2, none⟩) tl S.c2) ∧ v.cell? ⟨ib, x * 5, none⟩ = some (.int .i64 (sg : Nat))) (by kernel_rfl) (by exact ⟨p0, n2, i0⟩) (fun hHeld => ?_)
        refine tk 0 ?_
        refine tk 1 ?_
        refine tk 2 ?_
        refine tk 3 ?_
        refine tk 4 ?_
        refine tk 5 ?_
        refine tk 6 ?_
        refine tk 7 ?_
        refine tk 8 ?_
        refine tk 9 ?_
        refine tk 10 ?_
        refine tk 11 ?_
        refine tk 12 ?_
        refine tk 13 ?_
        refine tk 14 ?_
        refine rd 15 fun K hK => ?_
        (try simp only [gA, gB, gC]); go_simp
        go_at_call 38
        refine FT.out.mono ?_
        rintro e v ⟨rfl, q, hv⟩
        rw [hv]
        clear hv v FT
        go_wp2_with fail
        refine wo hK hHeld fun hHeld2 => ?_
        clear hK K
        refine tk 16 ?_
        refine tk 17 ?_
        refine tk 18 ?_
        refine wpAnyH_done (by kernel_rfl) ?_ _
        refine NoPanic.normal ?_
        clear hHeld hHeld2
        have HD2 : Hid (CeAt (wr.drewN (1 + q)) gb rows (rowC D T N f c hl k)) := HD.out
        have HB2 : Hid (Below w.heap.size w (wr.drewN (1 + q))) := Below.drewN HB.out (1 + q)
        have tc0' : (wr.drewN (1 + q)).cell? ⟨tbb, o2 + ti * 2, none⟩ = some (.slice da dl d.c) := tc0
        have tc1' : (wr.drewN (1 + q)).cell? ⟨tbb, o2 + ti * 2 + 1, none⟩ = some (.int .i64 d.bits) := tc1
        have q4' := HD2.out.cell (j := 4) hkr (by decide)
        rw [ez] at q4'
        have qf4 := Blk.frozen HD2.out (k * 5 + 4)
        have HD3 : Hid (CeAt ((wr.drewN (1 + q)).setCell ⟨gb, k * 5 + 4, none⟩ (.int .i64 d.bits)) gb rows (upd (rowC D T N f c hl k) k (ceK f d 0))) := by
          have := HD2.out.set k 4 d.bits (by decide)
          rw [ez] at this
          exact this
        have HB3 : Hid (Below w.heap.size w ((wr.drewN (1 + q)).setCell ⟨gb, k * 5 + 4, none⟩ (.int .i64 d.bits))) := HB2.out.trans ((But.set gb _ _ _).below (by rw [Egb.out]; exact Nat.le_refl _) HB2.out.size)
        have HNT2 : Hid (∀ v : World, Below w.heap.size w v → ∀ (m : Nat) (s : Int), d.ins[m]? = some s → ∃ b o, da = some ⟨b, o, none⟩ ∧ v.cell? ⟨b, o + m, none⟩ = some (.int .i64 s)) := fun v hv m s hs => by
          obtain ⟨b, o, ea, -, hc⟩ := ((HC.out v hv).2.2.2.2.2.ti d hdm).int hs
          exact ⟨b, o, by rw [Eda.out]; exact ea, hc⟩
        clear HD HB HD2 HNT HBX q0 q1 q2 q3 q4 qf p0 n2 i0 i3 c6 cx tc0 tc1
        generalize wr.drewN (1 + q) = w2 at *
        go_upto_region 10 with fail
        clear q4' qf4
        generalize hW3 : w2.setCell ⟨gb, k * 5 + 4, none⟩ (.int .i64 d.bits) = w3 at *
        have tc0'' : w3.cell? ⟨tbb, o2 + ti * 2, none⟩ = some (.slice da dl d.c) := by
          rw [← hW3]; exact (But.set gb _ w2 _).cell tc0' htg
        clear hW3 tc0' tc1' HB2
        go_wp2_with fail
        clear tc0''
        go_loopw [14, 15, 83] (fun _ _ i' w' => ∃ m : Nat, m ≤ dl ∧ i' = .int .i64 (m : Int) ∧ Hid (CeAt w' gb rows (upd (rowC D T N f c hl k) k (ceK f d m))) ∧ Hid (Below w.heap.size w w')) (fun _ _ i' _ => dl - (intOf i').toNat)
        case atStart => exact ⟨0, Nat.zero_le _, rfl, HD3.out, HB3.out⟩
        case round =>
          clear HD3 HB3
          obtain ⟨m, hm, rfl, HD, HB⟩ := hrel
          by_cases hmt : m < dl
          · have hmI : (m : Int) < (dl : Int) := by omega
            obtain ⟨sI, hsI⟩ := getElem_lt (show m < d.ins.length by rw [← Edl.out]; exact hmt)
            obtain ⟨b3, o3, ea3, cs⟩ := HNT2.out wr HB.out m sI hsI
            obtain ⟨hs1, hs2, vv, hvv⟩ := HDS.out sI (List.mem_of_getElem? hsI)
            have HM3 := hidden (HC.out wr HB.out).2.2.2.1
            have hlk := HM3.out.look (k := sI) (wf64 (by omega) (by omega)) hvv
            have hlkd : (Instr.lookup 84 (.map (some mb)) (.int .i64 sI) false).run Tryd.prog wr.drew = .ok (.int .i64 vv) wr.drew := (HM3.out.heap (w' := wr.drew) rfl).look (k := sI) (wf64 (by omega) (by omega)) hvv
            have hm4 : m < 4 := by omega
            have hm4I : (m : Int) < 4 := by omega
            have HDd : Hid (CeAt wr.drew gb rows (upd (rowC D T N f c hl k) k (ceK f d m))) := HD.out
            have qm := HDd.out.cell (r := k) (j := m) hkr (by omega)
            have qfm := Blk.frozen HDd.out (k * 5 + m)
            have HD4 : Hid (CeAt (wr.drew.setCell ⟨gb, k * 5 + m, none⟩ (.int .i64 vv)) gb rows (upd (rowC D T N f c hl k) k (ceK f d (m + 1)))) := by
              have := HDd.out.set k m vv (by omega)
              rw [upd_upd, upd_same] at this
              have e : ceK f d (m + 1) = ceSet (ceK f d m) m vv := by
                show ceSet _ _ _ = _
                rw [getD_of hsI]
                unfold whr
                rw [hvv]; rfl
              rw [e]
              exact this
            have HB4 : Hid (Below w.heap.size w (wr.drew.setCell ⟨gb, k * 5 + m, none⟩ (.int .i64 vv))) := (Below.drew HB.out).trans ((But.set gb _ wr.drew _).below (by rw [Egb.out]; exact Nat.le_refl _) HB.out.size)
            have hlk2 : (Instr.lookup 84 (.map (some mb)) (.int .i64 sI) false).run Tryd.prog (wr.drew.setCell ⟨gb, k * 5 + m, none⟩ (.int .i64 vv)) = .ok (.int .i64 vv) (wr.drew.setCell ⟨gb, k * 5 + m, none⟩ (.int .i64 vv)) := (HC.out _ HB4.out).2.2.2.1.look (k := sI) (wf64 (by omega) (by omega)) hvv
            have e6 : IntKind.i64.wrap ((m : Int) + 1) = (m : Int) + 1 := wrapI _ (by omega) (by omega)
            generalize ceV _ m = ym at qm
            subst ea3
            clear hsI hvv HD HB HDd HM3 hs1 hs2
            go_upto_region 13 with fail
            refine wp_region_noPanic ?_
            refine wp_region_held_drew (S := fun v => (Instr.lookup 84 (.map (some mb)) (.int .i64 sI) false).run Tryd.prog v = .ok (.int .i64 vv) v) (by kernel_rfl) (by exact hlkd) (fun hHeld => ?_)
            refine tk 0 ?_
            refine tk 1 ?_
            refine tk 2 ?_
            refine tk 3 ?_
            refine tk 4 ?_
            refine tk 5 ?_
            refine tk 6 ?_
            refine tk 7 ?_
            refine tk 8 ?_
            refine rd 9 fun K hK => ?_
            (try simp only [gA, gB, gC]); go_simp
            refine wo hK hlk2 fun hHeld2 => ?_
            clear hK K
            refine wpAnyH_done (by kernel_rfl) ?_ _
            refine NoPanic.normal ?_
            clear hHeld hHeld2 hlk hlkd hlk2 qm qfm cs
            go_wp2
            go_roundw
            case measure => simp [intOf]; omega
            case rel => exact ⟨m + 1, by omega, by simp, HD4.out, HB4.out⟩
          · obtain rfl : m = dl := by omega
            have hnm : ¬ (m : Int) < (m : Int) := by omega
            have HD5 : Hid (CeAt wr gb rows (rowC D T N f c hl (k + 1))) := by
              rw [← HNX.out, HCE.out]
              have := HD.out
              rw [Edl.out] at this
              exact this
            clear HD
            go_wp2
            go_roundw
            case measure => simp [intOf]; omega
            case rel => exact ⟨k + 1, by omega, by simp, HD5.out, HB.out⟩
    · obtain rfl : k = ln := by omega
      have hge : ¬ (k : Int) < (k : Int) := by omega
      have HB3 : Hid (Below gb w wr) := by rw [Egb.out]; exact HB.out
      have HD3 : Hid (CeAt wr gb rows (rowC D T N f c hl k)) := HD
      go_wp2
      go_ret
      exact ⟨rfl, HD3.out, HB3.out⟩


end Go.Proofs.YtibjgoigdajkkaaDoor
