import Derived.Test.YtibjgoigdajkkaaDoorJ38
namespace Go.Proofs.YtibjgoigdajkkaaDoor
open Go.RowKit

theorem newL {w : World} {cc : Nat} (hcc : cc ≤ 100) : ∃ w', (Instr.makeSlice 24 (.int .i64 (cc : Int)) (.int .i64 (cc : Int))).run Tryd.prog w = .ok (.slice (some ⟨w.heap.size, 0, none⟩) cc cc) w' ∧ Blk w' w.heap.size 3 (tabL cc fun _ => .int .i64 0).toArray ∧ Below w.heap.size w w' := by
  obtain ⟨ib, hib, hzb, hsb, hbb⟩ := info_int
  obtain ⟨w', hr, h3, h4⟩ := run_make_full (P := Tryd.prog) w w.heap.size 24 3 ib (.int .i64 0) 1 Tryd.underlying24 hib hzb hsb .i64 .i64 cc (by rw [hbb]; omega) (by simp only [maxLen]; omega) (Nat.le_refl _)
  refine ⟨w', hr, ?_, none_below h4⟩
  have := full_blk h3
  rw [made_i64] at this
  exact this
theorem info_item : ∃ i, Tryd.prog.info? 89 = some i ∧ i.zero = some (.agg #[.int .i64 0, .slice none 0 0, .bool false, .int .i64 0, .slice none 0 0]) ∧ i.size = 5 ∧ i.bytes = 72 := by
  have h : (Tryd.prog.info? 89).map (fun i => (i.zero, i.size, i.bytes)) = some (some (.agg #[.int .i64 0, .slice none 0 0, .bool false, .int .i64 0, .slice none 0 0]), 5, 72) := by kernel_rfl
  cases hi : Tryd.prog.info? 89 with
  | none => rw [hi] at h; simp at h
  | some i => rw [hi] at h; simp at h; exact ⟨i, rfl, h.1, h.2.1, h.2.2⟩
set_option maxRecDepth 100000 in
set_option maxHeartbeats 8000000 in
theorem newPlan_any (w : World) (p B : Nat) (S : NtS) (N : NtD) (hx : BoxAt w p S N) (hN : NtAt B w S N) (hB : B ≤ w.heap.size) (R1 : InL3 w S.a4 S.c4 N.outs) (R2 : InL3 w S.a3 S.c3 N.next) (hin : NtIn N) (F nt tt : Nat) (hF : N.first = F) (hnt : N.tabs.length = nt) (htt : F + nt = tt) (ht : tt ≤ 4000000) (h1 : N.outs.length ≤ 400000) (h2 : N.next.length ≤ 400000) (hnn : (needK N F tt tt).length ≤ 1048576) (sh : ShD) (cc : Nat) (hcc : sh.cols = cc ∧ 1 ≤ cc ∧ cc ≤ 100) (hrw : 1 ≤ sh.rows ∧ sh.rows ≤ 500) :
    Calls Tryd.prog 19 #[.pointer (some ⟨p, 0, none⟩), .agg sh.arr] w fun e w' => ∃ D : PnS, e = .returned (.pointer (some ⟨D.pb, 0, none⟩)) ∧ PlRaw D w' (fun _ => -1) (fun _ => 0) (fun _ => .slice none 0 0) ∧ NewP D N F tt ∧ D.nb = p ∧ D.sh = sh ∧ D.cc = cc ∧ (w.heap.size ≤ D.ib ∧ w.heap.size ≤ D.lb ∧ w.heap.size ≤ D.C ∧ w.heap.size ≤ D.pb) ∧ Below w.heap.size w w' := by
  have HX := hidden hx
  have HN := hidden hN
  have HIN := hidden hin
  have HR1 := hidden R1
  have HR2 := hidden R2
  have HCC := hidden hcc
  have HRW := hidden hrw
  obtain ⟨x0, x1, x2, x3, x4⟩ := sh
  have hx4 : x4 = (cc : Int) := hcc.1
  subst hx4
  have hcc2 : cc ≤ 100 := hcc.2.2
  show Calls Tryd.prog 19 #[.pointer (some ⟨p, 0, none⟩), .agg #[.int .i64 x0, .int .i64 x1, .int .i64 x2, .int .i64 x3, .int .i64 (cc : Int)]] w _
  obtain ⟨sb, Esb⟩ := exh w.heap.size
  have HBS : Hid (Blk (w.alloc (.cells #[.int .i64 x0, .int .i64 x1, .int .i64 x2, .int .i64 x3, .int .i64 (cc : Int)] 28)) sb 28 #[.int .i64 x0, .int .i64 x1, .int .i64 x2, .int .i64 x3, .int .i64 (cc : Int)]) := by rw [Esb.out]; exact Blk.new w _ _
  have HB0 : Hid (Below w.heap.size w (w.alloc (.cells #[.int .i64 x0, .int .i64 x1, .int .i64 x2, .int .i64 x3, .int .i64 (cc : Int)] 28))) := (Below.refl _ _).alloc (Nat.le_refl _) _
  clear hx hN hin R1 R2 hcc hrw
  go_enter Tryd.func19, Tryd.ntmps19
  go_upto_region 1 with fail
  rw [← Esb.out]
  generalize w.alloc (.cells #[.int .i64 x0, .int .i64 x1, .int .i64 x2, .int .i64 x3, .int .i64 (cc : Int)] 28) = w1 at *
  have hsl := HBS.out.lt
  have s0 := HBS.out.cell (i := 0) rfl
  have s1 := HBS.out.cell (i := 1) rfl
  have s2 := HBS.out.cell (i := 2) rfl
  have s3 := HBS.out.cell (i := 3) rfl
  have s4 := HBS.out.cell (i := 4) rfl
  refine wp_region_noPanic ?_
  refine wp_region_held_drew (S := fun v => v.cell? ⟨sb, 0, none⟩ = some (.int .i64 x0) ∧ v.cell? ⟨sb, 1, none⟩ = some (.int .i64 x1) ∧ v.cell? ⟨sb, 2, none⟩ = some (.int .i64 x2) ∧ v.cell? ⟨sb, 3, none⟩ = some (.int .i64 x3) ∧ v.cell? ⟨sb, 4, none⟩ = some (.int .i64 (cc : Int))) (by kernel_rfl) (by exact ⟨s0, s1, s2, s3, s4⟩) (fun hHeld => ?_)
  have HSS : Hid (∀ v : World, Below w1.heap.size w1 v → v.cell? ⟨sb, 0, none⟩ = some (.int .i64 x0) ∧ v.cell? ⟨sb, 1, none⟩ = some (.int .i64 x1) ∧ v.cell? ⟨sb, 2, none⟩ = some (.int .i64 x2) ∧ v.cell? ⟨sb, 3, none⟩ = some (.int .i64 x3) ∧ v.cell? ⟨sb, 4, none⟩ = some (.int .i64 (cc : Int))) := fun v hv => ⟨(hv.cell (p := ⟨sb, 0, none⟩) hsl).trans s0, (hv.cell (p := ⟨sb, 1, none⟩) hsl).trans s1, (hv.cell (p := ⟨sb, 2, none⟩) hsl).trans s2, (hv.cell (p := ⟨sb, 3, none⟩) hsl).trans s3, (hv.cell (p := ⟨sb, 4, none⟩) hsl).trans s4⟩
  clear s0 s1 s2 s3 s4
  refine tk 0 ?_
  refine tk 1 ?_
  refine tk 2 ?_
  refine tk 3 ?_
  obtain ⟨w2, hr2, hk2, hb2⟩ := newL (w := w1.drew) hcc2
  have hb2' : Below w1.heap.size w1 w2 := (Below.drew (Below.refl _ _)).trans hb2
  have HB2 := hidden hb2'
  obtain ⟨lb, Elb⟩ := exh w1.heap.size
  rw [show w1.drew.heap.size = w1.heap.size from rfl, ← Elb.out] at hr2 hk2
  have HL2 := hidden hk2
  clear hk2 hb2 hb2'
  refine rd 4 fun K hK => ?_
  (try simp only [gA, gB, gC]); go_simp
  refine wo hK (HSS.out w2 HB2.out) fun hHeld2 => ?_
  clear hK K hr2
  refine tk 5 ?_
  refine rd 6 fun K hK => ?_
  (try simp only [gA, gB, gC]); go_simp
  obtain ⟨pb, Epb⟩ := exh w2.heap.size
  have HBP : Hid (Blk (w2.alloc (.cells #[.pointer (some ⟨p, 0, none⟩), .int .i64 x0, .int .i64 x1, .int .i64 x2, .int .i64 x3, .int .i64 (cc : Int), .slice none 0 0, .int .i64 0, .slice (some ⟨lb, 0, none⟩) cc cc] 83)) pb 83 (npC p ⟨x0, x1, x2, x3, (cc : Int)⟩ (.slice none 0 0) 0 lb cc)) := by rw [Epb.out]; exact Blk.new w2 _ _
  have hal : Below w2.heap.size w2 (w2.alloc (.cells #[.pointer (some ⟨p, 0, none⟩), .int .i64 x0, .int .i64 x1, .int .i64 x2, .int .i64 x3, .int .i64 (cc : Int), .slice none 0 0, .int .i64 0, .slice (some ⟨lb, 0, none⟩) cc cc] 83)) := (Below.refl _ _).alloc (Nat.le_refl _) _
  have HB3 : Hid (Below w1.heap.size w1 (w2.alloc (.cells #[.pointer (some ⟨p, 0, none⟩), .int .i64 x0, .int .i64 x1, .int .i64 x2, .int .i64 x3, .int .i64 (cc : Int), .slice none 0 0, .int .i64 0, .slice (some ⟨lb, 0, none⟩) cc cc] 83))) := HB2.out.trans (hal.mono HB2.out.size)
  have HL3 : Hid (Blk (w2.alloc (.cells #[.pointer (some ⟨p, 0, none⟩), .int .i64 x0, .int .i64 x1, .int .i64 x2, .int .i64 x3, .int .i64 (cc : Int), .slice none 0 0, .int .i64 0, .slice (some ⟨lb, 0, none⟩) cc cc] 83)) lb 3 (tabL cc fun _ => .int .i64 0).toArray) := HL2.out.below hal
  have hlp : lb < pb := by have := HL2.out.lt; rw [Epb.out]; exact this
  have hwl : w.heap.size ≤ lb := by rw [Elb.out]; exact HB0.out.size
  rw [← Epb.out]
  clear hal
  generalize w2.alloc (.cells #[.pointer (some ⟨p, 0, none⟩), .int .i64 x0, .int .i64 x1, .int .i64 x2, .int .i64 x3, .int .i64 (cc : Int), .slice none 0 0, .int .i64 0, .slice (some ⟨lb, 0, none⟩) cc cc] 83) = w3 at *
  refine wo hK (HSS.out w3 HB3.out) fun hHeld3 => ?_
  clear hK K
  refine tk 7 ?_
  refine wpAnyH_done (by kernel_rfl) ?_ _
  refine NoPanic.normal ?_
  clear hHeld hHeld2 hHeld3 HSS HL2
  have HB3' : Hid (Below w.heap.size w w3) := HB0.out.trans (HB3.out.mono HB0.out.size)
  clear HB0 HB2 HB3 HBS
  obtain ⟨mb, Emb⟩ := exh w3.heap.size
  have hmk : (Instr.makeMap 84 none).run Tryd.prog w3 = .ok (.map (some mb)) (w3.alloc (.map #[] 0)) := by rw [Emb.out]; exact run_makeMap _ w3
  have hal : Below w3.heap.size w3 (w3.alloc (.map #[] 0)) := (Below.refl _ _).alloc (Nat.le_refl _) _
  have HM4 : Hid (MAt (w3.alloc (.map #[] 0)) mb 0 (fun _ => none)) := by rw [Emb.out]; exact MAt.made w3
  have HBP4 : Hid (Blk (w3.alloc (.map #[] 0)) pb 83 (npC p ⟨x0, x1, x2, x3, (cc : Int)⟩ (.slice none 0 0) 0 lb cc)) := HBP.out.below hal
  have HL4 : Hid (Blk (w3.alloc (.map #[] 0)) lb 3 (tabL cc fun _ => .int .i64 0).toArray) := HL3.out.below hal
  have HB4 : Hid (Below w.heap.size w (w3.alloc (.map #[] 0))) := HB3'.out.trans (hal.mono HB3'.out.size)
  have hpm : pb < mb := by have := HBP.out.lt; rw [Emb.out]; exact this
  generalize w3.alloc (.map #[] 0) = w4 at *
  have NE := hidden (needed_any w4 p B S N (HX.out.to HX.out.lt HB4.out) (HN.out.to (HB4.out.mono hB)) (Nat.le_trans hB HB4.out.size) (HR1.out.to HB4.out) (HR2.out.to HB4.out) HIN.out F nt tt hF hnt htt ht h1 h2)
  obtain ⟨L, EL⟩ := exh (needK N F tt tt)
  rw [← EL.out] at NE hnn
  clear hal HBP HL3 HB3'
  go_wp2_with fail
  go_at_call 36
  refine NE.out.mono ?_
  rintro e w5 ⟨vL, rfl, hoL, hb5⟩
  obtain ⟨la, lc, rfl, -, hrow⟩ := own_nats hoL
  have HROW := hidden hrow
  have HLB : Hid (∀ b o, la = some ⟨b, o, none⟩ → mb < b) := fun b o e => by
    have := (own_lt hoL (g := b) (by rw [e]; rfl)).1
    have := HM4.out.lt
    omega
  have hal : Below w4.heap.size w4 w5 := hb5
  have HB5 : Hid (Below w.heap.size w w5) := HB4.out.trans (hal.mono HB4.out.size)
  obtain ⟨C1, EC1⟩ := exh w5.heap.size
  have HM5 : Hid (MAt w5 mb 0 (bkK L 0)) := HM4.out.heap (hal.block mb HM4.out.lt)
  have HNP : Hid (NpAt w5 C1 pb lb mb p ⟨x0, x1, x2, x3, (cc : Int)⟩ cc L (inK L N F) 0 (.slice none 0 0) 0 (fun _ => none) (fun _ => 0)) := by
    have q := HM5.out.lt
    refine ⟨by rw [EC1.out]; omega, ⟨by omega, by omega, by omega⟩, by rw [EC1.out]; exact Nat.le_refl _, HBP4.out.below hal, HL4.out.below hal, ⟨rfl, Or.inl ⟨rfl, rfl⟩⟩, fun i hi => absurd hi (by omega), HM5.out⟩
  obtain ⟨ln, Eln⟩ := exh L.length
  rw [← Eln.out] at hnn
  rw [← Eln.out]
  clear hal hb5 hoL hrow HM4 HBP4 HL4 HB4 HM5 NE hmk
  go_wp2_with fail
  go_loopw [8, 24] (fun _ i' w' => ∃ (k : Nat) (vi : Value) (fs : Nat) (a : Nat → Option Addr) (c : Nat → Nat), k ≤ ln ∧ i' = .int .i64 (k : Int) ∧ Hid (fs = fsK L F k) ∧ Hid (NpAt w' C1 pb lb mb p ⟨x0, x1, x2, x3, (cc : Int)⟩ cc L (inK L N F) k vi fs a c) ∧ Hid (Kp [pb, mb] w5 w')) (fun _ i' _ => ln - (intOf i').toNat)
  case atStart => exact ⟨0, _, 0, _, _, Nat.zero_le _, rfl, rfl, HNP.out, Kp.refl _ _⟩
  case round =>
    clear HNP
    obtain ⟨k, vi, fs, a, c, hk, rfl, HFS, HNP, HKP⟩ := hrel
    by_cases hlt : k < ln
    · have hltI : (k : Int) < (ln : Int) := by omega
      have e2 : IntKind.i64.wrap ((k : Int) + 1) = (k : Int) + 1 := wrapI _ (by omega) (by omega)
      obtain ⟨sg, hsg⟩ := getElem_lt (show k < L.length by rw [← Eln.out]; exact hlt)
      obtain ⟨b, o, ea, hbl, hcb⟩ := HROW.out k sg hsg
      have hmb := HLB.out b o ea
      have cx : wr.cell? ⟨b, o + k, none⟩ = some (.int .i64 (sg : Nat)) := HKP.out.cell hcb hbl (by simp; omega)
      obtain ⟨ia, ic, hvi⟩ := own_slice HNP.out.it
      subst hvi
      have c6 : wr.cell? ⟨pb, 6, none⟩ = some (.slice ia k ic) := HNP.out.box.cell (i := 6) rfl
      have hsgt : sg < tt ∧ 2 ≤ sg := by
        have := List.mem_of_getElem? hsg
        rw [EL.out] at this
        have := mem_needK.1 this
        exact ⟨this.1, this.2.1⟩
      obtain ⟨w6, hr6, hm6, hu6⟩ := HNP.out.mp.upd (by simp only [maxLen]; omega) (k := (sg : Int)) (v := (k : Int)) (wf64 (by omega) (by omega)) (wf64 (by omega) (by omega))
      have HM6 : Hid (MAt w6 mb (k + 1) (bkK L (k + 1))) := by
        show MAt _ _ _ _
        unfold bkK
        rw [getD_of hsg]
        exact hm6
      have HU6 := hidden hu6
      clear hm6 hu6
      subst ea
      go_upto_region 7 with fail
      rename_i K1 hK1
      have hsz0 := HB5.out.size
      have hbw : Below w.heap.size w wr := HB5.out.trans (HKP.out.below (fun g hg => by simp only [List.mem_cons, List.not_mem_nil, or_false] at hg; rcases hg with rfl | rfl <;> omega) HB5.out.size)
      have hbw6 : Below w.heap.size w w6 := hbw.trans (HU6.out.below (by omega) hbw.size)
      have HIK : Hid (tkN (bkK L (k + 1)) (insS N F sg) = inK L N F k) := by show _ = _; unfold inK; rw [getD_of hsg]
      have hp6 : w6.cell? ⟨pb, 0, none⟩ = some (.pointer (some ⟨p, 0, none⟩)) := HU6.out.cell (HNP.out.box.cell (i := 0) rfl) (by show pb ≠ mb; omega)
      have HTK := hidden (taken_any w6.drew pb p mb (k + 1) B S N (bkK L (k + 1)) sg F tt hp6 (HX.out.to HX.out.lt (Below.drew hbw6)) (HN.out.to ((Below.drew hbw6).mono hB)) (Nat.le_trans hB hbw6.size) HIN.out hF (by rw [hnt]; exact htt) ht (HM6.out.heap rfl) (fun s x hs => by obtain ⟨j, h1, h2, h3⟩ := bkK_spec _ _ hs; omega) hsgt.1)
      rw [HIK.out] at HTK
      obtain ⟨vl, Evl⟩ := exh (inK L N F k).length
      rw [← Evl.out] at HTK
      have HFT : Hid (∀ v : World, Kp [pb, mb] w5 v → Calls Tryd.prog 38 #[.pointer (some ⟨p, 0, none⟩)] v fun e w' => e = .returned (.int .i64 (F : Int)) ∧ ∃ n, w' = v.drewN n) := fun v hv => by
        rw [← hF]
        exact pfirst_any v p S N (HX.out.to HX.out.lt (HB5.out.trans (hv.below (fun g hg => by simp only [List.mem_cons, List.not_mem_nil, or_false] at hg; rcases hg with rfl | rfl <;> omega) HB5.out.size))) HIN.out.i0 HIN.out.i1 HN.out.li
      have q6 : w6.drew.cell? ⟨pb, 6, none⟩ = some (.slice ia k ic) := HU6.out.cell c6 (by show pb ≠ mb; omega)
      have HNPP := HNP
      have HPU : Hid (∀ (w7 : World) (va : Option Addr) (vc : Nat), w7.ownsRow w6.heap.size 3 1 (.slice va vl vc) vl ((inK L N F k).map natV) → Below w6.heap.size w6.drew w7 → w7.cell? ⟨pb, 6, none⟩ = some (.slice ia k ic) ∧ (w7.alloc (.cells #[.int .i64 (sg : Int), .slice va vl vc, .bool false, .int .i64 (-1), .slice none 0 0] 89)).cell? ⟨pb, 6, none⟩ = some (.slice ia k ic) ∧ (w7.alloc (.cells #[.int .i64 (sg : Int), .slice va vl vc, .bool false, .int .i64 (-1), .slice none 0 0] 89)).ownsRow C1 89 5 (.slice ia k ic) k (tabL (k * 5) (nwC (fun i => L.getD i 0) a c (inK L N F) fun _ => false)) ∧ C1 ≤ (w7.alloc (.cells #[.int .i64 (sg : Int), .slice va vl vc, .bool false, .int .i64 (-1), .slice none 0 0] 89)).heap.size ∧ ∀ (g cap : Nat) (w9 : World), w9.ownsRow C1 89 5 (.slice (some ⟨g, 0, none⟩) (k + 1) cap) (k + 1) ((tabL (k * 5) (nwC (fun i => L.getD i 0) a c (inK L N F) fun _ => false)) ++ [.int .i64 (sg : Int), .slice va vl vc, .bool false, .int .i64 (-1), .slice none 0 0]) → (w7.alloc (.cells #[.int .i64 (sg : Int), .slice va vl vc, .bool false, .int .i64 (-1), .slice none 0 0] 89)).grownBy w9 (Value.slice ia k ic).ownBlock → ((∃ old, w9.cell? ⟨pb, 6, none⟩ = some old) ∧ w9.frozen? ⟨pb, 6, none⟩ = false) ∧ Hid (NpAt (w9.setCell ⟨pb, 6, none⟩ (.slice (some ⟨g, 0, none⟩) (k + 1) cap)) C1 pb lb mb p ⟨x0, x1, x2, x3, (cc : Int)⟩ cc L (inK L N F) (k + 1) (.slice (some ⟨g, 0, none⟩) (k + 1) cap) fs (upd a k va) (upd c k vc) ∧ Kp [pb, mb] w5 (w9.setCell ⟨pb, 6, none⟩ (.slice (some ⟨g, 0, none⟩) (k + 1) cap)))) := fun w7 va vc hov hb7 => by
        have hb7' : Below w6.heap.size w6 w7 := (Below.drew (Below.refl _ _)).trans hb7
        have hal : Below w7.heap.size w7 (w7.alloc (.cells #[.int .i64 (sg : Int), .slice va vl vc, .bool false, .int .i64 (-1), .slice none 0 0] 89)) := (Below.refl _ _).alloc (Nat.le_refl _) _
        have hpl6 : pb < w6.heap.size := World.block_lt_of_cell? w6 _ hp6
        have q7 := (hb7'.cell (p := ⟨pb, 6, none⟩) hpl6).trans q6
        have hi6 := own_but_ge HNPP.out.it HU6.out HNPP.out.lt.2.2
        have hi7 := own_below hi6 hb7'
        have hsz := HNPP.out.sz
        have hu := HU6.out.size
        have hs7 := hb7'.size
        have hs8 := hal.size
        refine ⟨q7, (hal.cell (p := ⟨pb, 6, none⟩) (by show pb < _; omega)).trans q7, own_below hi7 hal, by omega, fun g cap w9 hown hgrow => ?_⟩
        rw [Evl.out] at hov
        have hnw := nwC_push (fun i => L.getD i 0) a c (inK L N F) k va vc
        have hpu := HNPP.out.push HKP.out EC1.out.symm HU6.out HM6.out hb7' hov hgrow (g := g) (cap := cap) (by
          rw [← hnw]
          show World.ownsRow _ _ _ _ _ _ (_ ++ [.int .i64 ((L.getD k 0 : Nat) : Int), .slice va (inK L N F k).length vc, .bool false, .int .i64 (-1), .slice none 0 0])
          rw [getD_of hsg, ← Evl.out]
          exact hown)
        have hbp : Blk w6 pb 83 (npC p ⟨x0, x1, x2, x3, (cc : Int)⟩ (.slice ia k ic) fs lb cc) := HU6.out.blk HNPP.out.box (by omega)
        have hbp9 : Blk w9 pb 83 (npC p ⟨x0, x1, x2, x3, (cc : Int)⟩ (.slice ia k ic) fs lb cc) := (hgrow.block pb (by omega) (fun e => by have := (own_lt HNPP.out.it e.symm).1; have := HNPP.out.lt; omega)).trans ((hbp.below hb7').below hal)
        exact ⟨⟨⟨_, hbp9.cell (i := 6) rfl⟩, hbp9.frozen 6⟩, hpu⟩
      obtain ⟨ii, hii, hiz, his, hiy⟩ := info_item
      have HII := hidden hii
      have HIZ := hidden hiz
      have HIS := hidden his
      have HIY := hidden hiy
      have hm1 : k + 1 ≤ maxLen := by simp only [maxLen]; omega
      have hm2 : (k + 1) * 72 ≤ 140737488355328 := by omega
      have HSGF : Hid (fsK L F (k + 1) = if sg < F then k + 1 else fsK L F k) := by
        show (if L.getD k 0 < F then k + 1 else fsK L F k) = _
        rw [getD_of hsg]
      have HKK : Hid (∀ (va : Option Addr) (vc g4 g cap : Nat) (w' : World), Hid (NpAt w' C1 pb lb mb p ⟨x0, x1, x2, x3, (cc : Int)⟩ cc L (inK L N F) (k + 1) (.slice (some ⟨g, 0, none⟩) (k + 1) cap) fs (upd a k va) (upd c k vc) ∧ Kp [pb, mb] w5 w') → K1 ⟨#[.pointer (some ⟨p, 0, none⟩), .agg #[.int .i64 x0, .int .i64 x1, .int .i64 x2, .int .i64 x3, .int .i64 (cc : Int)], undef, .pointer (some ⟨sb, 0, none⟩), .pointer none, .pointer (some ⟨pb, 0, none⟩), .map (some mb), undef, .int .i64 (sg : Int), undef, undef, undef, undef, .pointer (some ⟨p, 0, none⟩), .agg #[.int .i64 x0, .int .i64 x1, .int .i64 x2, .int .i64 x3, .int .i64 (cc : Int)], .pointer (some ⟨sb, 4, none⟩), .int .i64 (cc : Int), .slice (some ⟨lb, 0, none⟩) cc cc, .agg #[.pointer (some ⟨p, 0, none⟩), .int .i64 x0, .int .i64 x1, .int .i64 x2, .int .i64 x3, .int .i64 (cc : Int), .slice none 0 0, .int .i64 0, .slice (some ⟨lb, 0, none⟩) cc cc], .pointer (some ⟨pb, 0, none⟩), .map (some mb), .pointer (some ⟨p, 0, none⟩), .slice (some ⟨b, o, none⟩) ln lc, .int .i64 (ln : Int), .int .i64 (k : Int), .bool true, .pointer (some ⟨b, o + k, none⟩), .int .i64 (sg : Int), .map (some mb), .int .i64 (sg : Int), .pointer (some ⟨pb, 0, none⟩), .pointer (some ⟨pb, 0, none⟩), .pointer (some ⟨pb, 6, none⟩), .slice ia k ic, .int .i64 (k : Int), .pointer (some ⟨pb, 0, none⟩), .pointer (some ⟨pb, 0, none⟩), .pointer (some ⟨pb, 0, none⟩), .pointer (some ⟨pb, 6, none⟩), .slice ia k ic, .int .i64 (sg : Int), .pointer (some ⟨pb, 0, none⟩), .int .i64 (sg : Int), .map (some mb), .slice va vl vc, .agg #[.int .i64 (sg : Int), .slice va vl vc, .bool false, .int .i64 (-1), .slice none 0 0], .slice (some ⟨g4, 0, none⟩) 1 1, .slice (some ⟨g, 0, none⟩) (k + 1) cap, .pointer (some ⟨pb, 0, none⟩), .pointer (some ⟨pb, 6, none⟩), u50, u51, u52, u53, u54, u55, u56, u57, u58, u59, u60, u61, u62, undef, undef, undef, undef, undef, undef, undef, undef, undef, undef, undef, undef, undef, undef, undef, undef, undef, undef, undef, undef, undef, undef, undef], []⟩ w') := fun va vc g4 g cap w' HF => by
        refine hK1 _ _ ?_
        clear hK1 HPU HTK HM6 HU6 HNP HKP HNPP hbw hbw6 q6 hp6 c6 cx hcb hr6 HII HIZ HIS HIY hii hiz his hiy hm1 hm2 hsg
        have FT := hidden (HFT.out w' HF.out.2)
        go_wp2_with fail
        go_at_call 38
        refine FT.out.mono ?_
        rintro e v ⟨rfl, q, hv⟩
        have HN2 : Hid (NpAt v C1 pb lb mb p ⟨x0, x1, x2, x3, (cc : Int)⟩ cc L (inK L N F) (k + 1) (.slice (some ⟨g, 0, none⟩) (k + 1) cap) fs (upd a k va) (upd c k vc)) := by rw [hv]; exact HF.out.1.below (Below.drewN (Below.refl _ _) q)
        have HK2 : Hid (Kp [pb, mb] w5 v) := by rw [hv]; exact HF.out.2.drewN q
        clear hv HF FT HFT
        by_cases hsf : sg < F
        · have hsI : (sg : Int) < (F : Int) := by omega
          rw [if_pos hsf] at HSGF
          have d6 : v.cell? ⟨pb, 6, none⟩ = some (.slice (some ⟨g, 0, none⟩) (k + 1) cap) := HN2.out.box.cell (i := 6) rfl
          have d7 : v.cell? ⟨pb, 7, none⟩ = some (.int .i64 fs) := HN2.out.box.cell (i := 7) rfl
          have f7 := HN2.out.box.frozen 7
          obtain ⟨hn3, hk3⟩ := HN2.out.first HK2.out (k + 1)
          have ek : ((k + 1 : Nat) : Int) = (k : Int) + 1 := by omega
          rw [ek] at hn3 hk3
          have HN3 := hidden hn3
          have HK3 := hidden hk3
          clear HN2 HK2 hn3 hk3 ek
          go_wp2
          go_roundw
          case measure => simp [intOf]; omega
          case rel => exact ⟨k + 1, _, k + 1, _, _, by omega, by simp, HSGF.out.symm, HN3.out, HK3.out⟩
        · have hsI : ¬ (sg : Int) < (F : Int) := by omega
          rw [if_neg hsf] at HSGF
          go_wp2
          go_roundw
          case measure => simp [intOf]; omega
          case rel => exact ⟨k + 1, _, fs, _, _, by omega, by simp, HFS.out.trans HSGF.out.symm, HN2.out, HK2.out⟩
      clear hK1 HNP HKP HNPP hbw hbw6 hp6 c6 cx hcb hr6 hii hiz his hiy hsg HM6 HU6 HFT HSGF
      refine wp_region_noPanic ?_
      refine wp_region_held_drew (S := fun _ => True) (by kernel_rfl) trivial (fun _ => ?_)
      refine tk 0 ?_
      refine tk 1 ?_
      refine tk 2 ?_
      refine tk 3 ?_
      refine tk 5 ?_
      refine tk 6 ?_
      refine tk 7 ?_
      refine tk 8 ?_
      refine wpAnyH_ready (rs := [4, 9]) (by kernel_rfl) (by simp) ?_
      refine AllReadyH.cons (o := _) rfl (fun K hK => ?_) ?_
      · (try simp only [gA, gB, gC]); go_simp
        refine wo hK trivial fun _ => ?_
        clear hK K
        refine rd 9 fun K hK => ?_
        (try simp only [gA, gB, gC]); go_simp
        go_at_call 37
        refine HTK.out.mono ?_
        rintro e w7 ⟨vv, rfl, hov, hb7⟩
        obtain ⟨va, vc, rfl⟩ := own_slice hov
        obtain ⟨q7, q8, ho8, hm3, hp9⟩ := HPU.out w7 va vc hov hb7
        have HO8 := hidden ho8
        have HP9 := hidden hp9
        clear hov hb7 ho8 hp9
        go_wp2_with fail
        refine wo hK trivial fun _ => ?_
        clear hK K
        refine tk 10 ?_
        refine rd 11 fun K hK => ?_
        (try simp only [gA, gB, gC]); go_simp
        refine wo hK trivial fun _ => ?_
        clear hK K
        refine rd 12 fun K hK => ?_
        refine step_append_lies _ rfl (.tmp 39) (.tmp 46) 81 rfl C1 89 ii _ 5 72 Tryd.underlying81 HII.out HIZ.out HIS.out HIY.out rfl (by decide) (.slice ia k ic) k _ rfl HO8.out ⟨w7.heap.size, 0, none⟩ 1 1 [.int .i64 (sg : Int), .slice va vl vc, .bool false, .int .i64 (-1), .slice none 0 0] rfl rfl (World.news_of_block (heap_new _ _)) (by simp [Value.oneCell']) (by decide) hm1 hm2 hm3 _ rfl ?_
        intro g cap w9 hown hgrow _ _
        obtain ⟨⟨⟨old, cold⟩, cfr⟩, HF⟩ := HP9.out g cap w9 hown hgrow
        clear hown hgrow
        refine wo hK trivial fun _ => ?_
        clear hK K
        refine tk 13 ?_
        refine tk 14 ?_
        refine rd 15 fun K hK => ?_
        (try simp only [gA, gB, gC]); go_simp
        refine wo hK trivial fun _ => ?_
        clear hK K
        refine wpAnyH_done (by kernel_rfl) ?_ _
        refine NoPanic.normal ?_
        exact HKK.out va vc _ g cap _ HF
      · refine AllReadyH.cons (o := _) rfl (fun K hK => ?_) AllReadyH.nil
        (try simp only [gA, gB, gC]); go_simp
        go_at_call 37
        refine HTK.out.mono ?_
        rintro e w7 ⟨vv, rfl, hov, hb7⟩
        obtain ⟨va, vc, rfl⟩ := own_slice hov
        obtain ⟨q7, q8, ho8, hm3, hp9⟩ := HPU.out w7 va vc hov hb7
        have HO8 := hidden ho8
        have HP9 := hidden hp9
        clear hov hb7 ho8 hp9
        go_wp2_with fail
        refine wo hK trivial fun _ => ?_
        clear hK K
        refine tk 10 ?_
        refine wpAnyH_ready (rs := [4, 11]) (by kernel_rfl) (by simp) ?_
        refine AllReadyH.cons (o := _) rfl (fun K hK => ?_) ?_
        · (try simp only [gA, gB, gC]); go_simp
          refine wo hK trivial fun _ => ?_
          clear hK K
          refine rd 11 fun K hK => ?_
          (try simp only [gA, gB, gC]); go_simp
          refine wo hK trivial fun _ => ?_
          clear hK K
          refine rd 12 fun K hK => ?_
          refine step_append_lies _ rfl (.tmp 39) (.tmp 46) 81 rfl C1 89 ii _ 5 72 Tryd.underlying81 HII.out HIZ.out HIS.out HIY.out rfl (by decide) (.slice ia k ic) k _ rfl HO8.out ⟨w7.heap.size, 0, none⟩ 1 1 [.int .i64 (sg : Int), .slice va vl vc, .bool false, .int .i64 (-1), .slice none 0 0] rfl rfl (World.news_of_block (heap_new _ _)) (by simp [Value.oneCell']) (by decide) hm1 hm2 hm3 _ rfl ?_
          intro g cap w9 hown hgrow _ _
          obtain ⟨⟨⟨old, cold⟩, cfr⟩, HF⟩ := HP9.out g cap w9 hown hgrow
          clear hown hgrow
          refine wo hK trivial fun _ => ?_
          clear hK K
          refine tk 13 ?_
          refine tk 14 ?_
          refine rd 15 fun K hK => ?_
          (try simp only [gA, gB, gC]); go_simp
          refine wo hK trivial fun _ => ?_
          clear hK K
          refine wpAnyH_done (by kernel_rfl) ?_ _
          refine NoPanic.normal ?_
          exact HKK.out va vc _ g cap _ HF
        · refine AllReadyH.cons (o := _) rfl (fun K hK => ?_) AllReadyH.nil
          (try simp only [gA, gB, gC]); go_simp
          refine wo hK trivial fun _ => ?_
          clear hK K
          refine rd 4 fun K hK => ?_
          (try simp only [gA, gB, gC]); go_simp
          refine wo hK trivial fun _ => ?_
          clear hK K
          refine rd 12 fun K hK => ?_
          refine step_append_lies _ rfl (.tmp 39) (.tmp 46) 81 rfl C1 89 ii _ 5 72 Tryd.underlying81 HII.out HIZ.out HIS.out HIY.out rfl (by decide) (.slice ia k ic) k _ rfl HO8.out ⟨w7.heap.size, 0, none⟩ 1 1 [.int .i64 (sg : Int), .slice va vl vc, .bool false, .int .i64 (-1), .slice none 0 0] rfl rfl (World.news_of_block (heap_new _ _)) (by simp [Value.oneCell']) (by decide) hm1 hm2 hm3 _ rfl ?_
          intro g cap w9 hown hgrow _ _
          obtain ⟨⟨⟨old, cold⟩, cfr⟩, HF⟩ := HP9.out g cap w9 hown hgrow
          clear hown hgrow
          refine wo hK trivial fun _ => ?_
          clear hK K
          refine tk 13 ?_
          refine tk 14 ?_
          refine rd 15 fun K hK => ?_
          (try simp only [gA, gB, gC]); go_simp
          refine wo hK trivial fun _ => ?_
          clear hK K
          refine wpAnyH_done (by kernel_rfl) ?_ _
          refine NoPanic.normal ?_
          exact HKK.out va vc _ g cap _ HF
    · obtain rfl : k = ln := by omega
      have hge : ¬ (k : Int) < (k : Int) := by omega
      have hbw : Below w.heap.size w wr := HB5.out.trans (HKP.out.below (fun g hg => by simp only [List.mem_cons, List.not_mem_nil, or_false] at hg; rcases hg with rfl | rfl <;> omega) HB5.out.size)
      have HBW := hidden hbw
      have hA : Asc L := by rw [EL.out]; exact needK_asc _ _ _ _
      obtain ⟨D, d1, d2, d3, d4, d5, d6, d7, d8, d9, d10, d11, d12, d13, htk⟩ := HNP.out.plan hnn ⟨rfl, HCC.out.2⟩ HRW.out (by rw [HFS.out]; exact fsK_le _ _ _) (fun i hi x hxi => inK_lt hA HIN.out hF (by rw [← Eln.out]; exact hi) hxi) (fun i _ => tkN_nodup _ _) (fun i _ => inK_len HIN.out _ _)
      obtain ⟨E, EE⟩ := exh (N.outs ++ N.next)
      have HEB : Hid (∀ s, s ∈ E → 0 ≤ s ∧ s < (tt : Int)) := fun s hs => by
        rw [EE.out] at hs
        have hsg : N.sigs = (tt : Int) := by unfold NtD.sigs; rw [hF, hnt]; omega
        rw [← hsg]
        rcases List.mem_append.1 hs with h | h
        · exact HIN.out.oi s h
        · exact HIN.out.ni s h
      have EN := hidden (ends_any wr p S N (HX.out.to HX.out.lt hbw) (HR1.out.to hbw) (HR2.out.to hbw) h1 h2)
      obtain ⟨le, Ele⟩ := exh E.length
      have hle : N.outs.length + N.next.length = le := by rw [Ele.out, EE.out, List.length_append]
      rw [hle, ← EE.out] at EN
      have hle2 : le ≤ 800000 := by omega
      have HTK0 : Hid (PlTk { D with isEnd := enK L k E 0 } wr (fun _ => -1) (fun _ => 0) (fun _ => .slice none 0 0)) := by
        have e : { D with isEnd := enK L k E 0 } = D := by
          show { D with isEnd := fun _ => false } = D
          rw [← d10]
        rw [e]; exact htk
      have HMP := hidden HNP.out.mp
      have hiC : D.ib < wr.heap.size := by have := htk.bs.lt.2.1; rw [d11] at this; exact this
      have HD := hidden (And.intro d2 (And.intro d3 (And.intro d5 (And.intro d6 (And.intro d7 (And.intro d8 (And.intro d9 (And.intro d11 d12))))))))
      have D1 := hidden d1
      have D4 := hidden d4
      have D13 := hidden d13
      have HLT := hidden HNP.out.lt
      clear d1 d2 d3 d4 d5 d6 d7 d8 d9 d10 d11 d12 d13 htk hle hbw hA HNP HKP HX HN HR1 HR2
      go_wp2_with fail
      go_at_call 39
      refine EN.out.mono ?_
      rintro e w8 ⟨vE, rfl, hoE, hb8⟩
      obtain ⟨ea, ec, rfl⟩ := own_slice hoE
      have HRE : Hid (∀ j x, E[j]? = some x → ∃ b o, ea = some ⟨b, o, none⟩ ∧ wr.heap.size ≤ b ∧ b < w8.heap.size ∧ w8.cell? ⟨b, o + j, none⟩ = some (.int .i64 x)) := fun j x hj => by
        obtain ⟨h1, aw, cw, e, R⟩ := ownRow hoE
        cases e
        obtain ⟨b, o, ha, hlt, hc⟩ := R.el hj
        have hb := own_lt hoE (g := b) (by rw [ha]; rfl)
        exact ⟨b, o, ha, hb.1, hb.2, (congrArg (fun m => w8.cell? ⟨b, o + m, none⟩) (Nat.mul_one j).symm).trans (hc 0 _ rfl)⟩
      have HTK1 := hidden (HTK0.out.below hb8)
      have HMP1 := hidden (HMP.out.heap (hb8.block mb HMP.out.lt))
      have HBW8 := hidden (HBW.out.trans (hb8.mono HBW.out.size))
      have hs8 := hb8.size
      clear HTK0 HMP hoE hb8 EN
      go_wp2_with fail
      go_loopw [10, 11, 12, 66] (fun _ _ _ i' w' => ∃ m : Nat, m ≤ le ∧ i' = .int .i64 (m : Int) ∧ Hid (PlTk { D with isEnd := enK L k E m } w' (fun _ => -1) (fun _ => 0) (fun _ => .slice none 0 0)) ∧ Hid (MAt w' mb k (bkK L k)) ∧ Hid (Kp [D.ib] w8 w')) (fun _ _ _ i' _ => le - (intOf i').toNat)
      case atStart => exact ⟨0, Nat.zero_le _, rfl, HTK1.out, HMP1.out, Kp.refl _ _⟩
      case round =>
        clear HTK1 HMP1
        obtain ⟨m, hm, rfl, HTK, HMP, HKP⟩ := hrel
        by_cases hmt : m < le
        · have hmI : (m : Int) < (le : Int) := by omega
          have e2 : IntKind.i64.wrap ((m : Int) + 1) = (m : Int) + 1 := wrapI _ (by omega) (by omega)
          obtain ⟨x, hx⟩ := getElem_lt (show m < E.length by rw [← Ele.out]; exact hmt)
          obtain ⟨b, o, ea1, hb1, hb2, hcb⟩ := HRE.out m x hx
          have cx : wr.cell? ⟨b, o + m, none⟩ = some (.int .i64 x) := HKP.out.cell hcb hb2 (by simp; omega)
          obtain ⟨hx0, hx1⟩ := HEB.out x (List.mem_of_getElem? hx)
          obtain ⟨cv, hlk, hcv⟩ := HMP.out.lookok (k := x) (wf64 (by omega) (by omega))
          have HNX : Hid (enK L k E (m + 1) = match bkK L k x with | some x => upd (enK L k E m) x.toNat true | none => enK L k E m) := by
            show (match bkK L k (E.getD m 0) with | some x => upd (enK L k E m) x.toNat true | none => enK L k E m) = _
            rw [getD_of hx]
          subst ea1
          clear hx hcb
          cases hfx : bkK L k x with
          | none =>
            rw [hfx] at hlk HNX
            have HTK2 : Hid (PlTk { D with isEnd := enK L k E (m + 1) } wr (fun _ => -1) (fun _ => 0) (fun _ => .slice none 0 0)) := by rw [HNX.out]; exact HTK.out
            clear HTK HNX hcv
            go_wp2
            go_roundw
            case measure => simp [intOf]; omega
            case rel => exact ⟨m + 1, by omega, by simp, HTK2.out, HMP.out, HKP.out⟩
          | some y =>
            have hcy : cv = y := hcv y hfx
            obtain ⟨j, hj1, -, hjy⟩ := bkK_spec _ _ hfx
            rw [hcy, hjy, hfx] at hlk
            rw [hfx, hjy] at HNX
            have hjn : j < D.n := by rw [D4.out]; exact hj1
            have hibm : D.ib ≠ mb := by
              rcases D13.out with h | h
              · omega
              · have := HLT.out.2.2; omega
            have k6 : wr.cell? ⟨pb, 6, none⟩ = some (.slice (some ⟨D.ib, 0, none⟩) k D.icap) := by
              have h1 := HTK.out.bs.c6
              have h2 := HTK.out.bs.ia (show 0 < D.n by omega)
              rw [h2] at h1
              rw [← D1.out, ← D4.out]
              exact h1
            have kb := HTK.out.it (show 0 < D.n by omega)
            have k2 : wr.cell? ⟨D.ib, j * 5 + 2, none⟩ = some (.bool (enK L k E m j)) := by
              rw [← itV_two { D with isEnd := enK L k E m } (fun _ => -1) (fun _ => .slice none 0 0) j]
              exact kb.cell (tabA_get (by show j * 5 + 2 < D.n * 5; omega))
            have kf : wr.frozen? ⟨D.ib, j * 5 + 2, none⟩ = false := kb.frozen _
            have HTK2 : Hid (PlTk { D with isEnd := enK L k E (m + 1) } (wr.setCell ⟨D.ib, j * 5 + 2, none⟩ (.bool true)) (fun _ => -1) (fun _ => 0) (fun _ => .slice none 0 0)) := by
              rw [HNX.out]
              exact HTK.out.fin hjn
            have hbut := But.set D.ib (j * 5 + 2) wr (.bool true)
            have HMP2 : Hid (MAt (wr.setCell ⟨D.ib, j * 5 + 2, none⟩ (.bool true)) mb k (bkK L k)) := HMP.out.heap (hbut.block mb HMP.out.lt (fun e => hibm e.symm))
            have HKP2 : Hid (Kp [D.ib] w8 (wr.setCell ⟨D.ib, j * 5 + 2, none⟩ (.bool true))) := HKP.out.trans (hbut.kp (by simp))
            have hjI : (j : Int) < (k : Int) := by omega
            clear HTK HNX hcv hcy hjy hfx hbut HMP HKP kb hibm hjn
            obtain ⟨ib, Eib⟩ := exh D.ib
            rw [← Eib.out] at k6 k2 kf
            generalize enK L k E m j = old at *
            go_wp2
            go_roundw
            case measure => simp [intOf]; omega
            case rel => exact ⟨m + 1, by omega, by simp, by rw [Eib.out]; exact HTK2.out, by rw [Eib.out]; exact HMP2.out, by rw [Eib.out]; exact HKP2.out⟩
        · obtain rfl : m = le := by omega
          have hge2 : ¬ (m : Int) < (m : Int) := by omega
          obtain ⟨d2, d3, d5, d6, d7, d8, d9, d11, d12⟩ := HD.out
          have hlt := HLT.out
          have hibw : w.heap.size ≤ D.ib := by
            rcases D13.out with h | h
            · rw [h.2]; omega
            · have := HB5.out.size; have := EC1.out; omega
          have HBE : Hid (Below w.heap.size w wr) := HBW8.out.trans (HKP.out.below (fun g hg => by rw [List.mem_singleton.1 hg]; exact hibw) HBW8.out.size)
          have HRAW : Hid (PlRaw { D with isEnd := enK L k E m } wr (fun _ => -1) (fun _ => 0) (fun _ => .slice none 0 0)) := ⟨HTK.out, fun i _ => ⟨Int.le_refl _, by show (-1 : Int) < (D.cc : Int); omega⟩, fun _ _ => rfl, fun _ => ⟨by decide, by decide⟩⟩
          have HNEW : Hid (NewP { D with isEnd := enK L k E m } N F tt) := by
            refine ⟨?_, ?_, ?_, ?_, ?_⟩
            · show D.n = _
              rw [D4.out, Eln.out, EL.out]
            · show D.first = _
              rw [d5, HFS.out, Eln.out, EL.out]
            · intro i
              show D.sig i = _
              rw [d8, EL.out]
            · intro i _
              show D.ins i = _
              rw [d9, EL.out]
            · show enK L k E m = _
              rw [Ele.out, Eln.out, EL.out, EE.out]
          have HSZ : Hid (w.heap.size ≤ D.lb ∧ w.heap.size ≤ D.C ∧ w.heap.size ≤ D.pb) := by
            refine ⟨by rw [d2]; exact hwl, ?_, by rw [D1.out]; omega⟩
            rw [d11]; exact HBW.out.size
          have HE : Hid (Ending.returned (.pointer (some ⟨pb, 0, none⟩)) = .returned (.pointer (some ⟨D.pb, 0, none⟩))) := by show _ = _; rw [D1.out]
          clear HTK HKP HMP
          go_wp2
          go_ret
          exact ⟨{ D with isEnd := enK L k E m }, HE.out, HRAW.out, HNEW.out, d3, d7, d6, ⟨hibw, HSZ.out.1, HSZ.out.2.1, HSZ.out.2.2⟩, HBE.out⟩


end Go.Proofs.YtibjgoigdajkkaaDoor
