import Derived.Test.YtibjgoigdajkkaaDoorJ20
namespace Go.Proofs.YtibjgoigdajkkaaDoor
open Go.RowKit

set_option maxRecDepth 100000 in
set_option maxHeartbeats 8000000 in
theorem move_any (D : PnS) (T : PnT) (w : World) (h : PlAt D w T) (hG : Good D T) (hO : PlOk D) (i : Nat) (hi : D.first ≤ i) (hn : i < D.n) (tf : Bool) :
    Calls Tryd.prog 60 #[.pointer (some ⟨D.pb, 0, none⟩), .int .i64 i, .bool tf] w fun e w' => (∃ v, e = .returned v) ∧ ∃ T', T'.tb = T.tb ∧ PlAt D w' T' ∧ Good D T' ∧ FrP D T.tb w w' := by
  obtain ⟨c0, Hc0⟩ : ∃ c0 : Nat, Hid (T.col i = c0) := ⟨(T.col i).toNat, by show _ = _; have := (hG.iv.on i (allOn_true.2 ⟨hi, hn⟩)).2.2.1; omega⟩
  have hcc := h.bs.cc
  have hns := h.bs.nn
  have hul := untilN_le (h.col i hn).2
  obtain ⟨pb, Epb⟩ := exh D.pb
  obtain ⟨ib, Eib⟩ := exh D.ib
  obtain ⟨n, En⟩ := exh D.n
  obtain ⟨l, El⟩ := exh (D.ins i)
  obtain ⟨ln, Eln⟩ := exh l.length
  obtain ⟨la, Ela⟩ := exh (D.a i)
  obtain ⟨lc, Elc⟩ := exh (D.c i)
  obtain ⟨ut, Eut⟩ := exh (untilN D T i)
  -- the first call's facts
  have c6 := h.bs.c6
  rw [h.bs.ia (by omega), ← Epb.out, ← Eib.out, ← En.out] at c6
  have c3 := h.i3 hn
  rw [← Eib.out, Hc0.out] at c3
  have UI : Hid (∀ v : World, v.heap = w.heap → Calls Tryd.prog 62 #[.pointer (some ⟨pb, 0, none⟩), .int .i64 i] v fun e w' => e = .returned (.int .i64 (ut : Nat)) ∧ w' = v) := fun v hv => by
    rw [Epb.out, Eut.out]; exact until_any D T v (h.heap hv) i hn
  have L1 : Hid (∀ v : World, v.heap = w.heap → Calls Tryd.prog 70 #[.pointer (some ⟨pb, 0, none⟩), .int .i64 (c0 : Int), .int .i64 (ut : Nat), .int .i64 (-1)] v fun e w' => (∃ v, e = .returned v) ∧ PlAt D w' (lowL D T i [] c0) ∧ But D.lb v w') := fun v hv => by
    rw [Epb.out, Eut.out]
    refine (load_any D T v (h.heap hv) c0 (untilN D T i) hul (-1) (fun c _ _ => ?_)).mono ?_
    · have := ldN_le D T D.n c
      rw [hG.ld]; omega
    · rintro e w' ⟨he, hp, hb⟩
      refine ⟨he, ?_, hb⟩
      have e1 : ldAdd T.ld c0 (untilN D T i) (-1) = ldX D T i := by
        rw [hG.ld, ← ldX_out D T hn, Hc0.out]; rfl
      rw [e1] at hp
      unfold lowL lowT
      rw [tkSub_nil]
      exact hp
  have hiI : (i : Int) < (n : Int) := by have := En.out; omega
  rw [← Epb.out]
  go_enter Tryd.func60, Tryd.ntmps60
  go_upto_region 1 with fail
  refine wp_region_noPanic ?_
  refine wp_region_held_drew (S := fun v => v.cell? ⟨ib, i * 5 + 3, none⟩ = some (.int .i64 (c0 : Int))) (by kernel_rfl) (by exact c3) (fun hHeld => ?_)
  refine tk 0 ?_
  refine tk 1 ?_
  refine tk 2 ?_
  refine tk 3 ?_
  refine tk 4 ?_
  refine tk 5 ?_
  refine tk 6 ?_
  refine rd 7 fun K hK => ?_
  (try simp only [gA, gB, gC]); go_simp
  go_at_call 62
  refine (UI.out w.drew rfl).mono ?_
  rintro e v ⟨rfl, hv⟩
  rw [hv]
  clear hv v
  go_wp2_with fail
  refine wo hK hHeld fun hHeld2 => ?_
  clear hK K
  refine rd 8 fun K hK => ?_
  (try simp only [gA, gB, gC]); go_simp
  go_at_call 70
  refine (L1.out w.drew rfl).mono ?_
  rintro e w1 ⟨⟨r1, rfl⟩, hp1, hb1⟩
  have HP1 := hidden hp1
  have HB1 : Hid (But D.lb w w1) := ⟨hb1.os, hb1.tape, hb1.output, hb1.size, hb1.block⟩
  clear hp1 hb1
  have d3 := HP1.out.i3 hn
  rw [← Eib.out] at d3
  have d3' : w1.cell? ⟨ib, i * 5 + 3, none⟩ = some (.int .i64 (c0 : Int)) := by rw [d3]; show some (Value.int .i64 (T.col i)) = _; rw [Hc0.out]
  clear d3
  go_wp2_with fail
  refine wo hK d3' fun hHeld3 => ?_
  clear hK K
  refine wpAnyH_done (by kernel_rfl) ?_ _
  refine NoPanic.normal ?_
  clear hHeld hHeld2 hHeld3 d3' c6 c3 UI L1
  have HF1 : Hid (FrP D T.tb w w1) := HB1.out.frp
  have d1 := HP1.out.i1 hn
  rw [← Eib.out, ← Ela.out, ← El.out, ← Elc.out, ← Eln.out] at d1
  have hl4 : ln ≤ 4 := by rw [Eln.out, El.out]; exact h.bs.insl i hn
  obtain ⟨ic, hic, hz, hs, hby⟩ := info_int
  have HI := hidden hic
  have HZ := hidden hz
  have HSI := hidden hs
  have hmkb : ic.bytes * ln ≤ 281474976710656 := by rw [hby]; omega
  have hmx : ln ≤ maxLen := by simp only [maxLen]; omega
  clear hic hz hs hby HB1
  have HH := hidden h
  have HG := hidden hG
  have HO := hidden hO
  have HCC := hidden hcc
  clear h hG hO hcc
  have tok : True := trivial
  go_upto_region 3 with (have _t := tok; at_make; (refine wpList_make_full _ rfl (.tmp 32) (.tmp 32) 24 rfl w1.heap.size 3 ic _ 1 Tryd.underlying24 HI.out HZ.out HSI.out .i64 .i64 (ln : Int) (ln : Int) ln rfl rfl rfl rfl hmkb hmx (Nat.le_refl _) ?_; intro w2 hown1 hgrow1; have HBN := hidden (none_below hgrow1); have HOM := hidden (full_blk hown1); clear tok hown1 hgrow1))
  obtain ⟨sb, Esb⟩ := exh w1.heap.size
  rw [← Esb.out]
  obtain ⟨st, Est⟩ : ∃ st : Nat → Nat, Hid (∀ m x, l[m]? = some x → st m = untilN D (lowT T l c0) x) := ⟨fun m => untilN D (lowT T l c0) (l.getD m 0), fun m x hx => by
    show untilN D (lowT T l c0) (l.getD m 0) = _
    rw [getD_of hx]⟩
  have HP2 : Hid (PlAt D w2 (lowL D T i (l.take 0) c0)) := HP1.out.below HBN.out
  have HS2 : Hid (Blk w2 sb 3 (stA ln 0 st)) := by
    have := HOM.out
    rw [made_i64, ← Esb.out] at this
    exact this
  have HF2 : Hid (FrP D T.tb w w2) := HF1.out.trans (Below.frp HBN.out)
  have hsC : D.C ≤ sb := by rw [Esb.out]; exact HP1.out.bs.sz
  have hsw : w.heap.size ≤ sb := by rw [Esb.out]; exact HF1.out.size
  have HST : Hid (∀ j, j < D.n → sb ≠ T.tb j) := fun j hj => by
    have := (HH.out.tk j hj).2.lt
    omega
  have hsl : sb ≠ D.lb ∧ sb ≠ D.ib := by have := HH.out.bs.lt; omega
  have d1' := HP2.out.i1 hn
  rw [← Eib.out, ← Ela.out, ← El.out, ← Elc.out, ← Eln.out] at d1'
  have HNI : Hid (∀ x, x ∈ l → x < D.n ∧ x < i ∧ 1 ≤ T.tk x c0 ∧ (T.col x).toNat ≤ untilN D (lowT T l c0) x ∧ untilN D (lowT T l c0) x ≤ untilN D T x ∧ untilN D T x ≤ D.cc) := fun x hx => by
    rw [El.out] at hx ⊢
    exact mv_facts HH.out HG.out hi hn Hc0.out hx
  have HND : Hid l.Nodup := by rw [El.out]; exact HH.out.bs.insd i hn
  clear d1 HP1 HF1 HOM HBN
  go_wp2_with fail
  clear d1'
  go_loopw [8, 9, 10, 39] (fun _ _ _ i' w' => ∃ k : Nat, k ≤ ln ∧ i' = .int .i64 (k : Int) ∧ Hid (PlAt D w' (lowL D T i (l.take k) c0)) ∧ Hid (Blk w' sb 3 (stA ln k st)) ∧ Hid (FrP D T.tb w w')) (fun _ _ _ i' _ => ln - (intOf i').toNat)
  case atStart => exact ⟨0, Nat.zero_le _, rfl, HP2.out, HS2.out, HF2.out⟩
  case round =>
    clear HP2 HS2 HF2
    obtain ⟨k, hk, rfl, HP, HS, HF⟩ := hrel
    by_cases hlt : k < ln
    · have hltI : (k : Int) < (ln : Int) := by omega
      obtain ⟨x, hx⟩ := getElem_lt (show k < l.length by rw [← Eln.out]; exact hlt)
      have hxD : (D.ins i)[k]? = some x := by rw [← El.out]; exact hx
      obtain ⟨f1, f2, f3, f4, f5, f6⟩ := HNI.out x (List.mem_of_getElem? hx)
      have hni := nodup_take HND.out hx
      obtain ⟨tbx, Et⟩ := exh (T.tb x)
      obtain ⟨t, Ett⟩ := exh (T.tk x c0)
      obtain ⟨en, Een⟩ := exh (untilN D T x)
      obtain ⟨sk, Esk⟩ := exh (st k)
      obtain ⟨cc, Ecc⟩ := exh D.cc
      have c6 := HP.out.bs.c6
      rw [HH.out.bs.ia (by omega), ← Epb.out, ← Eib.out, ← En.out] at c6
      have c3 : wr.cell? ⟨ib, i * 5 + 3, none⟩ = some (.int .i64 (c0 : Int)) := by rw [Eib.out, HP.out.i3 hn]; show some (Value.int .i64 (T.col i)) = _; rw [Hc0.out]
      have c4 : wr.cell? ⟨ib, x * 5 + 4, none⟩ = some (.slice (some ⟨tbx, 0, none⟩) (cc + 1) (cc + 1)) := by rw [Eib.out, Et.out, Ecc.out]; exact HP.out.i4 f1
      have hcb := HCC.out
      have hcl := (HG.out.iv.on i (allOn_true.2 ⟨hi, hn⟩)).2.2.2
      rw [Hc0.out] at hcl
      have ct : wr.cell? ⟨tbx, c0, none⟩ = some (.int .i32 (t : Int)) := by
        rw [Et.out, Ett.out]
        refine (HP.out.tkc f1 (c := c0) (by omega)).trans ?_
        show some (Value.int .i32 ((tkSub T.tk (l.take k) c0 x c0 : Nat) : Int)) = _
        rw [tkSub_row hni]
      have ctf : wr.frozen? ⟨tbx, c0, none⟩ = false := by rw [Et.out]; exact (HP.out.tk x f1).2.frozen c0
      obtain ⟨b, o, ea, -, -, -, cx⟩ := HP.out.bs.ins i hn k x hxD
      rw [← Ela.out] at ea
      have UX : Hid (Calls Tryd.prog 62 #[.pointer (some ⟨pb, 0, none⟩), .int .i64 (x : Int)] wr fun e w' => e = .returned (.int .i64 (en : Nat)) ∧ w' = wr) := by
        rw [Epb.out, Een.out, ← untilN_low D T (c := c0) hni]
        exact until_any D _ wr HP.out x f1
      have ht1 : 1 ≤ t := by rw [Ett.out]; exact f3
      have htb := HH.out.tkb x c0 f1
      rw [← Ett.out] at htb
      have e1 : IntKind.i32.wrap ((t : Int) - 1) = (t : Int) - 1 := wrapS _ (by omega) (by omega)
      have hpt : pb ≠ tbx := by rw [Epb.out, Et.out]; have := HH.out.bs.lt; have := (HH.out.tk x f1).1; omega
      have hit : ib ≠ tbx := by rw [Eib.out, Et.out]; have := HH.out.bs.lt; have := (HH.out.tk x f1).1; omega
      have hst : sb ≠ tbx := by rw [Et.out]; exact HST.out x f1
      have HP3 : Hid (PlAt D (wr.drew.setCell ⟨tbx, c0, none⟩ (.int .i32 ((t : Int) - 1))) { T with tk := tkSub T.tk (l.take (k + 1)) c0, ld := ldX D (lowT T (l.take k) c0) i }) := by
        show PlAt _ _ _
        rw [take_next _ k _ hx, ← tkSub_next _ _ hni, Et.out, Ett.out, show ((T.tk x c0 : Int) - 1) = ((T.tk x c0 - 1 : Nat) : Int) by omega]
        exact (HP.out.heap (w' := wr.drew) rfl).setTk (T := lowL D T i (l.take k) c0) f1 c0 _ (by have := HH.out.tkb x c0 f1; omega)
      have HS3 : Hid (Blk (wr.drew.setCell ⟨tbx, c0, none⟩ (.int .i32 ((t : Int) - 1))) sb 3 (stA ln k st)) := (But.set tbx c0 wr.drew _).blk (show Blk wr.drew sb _ _ from HS.out) hst
      have HF3 : Hid (FrP D T.tb w (wr.drew.setCell ⟨tbx, c0, none⟩ (.int .i32 ((t : Int) - 1)))) := by
        rw [Et.out]
        exact (HF.out.trans (b := wr) ⟨rfl, rfl, rfl, Nat.le_refl _, fun _ _ _ _ _ => rfl⟩ : FrP D T.tb w wr.drew).trans ((But.set (T.tb x) c0 wr.drew _).frpT f1)
      have hxI : (x : Int) < (n : Int) := by have := En.out; omega
      have hcI : (c0 : Int) < (cc : Int) + 1 := by rw [Ecc.out]; omega
      subst ea
      clear hni HP HS HF hcl htb hcb
      go_wp2_with fail
      go_at_call 62
      refine UX.out.mono ?_
      rintro e v ⟨rfl, hv⟩
      rw [hv]
      clear hv v UX
      go_upto_region 7 with fail
      refine wp_region_noPanic ?_
      refine wp_region_held_drew (S := fun v => v.cell? ⟨pb, 6, none⟩ = some (.slice (some ⟨ib, 0, none⟩) n D.icap) ∧ v.cell? ⟨ib, x * 5 + 4, none⟩ = some (.slice (some ⟨tbx, 0, none⟩) (cc + 1) (cc + 1)) ∧ v.cell? ⟨ib, i * 5 + 3, none⟩ = some (.int .i64 (c0 : Int))) (by kernel_rfl) (by exact ⟨c6, c4, c3⟩) (fun hHeld => ?_)
      refine tk 0 ?_
      refine tk 1 ?_
      refine tk 2 ?_
      refine tk 3 ?_
      refine tk 4 ?_
      refine tk 5 ?_
      refine tk 6 ?_
      refine tk 7 ?_
      refine tk 8 ?_
      refine tk 9 ?_
      refine tk 10 ?_
      refine tk 11 ?_
      refine tk 12 ?_
      have ctd : wr.drew.cell? ⟨tbx, c0, none⟩ = some (.int .i32 (t : Int)) := ct
      have ctfd : wr.drew.frozen? ⟨tbx, c0, none⟩ = false := ctf
      refine rd 13 fun K hK => ?_
      (try simp only [gA, gB, gC]); go_simp
      refine wo hK hHeld fun hHeld2 => ?_
      clear hK K
      refine tk 14 ?_
      refine tk 15 ?_
      refine rd 16 fun K hK => ?_
      (try simp only [gA, gB, gC]); go_simp
      refine wo hK ⟨(But.set tbx c0 wr.drew _).cell hHeld.1 hpt, (But.set tbx c0 wr.drew _).cell hHeld.2.1 hit, (But.set tbx c0 wr.drew _).cell hHeld.2.2 hit⟩ fun hHeld3 => ?_
      clear hK K
      refine wpAnyH_done (by kernel_rfl) ?_ _
      refine NoPanic.normal ?_
      clear hHeld hHeld2 hHeld3 ct ctf ctd ctfd c6 c3 c4 cx e1
      have e3 : wr.drew.setCell ⟨tbx, c0, none⟩ (.int .i32 ((t : Int) - 1)) = (wr.setCell ⟨tbx, c0, none⟩ (.int .i32 ((t : Int) - 1))).drew := rfl
      rw [e3] at HP3 HS3 HF3
      clear e3
      generalize (wr.setCell ⟨tbx, c0, none⟩ (.int .i32 ((t : Int) - 1))).drew = w3 at *
      have hin : x ∈ l.take (k + 1) := by rw [take_next _ k _ hx]; simp
      have UX3 : Hid (Calls Tryd.prog 62 #[.pointer (some ⟨pb, 0, none⟩), .int .i64 (x : Int)] w3 fun e w' => e = .returned (.int .i64 (sk : Nat)) ∧ w' = w3) := by
        rw [Epb.out, Esk.out, Est.out k x hx, ← untilN_low2 D T hin (List.mem_of_getElem? hx)]
        exact until_any D _ w3 HP3.out x f1
      have cs := HS3.out.cell (tab_get hlt)
      have csf := HS3.out.frozen k
      have HP4 : Hid (PlAt D (w3.setCell ⟨sb, k, none⟩ (.int .i64 (sk : Int))) { T with tk := tkSub T.tk (l.take (k + 1)) c0, ld := ldX D (lowT T (l.take k) c0) i }) := HP3.out.far _ hsC HST.out
      have HS4 : Hid (Blk (w3.setCell ⟨sb, k, none⟩ (.int .i64 (sk : Int))) sb 3 (stA ln (k + 1) st)) := by
        show Blk _ _ _ _
        rw [← stA_next, Esk.out]
        exact HS3.out.set k _
      have HF4 : Hid (FrP D T.tb w (w3.setCell ⟨sb, k, none⟩ (.int .i64 (sk : Int)))) := HF3.out.new hsw (But.set sb k w3 _)
      clear HP3 HF3
      go_wp2_with fail
      go_at_call 62
      refine UX3.out.mono ?_
      rintro e v ⟨rfl, hv⟩
      rw [hv]
      clear hv v UX3
      go_upto_region 9 with fail
      clear cs csf HS3
      generalize w3.setCell ⟨sb, k, none⟩ (.int .i64 (sk : Int)) = w4 at *
      have cs4 : w4.cell? ⟨sb, k, none⟩ = some (.int .i64 (sk : Int)) := by
        refine (HS4.out.cell (tab_get hlt)).trans ?_
        rw [if_pos (by omega), Esk.out]
      have LD : Hid (Calls Tryd.prog 70 #[.pointer (some ⟨pb, 0, none⟩), .int .i64 (sk : Int), .int .i64 (en : Int), .int .i64 (-1)] w4 fun e w' => (∃ v, e = .returned v) ∧ PlAt D w' (lowL D T i (l.take (k + 1)) c0) ∧ But D.lb w4 w') := by
        rw [Epb.out, Esk.out, Een.out, Est.out k x hx]
        have hnx := mv_next HH.out HG.out hi hn Hc0.out hxD
        rw [← El.out] at hnx
        refine (load_any D _ w4 HP4.out (untilN D (lowT T l c0) x) (untilN D T x) f6 (-1) (fun c _ _ => ?_)).mono ?_
        · have := ldX_le D (lowT T (l.take k) c0) i c
          show _ ≤ ldX D (lowT T (l.take k) c0) i c + -1 ∧ ldX D (lowT T (l.take k) c0) i c + -1 ≤ _
          omega
        · rintro e w' ⟨he, hp, hb⟩
          refine ⟨he, ?_, hb⟩
          unfold lowL
          rw [← hnx]
          exact hp
      have e2 : IntKind.i64.wrap ((k : Int) + 1) = (k : Int) + 1 := wrapI _ (by omega) (by omega)
      clear HP4 f1 f2 f3 f4 f5 f6 hx hxD hin
      go_wp2_with fail
      go_at_call 70
      refine LD.out.mono ?_
      rintro e w5 ⟨⟨r5, rfl⟩, hp5, hb5⟩
      have HP5 := hidden hp5
      have HS5 := hidden (hb5.blk HS4.out hsl.1)
      have HF5 := hidden (HF4.out.trans (But.frp hb5))
      clear hp5 hb5 HS4 HF4 LD cs4
      go_wp2
      go_roundw
      case measure => simp [intOf]; omega
      case rel => exact ⟨k + 1, by omega, by simp, HP5.out, HS5.out, HF5.out⟩
    · obtain rfl : k = ln := by omega
      have hge : ¬ (k : Int) < (k : Int) := by omega
      obtain ⟨f, Hf⟩ : ∃ f : Nat, Hid (earL T.col (D.ins i) = f) := ⟨(earL T.col (D.ins i)).toNat, by show _ = _; have := (HG.out.ear HH.out.bs.insn hi hn Hc0.out).1; omega⟩
      have hfl : f ≤ latN D (subT D T i c0) i := by
        have h1 := (HG.out.ear HH.out.bs.insn hi hn Hc0.out).2.1
        have h2 := (HG.out.lat HO.out HCC.out.2.1 HH.out.bs.insn hi hn Hc0.out).1
        rw [Hf.out] at h1
        omega
      have HPS : Hid (PlAt D wr { subT D T i c0 with ld := ldX D (subT D T i c0) i }) := by
        have := HP.out
        rw [List.take_of_length_le (by rw [← Eln.out]; exact Nat.le_refl _), El.out] at this
        exact this
      have BE : Hid (Calls Tryd.prog 72 #[.pointer (some ⟨pb, 0, none⟩), .int .i64 (i : Int), .slice (some ⟨sb, 0, none⟩) k k, .bool tf] wr fun e w' => (∃ b : Nat, f ≤ b ∧ b ≤ latN D (subT D T i c0) i ∧ e = .returned (.int .i64 b)) ∧ ∃ n, w' = wr.drewN n) := by
        have := best_any D _ wr HPS.out i hn (HG.out.ex HO.out HCC.out.2.1 HH.out.bs.insn hi hn Hc0.out) f Hf.out hfl (some ⟨sb, 0, none⟩) k (tabL k fun m => (st m : Int)) (by rw [tabL_len]; exact hl4) (fun m x hx => by
          have hm : m < k := by
            have := (List.getElem?_eq_some_iff.1 hx).1
            rw [tabL_len] at this; exact this
          rw [tabL_get hm] at hx
          refine ⟨sb, 0, rfl, ?_⟩
          rw [Nat.zero_add]
          refine (HS.out.cell (tab_get hm)).trans ?_
          rw [if_pos hm]
          simp only [Option.some.injEq] at hx
          rw [hx]) tf
        rw [tabL_len] at this
        rw [Epb.out]
        exact this
      clear HP
      go_wp2_with fail
      go_at_call 72
      refine BE.out.mono ?_
      rintro e v ⟨⟨b, hb1, hb2, rfl⟩, q, hv⟩
      rw [hv]
      clear hv v BE
      have hbc : b < D.cc := by have := (HG.out.lat HO.out HCC.out.2.1 HH.out.bs.insn hi hn Hc0.out).2.1; omega
      have he1 : earL T.col (D.ins i) ≤ b := by rw [Hf.out]; omega
      have HIV := hidden (HG.out.moved HO.out HCC.out.2.1 HH.out.bs.insn hi hn Hc0.out he1 hb2)
      have PU : Hid (Calls Tryd.prog 56 #[.pointer (some ⟨pb, 0, none⟩), .int .i64 (i : Int), .int .i64 (b : Int)] (wr.drewN q) fun e w' => (∃ v, e = .returned v) ∧ PlAt D w' { putT D (subT D T i c0) i b with ld := ldX D (upT (subT D T i c0) (l.take 0) b) i } ∧ FrP D T.tb (wr.drewN q) w') := by
        rw [Epb.out, List.take_zero]
        have hT := HG.out.iv.take (allOn_true.2 ⟨hi, hn⟩) Hc0.out
        refine (put_any D _ (wr.drewN q) (HPS.out.heap rfl) i hn b hbc (fun x hx => ?_)).mono ?_
        · have hxn := (HNI.out x (by rw [El.out]; exact hx)).1
          show (subT D T i c0).tk x b + 1 ≤ _
          rw [hT.tk x hxn b (by omega)]
          have h1 := cntT_le D (subT D T i c0).col (upd (allOn D) i false) x b
          have h2 : endK D x b = 0 := by unfold endK; rw [if_neg (by omega)]
          omega
        · rintro e w' ⟨he, hp, hf⟩
          refine ⟨he, ?_, hf⟩
          have e1 : upT (subT D T i c0) [] b = subT D T i c0 := by unfold upT; rw [tkAdd_nil]
          rw [e1]
          exact hp
      go_wp2_with fail
      go_at_call 56
      refine PU.out.mono ?_
      rintro e w6 ⟨⟨r6, rfl⟩, hp6, hf6⟩
      have HP6 := hidden hp6
      have HF6 : Hid (FrP D T.tb w w6) := (HF.out.drewN q).trans hf6
      have HS6 : Hid (Blk w6 sb 3 (stA k k st)) := hf6.blk (show Blk (wr.drewN q) sb _ _ from HS.out) hsl.2 hsl.1 HST.out
      clear hp6 hf6 PU HPS HS HF
      have d1 := HP6.out.i1 hn
      rw [← Eib.out, ← Ela.out, ← El.out, ← Elc.out, ← Eln.out] at d1
      go_wp2_with fail
      clear d1
      go_loopw [11, 12, 90] (fun _ _ i' w' => ∃ m : Nat, m ≤ k ∧ i' = .int .i64 (m : Int) ∧ Hid (PlAt D w' { putT D (subT D T i c0) i b with ld := ldX D (upT (subT D T i c0) (l.take m) b) i }) ∧ Hid (Blk w' sb 3 (stA k k st)) ∧ Hid (FrP D T.tb w w')) (fun _ _ i' _ => k - (intOf i').toNat)
      case atStart => exact ⟨0, Nat.zero_le _, rfl, HP6.out, HS6.out, HF6.out⟩
      case round =>
        clear HP6 HS6 HF6
        obtain ⟨m, hm, rfl, HP, HS, HF⟩ := hrel
        by_cases hmt : m < k
        · have hltI : (m : Int) < (k : Int) := by omega
          obtain ⟨x, hx⟩ := getElem_lt (show m < l.length by rw [← Eln.out]; exact hmt)
          have hxD : (D.ins i)[m]? = some x := by rw [← El.out]; exact hx
          obtain ⟨f1, f2, f3, f4, f5, f6⟩ := HNI.out x (List.mem_of_getElem? hx)
          obtain ⟨bb, o, ea, -, -, -, cx⟩ := HP.out.bs.ins i hn m x hxD
          have ea' : la = some ⟨bb, o, none⟩ := Ela.out.trans ea
          obtain ⟨sm, Esm⟩ := exh (st m)
          obtain ⟨eu, Eeu⟩ := exh (untilN D (putT D (subT D T i c0) i b) x)
          have cs : wr.cell? ⟨sb, m, none⟩ = some (.int .i64 (sm : Int)) := by
            refine (HS.out.cell (tab_get hmt)).trans ?_
            rw [if_pos hmt, Esm.out]
          have UX : Hid (∀ v : World, v.heap = wr.heap → Calls Tryd.prog 62 #[.pointer (some ⟨pb, 0, none⟩), .int .i64 (x : Int)] v fun e w' => e = .returned (.int .i64 (eu : Nat)) ∧ w' = v) := fun v hv => by
            rw [Epb.out, Eeu.out]; exact until_any D _ v (HP.out.heap hv) x f1
          have LD : Hid (∀ v : World, v.heap = wr.heap → Calls Tryd.prog 70 #[.pointer (some ⟨pb, 0, none⟩), .int .i64 (sm : Int), .int .i64 (eu : Nat), .int .i64 1] v fun e w' => (∃ v, e = .returned v) ∧ PlAt D w' { putT D (subT D T i c0) i b with ld := ldX D (upT (subT D T i c0) (l.take (m + 1)) b) i } ∧ But D.lb v w') := fun v hv => by
            rw [Epb.out, Eeu.out, Esm.out, Est.out m x hx]
            have hnx := mv_up HH.out HG.out HO.out hi hn Hc0.out he1 hb2 hxD
            rw [← El.out] at hnx
            refine (load_any D _ v (HP.out.heap hv) _ _ (untilN_le (HP.out.col x f1).2) 1 (fun c _ _ => ?_)).mono ?_
            · have := ldX_le D (upT (subT D T i c0) (l.take m) b) i c
              show _ ≤ ldX D (upT (subT D T i c0) (l.take m) b) i c + 1 ∧ ldX D (upT (subT D T i c0) (l.take m) b) i c + 1 ≤ _
              omega
            · rintro e w' ⟨he, hp, hb⟩
              refine ⟨he, ?_, hb⟩
              rw [← hnx]
              exact hp
          have e2 : IntKind.i64.wrap ((m : Int) + 1) = (m : Int) + 1 := wrapI _ (by omega) (by omega)
          subst ea'
          clear HP ea f1 f2 f3 f4 f5 f6 hx hxD
          go_upto_region 15 with fail
          refine wp_region_noPanic ?_
          refine wp_region_held_drew (S := fun v => v.cell? ⟨sb, m, none⟩ = some (.int .i64 (sm : Int))) (by kernel_rfl) (by exact cs) (fun hHeld => ?_)
          refine tk 0 ?_
          refine tk 1 ?_
          refine tk 2 ?_
          refine tk 3 ?_
          refine tk 4 ?_
          refine tk 5 ?_
          refine tk 6 ?_
          refine rd 7 fun K hK => ?_
          (try simp only [gA, gB, gC]); go_simp
          go_at_call 62
          refine (UX.out wr.drew rfl).mono ?_
          rintro e v ⟨rfl, hv⟩
          rw [hv]
          clear hv v
          go_wp2_with fail
          refine wo hK hHeld fun hHeld2 => ?_
          clear hK K
          refine rd 8 fun K hK => ?_
          (try simp only [gA, gB, gC]); go_simp
          go_at_call 70
          refine (LD.out wr.drew rfl).mono ?_
          rintro e w8 ⟨⟨r8, rfl⟩, hp8, hb8⟩
          have HP8 := hidden hp8
          have hb8' : But D.lb wr w8 := ⟨hb8.os, hb8.tape, hb8.output, hb8.size, hb8.block⟩
          have HS8 := hidden (hb8'.blk HS.out hsl.1)
          have HF8 := hidden (HF.out.trans (But.frp hb8'))
          have cs8 := hb8'.cell cs hsl.1
          clear hp8 hb8 hb8' HS HF
          go_wp2_with fail
          refine wo hK cs8 fun hHeld3 => ?_
          clear hK K
          refine wpAnyH_done (by kernel_rfl) ?_ _
          refine NoPanic.normal ?_
          clear hHeld hHeld2 hHeld3 cs8 cs UX LD cx
          go_wp2
          go_roundw
          case measure => simp [intOf]; omega
          case rel => exact ⟨m + 1, by omega, by simp, HP8.out, HS8.out, HF8.out⟩
        · obtain rfl : m = k := by omega
          have hge2 : ¬ (m : Int) < (m : Int) := by omega
          obtain ⟨eu, Eeu⟩ := exh (untilN D (putT D (subT D T i c0) i b) i)
          have hcb : (putT D (subT D T i c0) i b).col i = b := upd_same _ _ _
          have c3 : wr.cell? ⟨ib, i * 5 + 3, none⟩ = some (.int .i64 (b : Int)) := by
            rw [Eib.out, ← hcb]; exact HP.out.i3 hn
          have UX : Hid (∀ v : World, v.heap = wr.heap → Calls Tryd.prog 62 #[.pointer (some ⟨pb, 0, none⟩), .int .i64 (i : Int)] v fun e w' => e = .returned (.int .i64 (eu : Nat)) ∧ w' = v) := fun v hv => by
            rw [Epb.out, Eeu.out]; exact until_any D _ v (HP.out.heap hv) i hn
          have LD : Hid (∀ v : World, v.heap = wr.heap → Calls Tryd.prog 70 #[.pointer (some ⟨pb, 0, none⟩), .int .i64 (b : Int), .int .i64 (eu : Nat), .int .i64 1] v fun e w' => (∃ v, e = .returned v) ∧ PlAt D w' { putT D (subT D T i c0) i b with ld := ldN D (putT D (subT D T i c0) i b) D.n } ∧ But D.lb v w') := fun v hv => by
            rw [Epb.out, Eeu.out]
            have hin := ldX_in D (putT D (subT D T i c0) i b) hn
            rw [hcb, Int.toNat_natCast] at hin
            have hco : ldX D (putT D (subT D T i c0) i b) i = ldX D (upT (subT D T i c0) (l.take m) b) i := ldX_col D _ _ (fun j hj => upd_ne hj) (fun j _ => by
              rw [List.take_of_length_le (by rw [← Eln.out]; exact Nat.le_refl _), El.out]; rfl)
            rw [hco] at hin
            refine (load_any D _ v (HP.out.heap hv) b _ (untilN_le (HP.out.col i hn).2) 1 (fun c _ _ => ?_)).mono ?_
            · have := ldX_le D (upT (subT D T i c0) (l.take m) b) i c
              show _ ≤ ldX D (upT (subT D T i c0) (l.take m) b) i c + 1 ∧ ldX D (upT (subT D T i c0) (l.take m) b) i c + 1 ≤ _
              omega
            · rintro e w' ⟨he, hp, hb⟩
              refine ⟨he, ?_, hb⟩
              rw [← hin]
              exact hp
          have HGO : Hid (Good D { putT D (subT D T i c0) i b with ld := ldN D (putT D (subT D T i c0) i b) D.n }) := ⟨⟨HIV.out.on, HIV.out.c0, HIV.out.tk, HIV.out.od⟩, rfl⟩
          clear HP hcb HIV
          go_upto_region 17 with fail
          refine wp_region_noPanic ?_
          refine wp_region_held_drew (S := fun v => v.cell? ⟨ib, i * 5 + 3, none⟩ = some (.int .i64 (b : Int))) (by kernel_rfl) (by exact c3) (fun hHeld => ?_)
          refine tk 0 ?_
          refine tk 1 ?_
          refine tk 2 ?_
          refine tk 3 ?_
          refine tk 4 ?_
          refine tk 5 ?_
          refine tk 6 ?_
          refine rd 7 fun K hK => ?_
          (try simp only [gA, gB, gC]); go_simp
          go_at_call 62
          refine (UX.out wr.drew rfl).mono ?_
          rintro e v ⟨rfl, hv⟩
          rw [hv]
          clear hv v
          go_wp2_with fail
          refine wo hK hHeld fun hHeld2 => ?_
          clear hK K
          refine rd 8 fun K hK => ?_
          (try simp only [gA, gB, gC]); go_simp
          go_at_call 70
          refine (LD.out wr.drew rfl).mono ?_
          rintro e w8 ⟨⟨r8, rfl⟩, hp8, hb8⟩
          have HP8 := hidden hp8
          have hb8' : But D.lb wr w8 := ⟨hb8.os, hb8.tape, hb8.output, hb8.size, hb8.block⟩
          have HF8 := hidden (HF.out.trans (But.frp hb8'))
          have cs8 := hb8'.cell c3 (by rw [Eib.out]; exact HH.out.bs.ne.2.2)
          clear hp8 hb8 hb8' HS HF
          go_wp2_with fail
          refine wo hK cs8 fun hHeld3 => ?_
          clear hK K
          refine wpAnyH_done (by kernel_rfl) ?_ _
          refine NoPanic.normal ?_
          clear hHeld hHeld2 hHeld3 cs8 c3 UX LD
          go_wp2
          go_end0
          exact ⟨⟨_, rfl⟩, { putT D (subT D T i c0) i b with ld := ldN D (putT D (subT D T i c0) i b) D.n }, rfl, HP8.out, HGO.out, HF8.out⟩


end Go.Proofs.YtibjgoigdajkkaaDoor
