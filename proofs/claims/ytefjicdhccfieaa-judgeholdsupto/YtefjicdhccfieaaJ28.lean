import Derived.Test.YtefjicdhccfieaaJ01
import Derived.Test.YtefjicdhccfieaaJ08
import Derived.Deep.RegionHeld3
import Derived.Deep.CutBlock
set_option maxRecDepth 100000
set_option maxHeartbeats 16000000
namespace Go.Proofs.Ytefjicdhccfieaa
open Go.RowKit
def blockAt (n : Nat) : Code → Option Code
 | .block m c => if m = n then some (.block m c) else blockAt n c
 | .seq a b => match blockAt n a with
  | some c => some c
  | none => blockAt n b
 | .loop c => blockAt n c
 | .scope c => blockAt n c
 | .cond _ a b => match blockAt n a with
  | some c => some c
  | none => blockAt n b
 | _ => none
theorem rfLoop (w X Wc : World) (B fx gx qb qo V : Nat) (cls stp : List CL) (sc : Nat) (hB : B ≤ w.heap.size) (hV : V ≤ 100000) (a : Option Addr) (HCL : Hid (ClAt B w a cls)) (HST : Hid (ClAt B w (some ⟨qb, qo, none⟩) stp)) (htot : total cls + total stp ≤ 16777216) (hcs : cls.length + stp.length ≤ 16777216) (HLF : Hid (∀ d, d ∈ cls.map CL.l → ∀ m, m ∈ d → litOk (V : Int) m = true)) (HBW0 : Hid (Below w.heap.size w X)) (HGX0 : Hid (X.grownBy Wc (some gx))) (hgw : w.heap.size ≤ gx) (hgl : gx < X.heap.size) (hfl : fx < X.heap.size) (hfg : fx ≠ gx) (HFX0 : Hid (X.cell? ⟨fx, 0, none⟩ = some (.int .i64 (V : Int)))) (u0 : Value) (HU0 : Hid (Wc.cell? ⟨gx, 1, none⟩ = some u0)) (HV0 : Hid (Wc.cell? ⟨gx, 0, none⟩ = some (.int .i64 (V : Int)))) (HZ0 : Hid (∀ j, Wc.frozen? ⟨gx, j, none⟩ = false)) (HO0 : Hid (Wc.ownsRow X.heap.size 26 1 u0 cls.length ((cls.map CL.cells).flatten))) (K' : Act → World → Prop) (Q0 : Exit → Act → World → Prop) (x0 x3 x4 x5 x8 x9 x10 x11 x12 x13 x14 x15 x16 x17 x18 x19 x20 x21 x22 x23 x24 x25 x26 x27 x28 x29 x30 x31 x32 x33 x34 x35 x36 x37 x38 x39 x40 x41 x42 x43 x44 x45 x46 x47 x48 x49 x50 x51 x52 x53 x54 x55 x56 x57 x58 x59 x60 x61 x62 x63 x64 x65 x66 x67 x68 : Value)
  (HK : Hid (∀ (w' : World) (s4 s7 s8 s37 s38 s39 s40 s41 s42 s43 s44 s45 s46 s47 s48 s49 s50 s51 s52 s53 s54 s55 s56 s57 s58 s59 s60 s61 s62 s63 s64 s65 s66 s67 s68 : Value), ((∀ i c, (stp.map CL.l)[i]? = some c → (∀ m, m ∈ c → litOk (V : Int) m = true) ∧ Fol (cls.map CL.l ++ (stp.map CL.l).take i) c) ∧ Below w.heap.size w w') → K' ⟨#[x0, .slice (some ⟨qb, qo, none⟩) stp.length sc, .pointer (some ⟨fx, 0, none⟩), x3, s4, x5, .pointer (some ⟨gx, 0, none⟩), s7, s8, x9, x10, x11, x12, x13, x14, x15, x16, x17, x18, x19, x20, x21, x22, x23, x24, x25, x26, x27, x28, x29, x30, x31, x32, x33, x34, x35, x36, s37, s38, s39, s40, s41, s42, s43, s44, s45, s46, s47, s48, s49, s50, s51, s52, s53, s54, s55, s56, s57, s58, s59, s60, s61, s62, s63, s64, s65, s66, s67, s68], []⟩ w'))
  (HQ : Hid (∀ (a : Act) (w' : World), a.defers = [] → a.tmps.getD 4 undef = .bool false → ¬ RefP (V : Int) (cls.map CL.l) (stp.map CL.l) → Below w.heap.size w w' → Q0 .ret a w')) :
  Code.wp Try.prog ((Try.f8.body.bind (blockAt 0)).getD .skip) (Exit.then K' Q0) ⟨#[x0, .slice (some ⟨qb, qo, none⟩) stp.length sc, .pointer (some ⟨fx, 0, none⟩), x3, x4, x5, .pointer (some ⟨gx, 0, none⟩), .int .i64 0, x8, x9, x10, x11, x12, x13, x14, x15, x16, x17, x18, x19, x20, x21, x22, x23, x24, x25, x26, x27, x28, x29, x30, x31, x32, x33, x34, x35, x36, x37, x38, x39, x40, x41, x42, x43, x44, x45, x46, x47, x48, x49, x50, x51, x52, x53, x54, x55, x56, x57, x58, x59, x60, x61, x62, x63, x64, x65, x66, x67, x68], []⟩ Wc := by
 conv => arg 2; whnf
 obtain ⟨ic, hi, hz, hs, hbb⟩ := info_cl
 have HIC := hidden hi
 have HZC := hidden hz
 have HSC := hidden hs
 have HYC := hidden hbb
 clear hi hz hs hbb
 go_wp2_with fail
 go_loopw [7] (fun i' w' => ∃ (k : Nat) (u : Value), k ≤ stp.length ∧ i' = .int .i64 k ∧ Hid (w'.cell? ⟨gx, 1, none⟩ = some u) ∧ Hid (w'.cell? ⟨gx, 0, none⟩ = some (.int .i64 (V : Int))) ∧ Hid (∀ j, w'.frozen? ⟨gx, j, none⟩ = false) ∧ Hid (w'.ownsRow X.heap.size 26 1 u (cls.length + k) (((cls ++ stp.take k).map CL.cells).flatten)) ∧ Hid (X.grownBy w' (some gx)) ∧ Hid (∀ i c, i < k → (stp.map CL.l)[i]? = some c → (∀ m, m ∈ c → litOk (V : Int) m = true) ∧ Fol (cls.map CL.l ++ (stp.map CL.l).take i) c)) (fun i' _ => stp.length - (intOf i').toNat)
 case atStart => exact ⟨0, u0, Nat.zero_le _, rfl, HU0.out, HV0.out, HZ0.out, by (show World.ownsRow _ _ _ _ _ _ _); simpa using HO0.out, HGX0.out, fun i c hi => absurd hi (by omega)⟩
 case round =>
  obtain ⟨k, u, hk, rfl, HU, HV, HZ, HO, HG, HP⟩ := hrel
  have hsr := HG.out.size
  have HBE : Hid (Below w.heap.size w wr) := HBW0.out.trans (below_of HG.out hgw HBW0.out.size)
  by_cases hlt : k < stp.length
  ·have hltI : (k : Int) < (stp.length : Int) := by omega
   obtain ⟨t, ht⟩ := getElem_lt hlt
   have HTM : Hid (t ∈ stp) := List.mem_of_getElem? ht
   have HTK : Hid ((stp.map CL.l)[k]? = some t.l) := by show _ = _; rw [List.getElem?_map, ht]; rfl
   obtain ⟨qb', qo', hqe, hqb, hqc⟩ := HST.out.row.el ht
   obtain ⟨rfl, rfl⟩ : qb = qb' ∧ qo = qo' := by simpa using hqe
   have cl0 := hqc 0 _ rfl
   simp only [Nat.mul_one, Nat.add_zero] at cl0
   have HTN := hidden (take_next stp k t ht)
   have htt := total_one stp k t ht
   have htl : t.l.length ≤ 16777216 := by omega
   have HCELL : Hid (((cls ++ stp.take (k + 1)).map CL.cells).flatten = ((cls ++ stp.take k).map CL.cells).flatten ++ [.slice t.a t.l.length t.c]) := by
    show _ = _
    rw [HTN.out, ← List.append_assoc, List.map_append, List.flatten_append]
    simp [CL.cells]
   have HTOT : Hid (total (cls ++ stp.take k) ≤ 16777216) := by show _ ≤ _; rw [total_app]; have := total_le stp k; omega
   have HQC : Hid (∀ w', Below w.heap.size w w' → w'.cell? ⟨qb, qo + k, none⟩ = some (.slice t.a t.l.length t.c)) := fun w' hb => (hb.cell (p := ⟨qb, qo + k, none⟩) (by show qb < _; omega)).trans cl0
   have HROW : Hid (∀ w', Below w.heap.size w w' → RowAt B w' t.a 1 (t.l.map intC)) := fun w' hb => (HST.out.each t HTM.out).to (hb.mono hB)
   have HFX2 : Hid (wr.cell? ⟨fx, 0, none⟩ = some (.int .i64 (V : Int))) := (World.cell?_of_block (HG.out.block fx hfl (fun e => hfg (Option.some.inj e)))).trans HFX0.out
   have HFXB : Hid (∀ w', Below wr.heap.size wr w' → w'.cell? ⟨fx, 0, none⟩ = some (.int .i64 (V : Int))) := fun w' hb => (hb.cell (p := ⟨fx, 0, none⟩) (by show fx < _; omega)).trans HFX2.out
   have hBr : B ≤ wr.heap.size := Nat.le_trans hB HBE.out.size
   have FO : Hid (∀ w', Below wr.heap.size wr w' → Calls Try.prog 21 #[.slice t.a t.l.length t.c, .int .i64 (V : Int)] w' fun e w'' => e = .returned (.bool (t.l.all (litOk (V : Int)))) ∧ Below w'.heap.size w' w'') := fun w' hb => formed_any w' t.a t.c t.l (V : Int) (by omega) (by omega) htl ((HROW.out w' (HBE.out.trans (hb.mono HBE.out.size))).mono (Nat.le_trans hBr hb.size))
   have e3 : IntKind.i64.wrap ((k : Int) + 1) = (k : Int) + 1 := wrapI _ (by omega) (by omega)
   have K9 : Hid (∀ w', Below wr.heap.size wr w' → (fun w' => w'.cell? ⟨fx, 0, none⟩ = some (.int .i64 (V : Int)) ∧ w'.cell? ⟨qb, qo + k, none⟩ = some (.slice t.a t.l.length t.c)) w') := fun w' hb => ⟨HFXB.out w' hb, HQC.out w' (HBE.out.trans (hb.mono HBE.out.size))⟩
   obtain ⟨fo, HFO⟩ : ∃ b, Hid (t.l.all (litOk (V : Int)) = b) := ⟨_, rfl⟩
   rw [HFO.out] at FO
   have FWL : Hid (fo = true → ∀ w', Below wr.heap.size wr w' → ∀ a' c', u = .slice a' (cls.length + k) c' → Calls Try.prog 22 #[.agg #[.int .i64 (V : Int), .slice a' (cls.length + k) c'], .slice t.a t.l.length t.c] w' fun e w'' => FolPost w' (cls.map CL.l ++ (stp.map CL.l).take k) t.l e w'') := fun hfo w' hb a' c' hu => by
    have ho := own_below HO.out hb
    rw [hu] at ho
    obtain ⟨a2, c2, he, hrow⟩ := own_row ho (by intro l hl; obtain ⟨d, _, rfl⟩ := List.mem_map.1 hl; rfl) (by decide)
    cases he
    have hln : (cls ++ stp.take k).length = cls.length + k := by simp; omega
    have hbw : Below w.heap.size w w' := HBE.out.trans (hb.mono HBE.out.size)
    have hBw' : B ≤ w'.heap.size := Nat.le_trans hBr hb.size
    have hcl : ClAt w'.heap.size w' a' (cls ++ stp.take k) := ⟨hrow, fun x hx => by
     rcases List.mem_append.1 hx with hx | hx
     ·exact ((HCL.out.each x hx).to (hbw.mono hB)).mono hBw'
     ·exact ((HST.out.each x (List.mem_of_mem_take hx)).to (hbw.mono hB)).mono hBw', HTOT.out⟩
    have := follows_any w'.heap.size w' a' c' V (cls ++ stp.take k) hcl (Nat.le_refl _) hV (fun x hx m hm => by
     rcases List.mem_append.1 hx with hx | hx
     ·exact litOk_nat (HLF.out x.l (List.mem_map.2 ⟨x, hx, rfl⟩) m hm)
     ·obtain ⟨i, hi⟩ := List.getElem?_of_mem hx
      have hik := (List.getElem?_eq_some_iff.1 hi).1
      rw [List.getElem?_take, if_pos (by simp at hik; omega)] at hi
      exact litOk_nat ((HP.out i x.l (by simp at hik; omega) (by rw [List.getElem?_map, hi]; rfl)).1 m hm)) t.a t.c t.l ((HROW.out w' hbw).mono hBw') htl (fun m hm => litOk_nat (List.all_eq_true.1 (by rw [HFO.out]; exact hfo) m hm))
    rw [hln, List.map_append, List.map_take] at this
    exact this
   clear ht hqc hqe cl0
   generalize htln : t.l.length = tln at *
   have HTLN := hidden htln
   clear htln
   go_upto_region 9 with fail
   (
   refine wp_region_noPanic ?_
   refine wp_region_held_drew (S := (fun w' => w'.cell? ⟨fx, 0, none⟩ = some (.int .i64 (V : Int)) ∧ w'.cell? ⟨qb, qo + k, none⟩ = some (.slice t.a tln t.c))) (by kernel_rfl) (by first | assumption | exact K9.out _ (by assumption) | exact K9.out _ (Below.drew (Below.refl _ _)) | exact K9.out _ (Below.refl _ _)) (fun hHeld => ?_)
   refine tk 0 ?_
   refine tk 1 ?_
   refine tk 2 ?_
   refine tk 3 ?_
   refine tk 4 ?_
   refine tk 5 ?_
   refine wpAnyH_ready (rs := [6]) (by kernel_rfl) (by simp) ?_
   refine AllReadyH.cons (o := _) rfl (fun K hK => ?_) AllReadyH.nil
   (try simp only [gA, gB, gC])
   go_simp
   go_at_call 21
   refine (FO.out _ (Below.drew (Below.refl _ _))).mono ?_
   rintro e w1 ⟨rfl, hb1⟩
   replace hb1 : Below wr.heap.size wr w1 := (Below.drew (Below.refl wr.heap.size wr)).trans hb1
   go_wp2_with fail
   refine hK.out _ _ (by first | assumption | exact K9.out _ (by assumption) | exact K9.out _ (Below.drew (Below.refl _ _)) | exact K9.out _ (Below.refl _ _)) (fun hHeld1 => ?_)
   clear hK K
   try simp only [Act.put, sA, sB, sC]
   refine tk 7 ?_
   refine wpAnyH_done (by kernel_rfl) ?_ _
   refine NoPanic.normal ?_
   )
   try clear hHeld
   try clear hHeld1
   cases fo
   ·have HNOT : Hid (¬ ((∀ m, m ∈ t.l → litOk (V : Int) m = true) ∧ Fol (cls.map CL.l ++ (stp.map CL.l).take k) t.l)) := fun hh => by
     have : t.l.all (litOk (V : Int)) = true := List.all_eq_true.2 hh.1
     rw [HFO.out] at this; cases this
    have HBE2 : Hid (Below w.heap.size w w1) := HBE.out.trans (hb1.mono HBE.out.size)
    replace HBE := HBE2
    go_wp2
    exact HQ.out _ _ rfl rfl (fun hh => HNOT.out (hh.2.2 k t.l HTK.out)) HBE.out
   ·obtain ⟨a', c', hu⟩ : ∃ a' c', u = .slice a' (cls.length + k) c' := by
     obtain ⟨a2, c2, he, _⟩ := own_row HO.out (by intro l hl; obtain ⟨d, _, rfl⟩ := List.mem_map.1 hl; rfl) (by decide)
     exact ⟨a2, c2, he⟩
    subst hu
    obtain ⟨u, hud⟩ : ∃ x, x = Value.slice a' (cls.length + k) c' := ⟨_, rfl⟩
    have HUD := hidden hud
    have HB1 := hidden hb1
    have hs1 := hb1.size
    have FW : Hid (∀ w', Below w1.heap.size w1 w' → Calls Try.prog 22 #[.agg #[.int .i64 (V : Int), u], .slice t.a tln t.c] w' fun e w'' => FolPost w' (cls.map CL.l ++ (stp.map CL.l).take k) t.l e w'') := fun w' hb => by rw [hud]; exact FWL.out rfl w' (HB1.out.trans (hb.mono HB1.out.size)) a' c' rfl
    have hgr : gx < wr.heap.size := by omega
    have HU1 : Hid (w1.cell? ⟨gx, 1, none⟩ = some u) := by rw [hud]; exact (hb1.cell (p := ⟨gx, 1, none⟩) hgr).trans HU.out
    have HV1 : Hid (w1.cell? ⟨gx, 0, none⟩ = some (.int .i64 (V : Int))) := (hb1.cell (p := ⟨gx, 0, none⟩) hgr).trans HV.out
    have HBE1 : Hid (Below w.heap.size w w1) := HBE.out.trans (hb1.mono HBE.out.size)
    have K12 : Hid (∀ w', Below w1.heap.size w1 w' → (fun w' => w'.cell? ⟨gx, 0, none⟩ = some (.int .i64 (V : Int)) ∧ w'.cell? ⟨gx, 1, none⟩ = some u ∧ w'.cell? ⟨qb, qo + k, none⟩ = some (.slice t.a tln t.c)) w') := fun w' hb => ⟨(hb.cell (p := ⟨gx, 0, none⟩) (by show gx < _; omega)).trans HV1.out, (hb.cell (p := ⟨gx, 1, none⟩) (by show gx < _; omega)).trans HU1.out, HQC.out w' (HBE1.out.trans (hb.mono HBE1.out.size))⟩
    clear hud hb1 FO K9 FWL
    go_upto_region 12 with fail
    (
    refine wp_region_noPanic ?_
    refine wp_region_held_drew (S := (fun w' => w'.cell? ⟨gx, 0, none⟩ = some (.int .i64 (V : Int)) ∧ w'.cell? ⟨gx, 1, none⟩ = some u ∧ w'.cell? ⟨qb, qo + k, none⟩ = some (.slice t.a tln t.c))) (by kernel_rfl) (by first | assumption | exact K12.out _ (by assumption) | exact K12.out _ (Below.drew (Below.refl _ _)) | exact K12.out _ (Below.refl _ _)) (fun hHeld => ?_)
    refine tk 0 ?_
    refine tk 1 ?_
    refine tk 2 ?_
    refine tk 3 ?_
    refine tk 4 ?_
    refine wpAnyH_ready (rs := [5]) (by kernel_rfl) (by simp) ?_
    refine AllReadyH.cons (o := _) rfl (fun K hK => ?_) AllReadyH.nil
    (try simp only [gA, gB, gC])
    go_simp
    go_at_call 22
    refine (FW.out _ (Below.drew (Below.refl _ _))).mono ?_
    rintro e w2 ⟨q, rfl, hq, hb2⟩
    replace hb2 : Below w1.heap.size w1 w2 := (Below.drew (Below.refl w1.heap.size w1)).trans hb2
    go_wp2_with fail
    refine hK.out _ _ (by first | assumption | exact K12.out _ (by assumption) | exact K12.out _ (Below.drew (Below.refl _ _)) | exact K12.out _ (Below.refl _ _)) (fun hHeld1 => ?_)
    clear hK K
    try simp only [Act.put, sA, sB, sC]
    refine tk 6 ?_
    refine wpAnyH_done (by kernel_rfl) ?_ _
    refine NoPanic.normal ?_
    )
    try clear hHeld
    try clear hHeld1
    have HQF := hidden hq
    have HBE2 : Hid (Below w.heap.size w w2) := HBE1.out.trans (hb2.mono HBE1.out.size)
    cases q
    ·have HNOT : Hid (¬ ((∀ m, m ∈ t.l → litOk (V : Int) m = true) ∧ Fol (cls.map CL.l ++ (stp.map CL.l).take k) t.l)) := fun hh => by
      have := HQF.out.2 hh.2
      cases this
     replace HBE := HBE2
     clear hq
     go_wp2
     exact HQ.out _ _ rfl rfl (fun hh => HNOT.out (hh.2.2 k t.l HTK.out)) HBE.out
    ·have HPX : Hid (∀ i c, i < k + 1 → (stp.map CL.l)[i]? = some c → (∀ m, m ∈ c → litOk (V : Int) m = true) ∧ Fol (cls.map CL.l ++ (stp.map CL.l).take i) c) := fun i c hi hc => by
      rcases Nat.lt_or_ge i k with h' | h'
      ·exact HP.out i c h' hc
      ·have : i = k := by omega
       subst this
       rw [HTK.out] at hc
       cases hc
       exact ⟨fun m hm => List.all_eq_true.1 HFO.out m hm, HQF.out.1 rfl⟩
     have HBr2 : Hid (Below wr.heap.size wr w2) := HB1.out.trans (hb2.mono HB1.out.size)
     have hs2 := HBr2.out.size
     have HO2 : Hid (w2.ownsRow X.heap.size 26 1 u (cls.length + k) (((cls ++ stp.take k).map CL.cells).flatten)) := by rw [HUD.out]; exact own_below HO.out HBr2.out
     have hu2 : w2.cell? ⟨gx, 1, none⟩ = some u := (hb2.cell (p := ⟨gx, 1, none⟩) (by show gx < _; omega)).trans HU1.out
     have HV2 : Hid (w2.cell? ⟨gx, 0, none⟩ = some (.int .i64 (V : Int))) := (hb2.cell (p := ⟨gx, 0, none⟩) (by show gx < _; omega)).trans HV1.out
     have HF2 : Hid (∀ j, w2.frozen? ⟨gx, j, none⟩ = false) := fun j => (HBr2.out.frozen (p := ⟨gx, j, none⟩) (by show gx < _; omega)).trans (HZ.out j)
     have HGA2 : Hid (X.grownBy w2 (some gx)) := grown_trn HG.out (gbel HBr2.out _)
     have l0 : w2.cell? ⟨qb, qo + k, none⟩ = some (.slice t.a tln t.c) := HQC.out w2 HBE2.out
     have hgl2 : gx < w2.heap.size := by omega
     have hql2 : qb < w2.heap.size := by have := HBE2.out.size; omega
     have far : some gx ≠ u.ownBlock := fun e => by have := (HO2.out.lt gx e.symm).1; omega
     have farq : some qb ≠ u.ownBlock := fun e => by have := (HO2.out.lt qb e.symm).1; omega
     have hqg : qb ≠ gx := by omega
     have hm1 : cls.length + k + 1 ≤ maxLen := by simp only [maxLen]; omega
     have hm2 : (cls.length + k + 1) * 24 ≤ 140737488355328 := by omega
     have hm3 : X.heap.size ≤ ((w2.alloc (.cells #[.slice t.a tln t.c] 26)).drew).heap.size := by simp; omega
     have KL : Hid ((fun w' => w'.cell? ⟨qb, qo + k, none⟩ = some (.slice t.a tln t.c)) w2.drew) := l0
     have KT : Hid (∀ w', w2.grownBy w' u.ownBlock → (fun w' => w'.cell? ⟨qb, qo + k, none⟩ = some (.slice t.a tln t.c)) w') := fun w' hg => (hg.cell_far ⟨qb, qo + k, none⟩ hql2 farq).trans l0
     have KSS : Hid (∀ (w' : World) (xv : Value), (fun w' => w'.cell? ⟨qb, qo + k, none⟩ = some (.slice t.a tln t.c)) w' → (fun w' => w'.cell? ⟨qb, qo + k, none⟩ = some (.slice t.a tln t.c)) (w'.setCell ⟨gx, 1, none⟩ xv)) := fun w' xv hh => (World.cell?_setCell_far w' ⟨gx, 1, none⟩ ⟨qb, qo + k, none⟩ xv (by show gx ≠ qb; omega)).trans hh
     have KP : Hid (∀ w', w2.grownBy w' u.ownBlock → w'.cell? ⟨gx, 1, none⟩ = some u) := fun w' hg => (hg.cell_far ⟨gx, 1, none⟩ hgl2 far).trans hu2
     have KF : Hid (∀ w', w2.grownBy w' u.ownBlock → w'.frozen? ⟨gx, 1, none⟩ = false) := fun w' hg => (hg.frozen_far ⟨gx, 1, none⟩ hgl2 far).trans (HF2.out 1)
     have huA : (w2.alloc (.cells #[.slice t.a tln t.c] 26)).cell? ⟨gx, 1, none⟩ = some u := KP.out _ (World.grownBy_alloc _ _ _)
     clear hq hb2 K12 FW
     go_upto_region 15 with fail
     (
     refine wp_region_noPanic ?_
     refine wp_region_held_drew (S := (fun w' => w'.cell? ⟨qb, qo + k, none⟩ = some (.slice t.a tln t.c))) (by kernel_rfl) (by (first | assumption | exact KL.out | exact KT.out _ (grown_refl' _ _) | exact KT.out _ (grown_ad _ _ _) | exact KT.out _ (by assumption) | exact KSS.out _ _ (by assumption))) (fun hHeld => ?_)
     refine tk 0 ?_
     refine tk 2 ?_
     refine tk 3 ?_
     refine tk 4 ?_
     refine tk 5 ?_
     refine wpAnyH_ready (rs := [1, 6]) (by kernel_rfl) (by simp) ?_
     refine AllReadyH.cons (o := _) rfl (fun K hK => ?_) ?_
     ·(try simp only [gA, gB, gC])
      go_simp
      refine hK.out _ _ (by (first | assumption | exact KL.out | exact KT.out _ (grown_refl' _ _) | exact KT.out _ (grown_ad _ _ _) | exact KT.out _ (by assumption) | exact KSS.out _ _ (by assumption))) (fun hHeld1 => ?_)
      clear hK K
      (try simp only [Act.put]); (try simp only [sA]); (try simp only [sB, sC])
      refine wpAnyH_ready (rs := [6]) (by kernel_rfl) (by simp) ?_
      refine AllReadyH.cons (o := _) rfl (fun K hK => ?_) AllReadyH.nil
      (try simp only [gA, gB, gC])
      go_simp
      refine hK.out _ _ (by (first | assumption | exact KL.out | exact KT.out _ (grown_refl' _ _) | exact KT.out _ (grown_ad _ _ _) | exact KT.out _ (by assumption) | exact KSS.out _ _ (by assumption))) (fun hHeld6 => ?_)
      clear hK K
      (try simp only [Act.put]); (try simp only [sA]); (try simp only [sB, sC])
      refine wpAnyH_ready (rs := [7]) (by kernel_rfl) (by simp) ?_
      refine AllReadyH.cons (o := _) rfl (fun K hK => ?_) AllReadyH.nil
      refine step_append_lies _ rfl (.tmp 61) (.tmp 66) 22 rfl X.heap.size 26 ic _ 1 24 Try.underlying22 HIC.out HZC.out HSC.out HYC.out rfl (by decide) u (cls.length + k) _ rfl (HO2.out.alloc _).drew ⟨w2.heap.size, 0, none⟩ 1 1 [.slice t.a tln t.c] rfl rfl (World.news_of_block (heap_new _ _)) (by simp [Value.oneCell']) (by decide) hm1 hm2 hm3 _ rfl ?_
      intro g cap w5 hown hgrow hat hlt5
      have HG5 := grown_trn (grown_ad _ _ _) hgrow
      have hc5 := KP.out w5 HG5
      have hf5 := KF.out w5 HG5
      refine hK.out _ _ (by (first | assumption | exact KL.out | exact KT.out _ (grown_refl' _ _) | exact KT.out _ (grown_ad _ _ _) | exact KT.out _ (by assumption) | exact KSS.out _ _ (by assumption))) (fun hHeldp => ?_)
      clear hK K
      (try simp only [Act.put]); (try simp only [sA]); (try simp only [sB, sC])
      refine tk 8 ?_
      refine wpAnyH_ready (rs := [9]) (by kernel_rfl) (by simp) ?_
      refine AllReadyH.cons (o := _) rfl (fun K hK => ?_) AllReadyH.nil
      (try simp only [gA, gB, gC])
      go_simp
      refine hK.out _ _ (by (first | assumption | exact KL.out | exact KT.out _ (grown_refl' _ _) | exact KT.out _ (grown_ad _ _ _) | exact KT.out _ (by assumption) | exact KSS.out _ _ (by assumption))) (fun hHeld9 => ?_)
      clear hK K
      (try simp only [Act.put]); (try simp only [sA]); (try simp only [sB, sC])
      refine wpAnyH_done (by kernel_rfl) ?_ _
      refine NoPanic.normal ?_
      generalize hW6 : World.setCell w5 _ _ = w6
      have hgs : w5.grownBy w6 (some gx) := by rw [← hW6]; exact gset _ _ _ _
      have hgh : g ≠ gx := fun e => by
       rcases hat with h | h
       ·have := (HO2.out.lt g h).1; omega
       ·simp at h; omega
      have HU6 : Hid (w6.cell? ⟨gx, 1, none⟩ = some (.slice (some ⟨g, 0, none⟩) (cls.length + k + 1) cap)) := by rw [← hW6]; exact World.cell?_setCell_same (h := hc5) ..
      have HV6 : Hid (w6.cell? ⟨gx, 0, none⟩ = some (.int .i64 (V : Int))) := by
       rw [← hW6]
       refine (World.cell?_setCell_other (h := fun e => by cases e) ..).trans ?_
       exact (HG5.cell_far ⟨gx, 0, none⟩ hgl2 far).trans HV2.out
      have HZ6 : Hid (∀ j, w6.frozen? ⟨gx, j, none⟩ = false) := fun j => by rw [← hW6]; exact (World.frozen?_setCell _ _ _ _).trans ((HG5.frozen_far ⟨gx, j, none⟩ hgl2 far).trans (HF2.out j))
      have HO6 : Hid (w6.ownsRow X.heap.size 26 1 (.slice (some ⟨g, 0, none⟩) (cls.length + k + 1) cap) (cls.length + (k + 1)) (((cls ++ stp.take (k + 1)).map CL.cells).flatten)) := by
       have := hown.kept hgs (.inr (fun e => hgh (by cases e; rfl)))
       rw [HCELL.out]; exact this
      have HG6 : Hid (X.grownBy w6 (some gx)) := grown_thru HGA2.out HG5 hgs (fun x hx => (HO2.out.lt x hx).1)
      clear hW6 hgs hgh hown hgrow hat hlt5 HG5 hc5 hf5 KP KF KT KSS KL HO2 HO hu2
      go_wp2
      go_roundw
      case measure => simp [intOf]; omega
      case rel => exact ⟨k + 1, _, by omega, by simp, HU6.out, HV6.out, HZ6.out, HO6.out, HG6.out, HPX.out⟩
     refine AllReadyH.cons (o := _) rfl (fun K hK => ?_) AllReadyH.nil
     (try simp only [gA, gB, gC])
     go_simp
     refine hK.out _ _ (by (first | assumption | exact KL.out | exact KT.out _ (grown_refl' _ _) | exact KT.out _ (grown_ad _ _ _) | exact KT.out _ (by assumption) | exact KSS.out _ _ (by assumption))) (fun hHeld6 => ?_)
     clear hK K
     (try simp only [Act.put]); (try simp only [sA]); (try simp only [sB, sC])
     refine wpAnyH_ready (rs := [1]) (by kernel_rfl) (by simp) ?_
     refine AllReadyH.cons (o := _) rfl (fun K hK => ?_) AllReadyH.nil
     (try simp only [gA, gB, gC])
     go_simp
     refine hK.out _ _ (by (first | assumption | exact KL.out | exact KT.out _ (grown_refl' _ _) | exact KT.out _ (grown_ad _ _ _) | exact KT.out _ (by assumption) | exact KSS.out _ _ (by assumption))) (fun hHeld1 => ?_)
     clear hK K
     (try simp only [Act.put]); (try simp only [sA]); (try simp only [sB, sC])
     refine wpAnyH_ready (rs := [7]) (by kernel_rfl) (by simp) ?_
     refine AllReadyH.cons (o := _) rfl (fun K hK => ?_) AllReadyH.nil
     refine step_append_lies _ rfl (.tmp 61) (.tmp 66) 22 rfl X.heap.size 26 ic _ 1 24 Try.underlying22 HIC.out HZC.out HSC.out HYC.out rfl (by decide) u (cls.length + k) _ rfl (HO2.out.alloc _).drew ⟨w2.heap.size, 0, none⟩ 1 1 [.slice t.a tln t.c] rfl rfl (World.news_of_block (heap_new _ _)) (by simp [Value.oneCell']) (by decide) hm1 hm2 hm3 _ rfl ?_
     intro g cap w5 hown hgrow hat hlt5
     have HG5 := grown_trn (grown_ad _ _ _) hgrow
     have hc5 := KP.out w5 HG5
     have hf5 := KF.out w5 HG5
     refine hK.out _ _ (by (first | assumption | exact KL.out | exact KT.out _ (grown_refl' _ _) | exact KT.out _ (grown_ad _ _ _) | exact KT.out _ (by assumption) | exact KSS.out _ _ (by assumption))) (fun hHeldp => ?_)
     clear hK K
     (try simp only [Act.put]); (try simp only [sA]); (try simp only [sB, sC])
     refine tk 8 ?_
     refine wpAnyH_ready (rs := [9]) (by kernel_rfl) (by simp) ?_
     refine AllReadyH.cons (o := _) rfl (fun K hK => ?_) AllReadyH.nil
     (try simp only [gA, gB, gC])
     go_simp
     refine hK.out _ _ (by (first | assumption | exact KL.out | exact KT.out _ (grown_refl' _ _) | exact KT.out _ (grown_ad _ _ _) | exact KT.out _ (by assumption) | exact KSS.out _ _ (by assumption))) (fun hHeld9 => ?_)
     clear hK K
     (try simp only [Act.put]); (try simp only [sA]); (try simp only [sB, sC])
     refine wpAnyH_done (by kernel_rfl) ?_ _
     refine NoPanic.normal ?_
     generalize hW6 : World.setCell w5 _ _ = w6
     have hgs : w5.grownBy w6 (some gx) := by rw [← hW6]; exact gset _ _ _ _
     have hgh : g ≠ gx := fun e => by
      rcases hat with h | h
      ·have := (HO2.out.lt g h).1; omega
      ·simp at h; omega
     have HU6 : Hid (w6.cell? ⟨gx, 1, none⟩ = some (.slice (some ⟨g, 0, none⟩) (cls.length + k + 1) cap)) := by rw [← hW6]; exact World.cell?_setCell_same (h := hc5) ..
     have HV6 : Hid (w6.cell? ⟨gx, 0, none⟩ = some (.int .i64 (V : Int))) := by
      rw [← hW6]
      refine (World.cell?_setCell_other (h := fun e => by cases e) ..).trans ?_
      exact (HG5.cell_far ⟨gx, 0, none⟩ hgl2 far).trans HV2.out
     have HZ6 : Hid (∀ j, w6.frozen? ⟨gx, j, none⟩ = false) := fun j => by rw [← hW6]; exact (World.frozen?_setCell _ _ _ _).trans ((HG5.frozen_far ⟨gx, j, none⟩ hgl2 far).trans (HF2.out j))
     have HO6 : Hid (w6.ownsRow X.heap.size 26 1 (.slice (some ⟨g, 0, none⟩) (cls.length + k + 1) cap) (cls.length + (k + 1)) (((cls ++ stp.take (k + 1)).map CL.cells).flatten)) := by
      have := hown.kept hgs (.inr (fun e => hgh (by cases e; rfl)))
      rw [HCELL.out]; exact this
     have HG6 : Hid (X.grownBy w6 (some gx)) := grown_thru HGA2.out HG5 hgs (fun x hx => (HO2.out.lt x hx).1)
     clear hW6 hgs hgh hown hgrow hat hlt5 HG5 hc5 hf5 KP KF KT KSS KL HO2 HO hu2
     go_wp2
     go_roundw
     case measure => simp [intOf]; omega
     case rel => exact ⟨k + 1, _, by omega, by simp, HU6.out, HV6.out, HZ6.out, HO6.out, HG6.out, HPX.out⟩
     )
  ·have hge : ¬ ((k : Int) < (stp.length : Int)) := by omega
   have HALL : Hid (∀ i c, (stp.map CL.l)[i]? = some c → (∀ m, m ∈ c → litOk (V : Int) m = true) ∧ Fol (cls.map CL.l ++ (stp.map CL.l).take i) c) := fun i c hc => HP.out i c (by have := (List.getElem?_eq_some_iff.1 hc).1; simp at this; omega) hc
   go_wp2
   exact HK.out _ _ _ _ _ _ _ _ _ _ _ _ _ _ _ _ _ _ _ _ _ _ _ _ _ _ _ _ _ _ _ _ _ _ _ _ ⟨HALL.out, HBE.out⟩
end Go.Proofs.Ytefjicdhccfieaa
