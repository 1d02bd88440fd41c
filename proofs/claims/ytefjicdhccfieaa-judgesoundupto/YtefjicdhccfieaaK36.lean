import Derived.Test.YtefjicdhccfieaaK01
import Derived.Test.YtefjicdhccfieaaK35
set_option maxRecDepth 100000
set_option maxHeartbeats 16000000
namespace Go.Proofs.Ytefjicdhccfieaa
open Go.RowKit
theorem undrew {B : Nat} {w w' : World} (h : Below B w.drew w') : Below B w w' := (Below.drew (Below.refl _ _)).trans h
theorem BD.drew {B : Nat} {w : World} {bb : Nat} {st : St} (h : BD B w bb st) : BD B w.drew bb st := by
 obtain ⟨sl, R, L⟩ := h
 exact ⟨sl, R.rest (Below.drew (Below.refl _ _)), L⟩
structure WnP (st st' : St) : Prop where
 V : st'.V = st.V
 done : st'.done = st.done
 round : st'.round = st.round
 steps : st'.steps = st.steps
 used : st'.used = st.used
 rd : st'.cls.map BC.round = st.cls.map BC.round
 tr : ∃ ext, st'.trail = st.trail ++ ext
theorem WnP.refl (st : St) : WnP st st := ⟨rfl, rfl, rfl, rfl, rfl, rfl, [], by simp⟩
theorem WnP.trans {a b c : St} (h : WnP a b) (k : WnP b c) : WnP a c := by
 refine ⟨k.V.trans h.V, k.done.trans h.done, k.round.trans h.round, k.steps.trans h.steps, k.used.trans h.used, k.rd.trans h.rd, ?_⟩
 obtain ⟨e, he⟩ := h.tr
 obtain ⟨f, hf⟩ := k.tr
 exact ⟨e ++ f, by rw [hf, he, List.append_assoc]⟩
theorem WnR.p {a b : St} (h : WnR a b) : WnP a b := ⟨h.V, h.done, h.round, h.steps, h.used, h.rd, h.tr⟩
theorem WnP.len {a b : St} (h : WnP a b) : b.cls.length = a.cls.length := by have := congrArg List.length h.rd; simpa using this
def PropP (F : List (List Int)) (L A : Int → Prop) (b B : Nat) (w : World) (bb : Nat) (st : St) (e : Ending) (w' : World) : Prop :=
 (e = .returned (.int .i32 (-1)) ∧ ∃ st', BD B w' bb st' ∧ WnP st st' ∧ Core F L A b st' st'.W ∧ W4 st' (fun _ _ => False) ∧ st'.lk0 = st'.trail.length ∧ st'.lk1 = st'.trail.length ∧ Below B w w') ∨
 (∃ ci : Nat, e = .returned (.int .i32 (ci : Int)) ∧ ∃ st', BD B w' bb st' ∧ WnP st st' ∧ Core F L A b st' st'.W ∧ (∃ c', st'.cls[ci]? = some c' ∧ ∀ m, m ∈ c'.l → oppN m ∈ st'.trail) ∧ Below B w w')
def St.look (st : St) (t : Nat) : St := if t = 0 then { st with lk0 := st.lk0 + 1 } else { st with lk1 := st.lk1 + 1 }
def St.lk (st : St) (t : Nat) : Nat := if t = 0 then st.lk0 else st.lk1
theorem look_wn (st : St) (t : Nat) : WnP st (st.look t) := by unfold St.look; split <;> exact ⟨rfl, rfl, rfl, rfl, rfl, rfl, [], by simp⟩
theorem look_eq (st : St) (t : Nat) : (st.look t).W = st.W ∧ (st.look t).cls = st.cls ∧ (st.look t).trail = st.trail ∧ (st.look t).V = st.V := by unfold St.look; split <;> exact ⟨rfl, rfl, rfl, rfl⟩
def leftP (st : St) : Nat := 4 * st.V - st.lk0 - st.lk1
theorem look_left {st : St} (hd : Hd st) {t : Nat} (hl : st.lk t < st.trail.length) : leftP (st.look t) < leftP st := by
 have := hd.len
 have := hd.l0
 have := hd.l1
 unfold leftP St.look
 unfold St.lk at hl
 split at hl
 ·next h => simp only [h, if_true]; omega
 ·next h => simp only [h, if_false]; omega
theorem Core.look {F : List (List Int)} {L A : Int → Prop} {b : Nat} {st : St} (h : Core F L A b st st.W) {t : Nat} (hl : st.lk t < st.trail.length) : Core F L A b (st.look t) (st.look t).W := by
 unfold St.lk at hl
 unfold St.look
 split at hl
 ·next h0 => simp only [h0, if_true]; exact ⟨h.wd, ⟨h.hd.heldL, h.hd.held, h.hd.tlt, h.hd.tnd, h.hd.cons, hl, h.hd.l1⟩, h.rs, h.bf, h.w5, h.bk, h.so⟩
 ·next h0 => simp only [h0, if_false]; exact ⟨h.wd, ⟨h.hd.heldL, h.hd.held, h.hd.tlt, h.hd.tnd, h.hd.cons, h.hd.l0, hl⟩, h.rs, h.bf, h.w5, h.bk, h.so⟩
theorem W4.look {F : List (List Int)} {L A : Int → Prop} {b : Nat} {st : St} (hc : Core F L A b st st.W) (h : W4 st (fun _ _ => False)) {t y : Nat} (tt : t < 2) (hy : st.trail[st.lk t]? = some y) : W4 (st.look t) (exW (st.look t) t (oppN y) 0) := by
 intro i c u h1 h2 h3
 obtain ⟨e1, e2, e3, e4⟩ := look_eq st t
 rw [e2] at h1
 rw [e3] at h3 ⊢
 have hct := (hc.wd.two i c h1).2.2.2.1
 have key : oppN u ∈ st.trail.take (if c.tier = 0 then st.lk0 else st.lk1) ∨ (c.tier = t ∧ oppN u = y) := by
  by_cases e : c.tier = t
  ·have e5 : (if c.tier = 0 then (st.look t).lk0 else (st.look t).lk1) = st.lk t + 1 := by
    subst e
    unfold St.look St.lk
    split <;> rfl
   have e6 : (if c.tier = 0 then st.lk0 else st.lk1) = st.lk t := by subst e; rfl
   rw [e5, take_next _ _ _ hy] at h3
   rcases List.mem_append.1 h3 with h4 | h4
   ·left; rw [e6]; exact h4
   ·exact .inr ⟨e, List.mem_singleton.1 h4⟩
  ·left
   have e5 : (if c.tier = 0 then (st.look t).lk0 else (st.look t).lk1) = (if c.tier = 0 then st.lk0 else st.lk1) := by
    unfold St.look
    rcases (show t = 0 ∨ t = 1 by omega) with rfl | rfl
    ·have : c.tier ≠ 0 := e
     simp [this]
    ·have : c.tier = 0 := by omega
     simp [this]
   rw [e5] at h3; exact h3
 rcases key with h4 | ⟨h4, h5⟩
 ·rcases h i c u h1 h2 h4 with h6 | h6
  ·exact .inl h6
  ·exact h6.elim
 ·obtain ⟨o, ho⟩ := hc.wd.has i c u h1 h2
  have hu : u = oppN y := by rw [← h5, oppN_opp]
  refine .inr ⟨hu, o, c, ?_, by rw [e2]; exact h1, h4⟩
  rw [List.drop_zero, e1, ← hu, ← h4]; exact ho
theorem propagate_any (F : List (List Int)) (L A : Int → Prop) (b B : Nat) (w : World) (bb : Nat) (st : St) (h : BD B w bb st) (hc : Core F L A b st st.W) (h4 : W4 st (fun _ _ => False)) (hncl : st.cls.length ≤ 67108864) :
  Calls Try.prog 40 #[.pointer (some ⟨bb, 0, none⟩)] w fun e w' => PropP F L A b B w bb st e w' := by
 have HBD := hidden h
 have HC0 := hidden hc
 have HW40 := hidden h4
 have hV : st.V ≤ 100000 := by
  obtain ⟨_, _, L⟩ := h
  exact L.hV
 clear h hc h4
 go_enter Try.func40, Try.ntmps40
 go_wp2_with fail
 go_loopg [] (leftP st) (fun gk w' => ∃ (st1 : St), gk = leftP st1 ∧ Hid (BD B w' bb st1) ∧ Hid (WnP st st1) ∧ Hid (Core F L A b st1 st1.W) ∧ Hid (W4 st1 (fun _ _ => False)) ∧ Hid (Below B w w'))
 case atStart => exact ⟨st, rfl, HBD.out, WnP.refl _, HC0.out, HW40.out, Below.refl _ _⟩
 case round =>
  obtain ⟨st1, rfl, HBD1, HWN, HCO, HW4, HB1⟩ := hrel
  obtain ⟨sl1, R1, L1⟩ := HBD1.out
  have hhd := HCO.out.hd
  have HR1 := hidden R1
  have HL1 := hidden L1
  obtain ⟨k0, HK0⟩ : ∃ k, Hid (k = st1.lk0) := ⟨_, rfl⟩
  obtain ⟨k1, HK1⟩ : ∃ k, Hid (k = st1.lk1) := ⟨_, rfl⟩
  obtain ⟨tn, HTN⟩ : ∃ k, Hid (k = st1.trail.length) := ⟨_, rfl⟩
  obtain ⟨X, CV, hbd⟩ := HBD1.out.bd
  obtain ⟨ta, tc, f6⟩ := hbd.trailC
  rw [← HTN.out] at f6
  have f7 : wr.cell? ⟨bb, 7, none⟩ = some (.int .i64 (k0 : Int)) := by rw [HK0.out]; exact R1.field 7
  have f8 : wr.cell? ⟨bb, 8, none⟩ = some (.int .i64 (k1 : Int)) := by rw [HK1.out]; exact R1.field 8
  have HF6 := hidden f6
  have HF7 := hidden f7
  have HF8 := hidden f8
  have hk0 : k0 ≤ tn := by rw [HK0.out, HTN.out]; exact hhd.l0
  have hk1 : k1 ≤ tn := by rw [HK1.out, HTN.out]; exact hhd.l1
  have htn : tn ≤ 200000 := by
   have := hhd.len
   rw [HWN.out.V] at this
   have := HTN.out
   omega
  clear hbd
  have KB : Hid ((fun w' => w'.cell? ⟨bb, 7, none⟩ = some (.int .i64 (k0 : Int)) ∧ w'.cell? ⟨bb, 6, none⟩ = some (.slice ta tn tc)) wr) := ⟨f7, f6⟩
  by_cases h0 : k0 = tn
  ·have HE0 := hidden h0
   have h0I : (k0 : Int) = (tn : Int) := by omega
   go_upto_region 2 with fail
   refine wp_region_noPanic ?_
   refine wp_region_held_drew (S := (fun w' => w'.cell? ⟨bb, 7, none⟩ = some (.int .i64 (k0 : Int)) ∧ w'.cell? ⟨bb, 6, none⟩ = some (.slice ta tn tc))) (by kernel_rfl) (by first | assumption | exact KB.out) (fun hHeld => ?_)
   refine tk 0 ?_
   refine tk 1 ?_
   refine tk 2 ?_
   refine tk 3 ?_
   refine tk 4 ?_
   refine tk 5 ?_
   refine tk 6 ?_
   refine tk 7 ?_
   refine tk 8 ?_
   refine tk 9 ?_
   refine tk 10 ?_
   refine wpAnyH_done (by kernel_rfl) ?_ _
   refine NoPanic.normal ?_
   clear KB f7 h0I h0
   have KB : Hid ((fun w' => w'.cell? ⟨bb, 8, none⟩ = some (.int .i64 (k1 : Int)) ∧ w'.cell? ⟨bb, 6, none⟩ = some (.slice ta tn tc)) wr.drew) := ⟨f8, f6⟩
   by_cases h1 : k1 = tn
   ·have h1I : (k1 : Int) = (tn : Int) := by omega
    have HX : Hid (PropP F L A b B w bb st (.returned (.int .i32 (-1))) wr.drew.drew) := Or.inl ⟨rfl, st1, by
     obtain ⟨sl', r1, r2⟩ := HBD1.out
     exact ⟨sl', (r1.rest (Below.drew (Below.refl _ _))).rest (Below.drew (Below.refl _ _)), r2⟩, HWN.out, HCO.out, HW4.out, by rw [← HK0.out, ← HTN.out]; exact HE0.out, by rw [← HK1.out, ← HTN.out]; exact h1, Below.drew (Below.drew HB1.out)⟩
    go_upto_region 4 with fail
    refine wp_region_noPanic ?_
    refine wp_region_held_drew (S := (fun w' => w'.cell? ⟨bb, 8, none⟩ = some (.int .i64 (k1 : Int)) ∧ w'.cell? ⟨bb, 6, none⟩ = some (.slice ta tn tc))) (by kernel_rfl) (by first | assumption | exact KB.out) (fun hHeld => ?_)
    refine tk 0 ?_
    refine tk 1 ?_
    refine tk 2 ?_
    refine tk 3 ?_
    refine tk 4 ?_
    refine tk 5 ?_
    refine tk 6 ?_
    refine tk 7 ?_
    refine tk 8 ?_
    refine tk 9 ?_
    refine tk 10 ?_
    refine tk 11 ?_
    refine wpAnyH_done (by kernel_rfl) ?_ _
    refine NoPanic.normal ?_
    clear KB f8 f6 h1I h1
    go_wp2
    go_ret
    exact HX.out
   ·have h1I : ¬ ((k1 : Int) = (tn : Int)) := by omega
    go_upto_region 4 with fail
    refine wp_region_noPanic ?_
    refine wp_region_held_drew (S := (fun w' => w'.cell? ⟨bb, 8, none⟩ = some (.int .i64 (k1 : Int)) ∧ w'.cell? ⟨bb, 6, none⟩ = some (.slice ta tn tc))) (by kernel_rfl) (by first | assumption | exact KB.out) (fun hHeld => ?_)
    refine tk 0 ?_
    refine tk 1 ?_
    refine tk 2 ?_
    refine tk 3 ?_
    refine tk 4 ?_
    refine tk 5 ?_
    refine tk 6 ?_
    refine tk 7 ?_
    refine tk 8 ?_
    refine tk 9 ?_
    refine tk 10 ?_
    refine tk 11 ?_
    refine wpAnyH_done (by kernel_rfl) ?_ _
    refine NoPanic.normal ?_
    clear KB f8 f6 h1I
    have hl : st1.lk 1 < st1.trail.length := by unfold St.lk; simp only [Nat.one_ne_zero, if_false]; have := HK1.out; have := HTN.out; omega
    obtain ⟨y, hy⟩ := getElem_lt hl
    have HY := hidden hy
    have hyV := hhd.tlt y (List.mem_of_getElem? hy)
    have hyV2 : y < 2 * st.V := by rw [HWN.out.V] at hyV; exact hyV
    obtain ⟨tb, tc', htv, -, htl, -, htcell, -⟩ := R1.form .trail (by rw [L1.trail.1]; omega)
    have eta : ta = some ⟨tb, 0, none⟩ ∧ tc = tc' := by
     have h6 := R1.field 6
     rw [show (fields sl1 st1)[6]? = some (sl1 .trail).v from rfl, htv, HF6.out] at h6
     cases h6; exact ⟨rfl, rfl⟩
    obtain ⟨rfl, rfl⟩ := eta
    have cy : wr.cell? ⟨tb, k1, none⟩ = some (.int .i32 (y : Int)) := by
     have h7 : k1 = st1.lk 1 := HK1.out
     rw [htcell k1 (by rw [L1.trail.1]; simp [Site.sz]; omega), L1.trail.2, h7]; exact litV_get _ _ _ hy
    have OPP := fun w' => opposite_any w' y (by omega)
    have hkI : (k1 : Int) < (tn : Int) := by omega
    have KB : Hid ((fun w' => w'.cell? ⟨bb, 8, none⟩ = some (.int .i64 (k1 : Int)) ∧ w'.cell? ⟨bb, 6, none⟩ = some (.slice (some ⟨tb, 0, none⟩) tn tc) ∧ w'.cell? ⟨tb, k1, none⟩ = some (.int .i32 (y : Int))) wr) := ⟨HF8.out, HF6.out, cy⟩
    have zk : wr.frozen? ⟨bb, 8, none⟩ = false := R1.soft 8
    have e3 : IntKind.i64.wrap ((k1 : Int) + 1) = (k1 : Int) + 1 := wrapI _ (by omega) (by have := HTN.out; omega)
    have RS : Hid (∀ w', Below wr.heap.size wr w' → BD B (w'.setCell ⟨bb, 8, none⟩ (.int .i64 ((k1 : Int) + 1))) bb (st1.look 1) ∧ Below B w (w'.setCell ⟨bb, 8, none⟩ (.int .i64 ((k1 : Int) + 1)))) := fun w' hb' => by
     have R2 := (HR1.out.rest hb').setB 8 (.int .i64 ((k1 : Int) + 1))
     refine ⟨⟨sl1, ?_, ?_⟩, (HB1.out.trans (hb'.mono HR1.out.size)).trans ((HR1.out.rest hb').belowB (gset _ _ _ _))⟩
     ·have ef : fields sl1 (st1.look 1) = (fields sl1 st1).setIfInBounds 8 (.int .i64 ((k1 : Int) + 1)) := by
       have h7 : k1 = st1.lk1 := HK1.out
       simp [fields, St.look, h7]
      rw [ef]; exact R2
     ·exact ⟨HL1.out.hV, HL1.out.held, HL1.out.heldL, HL1.out.reason, HL1.out.reasonL, HL1.out.used, HL1.out.usedL, HL1.out.trail, HL1.out.clsN, HL1.out.cls, HL1.out.lits, HL1.out.row, HL1.out.wl⟩
    have HCO2 := hidden (HCO.out.look hl)
    have HW42 := hidden (HW4.out.look HCO.out (t := 1) (by decide) hy)
    have HLEFT := hidden (look_left hhd hl)
    have HLF : Hid (oppN (oppN y) ∈ (st1.look 1).trail) := by rw [oppN_opp, (look_eq st1 1).2.2.1]; exact List.mem_of_getElem? hy
    have HLV : Hid (oppN y < 2 * (st1.look 1).V) := by rw [(look_eq st1 1).2.2.2]; exact oppN_lt hyV
    have hcl1 : st1.cls.length ≤ 67108864 := by rw [HWN.out.len]; exact hncl
    clear htcell htv hy R1 L1
    go_upto_region 6 with fail
    refine wp_region_noPanic ?_
    refine wp_region_held_drew (S := (fun w' => w'.cell? ⟨bb, 8, none⟩ = some (.int .i64 (k1 : Int)) ∧ w'.cell? ⟨bb, 6, none⟩ = some (.slice (some ⟨tb, 0, none⟩) tn tc) ∧ w'.cell? ⟨tb, k1, none⟩ = some (.int .i32 (y : Int)))) (by kernel_rfl) (by first | assumption | exact KB.out) (fun hHeld => ?_)
    refine tk 0 ?_
    refine tk 1 ?_
    refine tk 2 ?_
    refine tk 3 ?_
    refine tk 4 ?_
    refine tk 5 ?_
    refine tk 6 ?_
    refine tk 7 ?_
    refine tk 8 ?_
    refine tk 9 ?_
    refine tk 10 ?_
    refine tk 11 ?_
    refine wpAnyH_ready (rs := [12]) (by kernel_rfl) (by simp) ?_
    refine AllReadyH.cons (o := _) rfl (fun K hK => ?_) AllReadyH.nil
    (try simp only [gA, gB, gC])
    go_simp
    go_at_call 44
    refine (OPP _).mono ?_
    rintro e w9 ⟨rfl, rfl⟩
    go_wp2_with fail
    refine hK.out _ _ (by first | assumption | exact KB.out) (fun hHeld12 => ?_)
    clear hK K
    (try simp only [Act.put]); (try simp only [sA]); (try simp only [sB, sC])
    refine tk 13 ?_
    refine wpAnyH_done (by kernel_rfl) ?_ _
    refine NoPanic.normal ?_
    clear KB cy OPP
    go_upto_region 7 with fail
    refine wp_region_noPanic ?_
    refine wp_region_held_drew (S := (fun _ => True)) (by kernel_rfl) (by trivial) (fun hHeld => ?_)
    refine tk 0 ?_
    refine tk 1 ?_
    refine tk 2 ?_
    refine tk 3 ?_
    refine tk 4 ?_
    refine tk 7 ?_
    refine tk 8 ?_
    refine wpAnyH_ready (rs := [5]) (by kernel_rfl) (by simp) ?_
    refine AllReadyH.cons (o := _) rfl (fun K hK => ?_) AllReadyH.nil
    (try simp only [gA, gB, gC])
    go_simp
    refine hK.out _ _ (by trivial) (fun hHeld5 => ?_)
    clear hK K
    (try simp only [Act.put]); (try simp only [sA]); (try simp only [sB, sC])
    refine tk 6 ?_
    refine tk 9 ?_
    refine wpAnyH_ready (rs := [10]) (by kernel_rfl) (by simp) ?_
    refine AllReadyH.cons (o := _) rfl (fun K hK => ?_) AllReadyH.nil
    (try simp only [gA, gB, gC])
    go_simp
    refine hK.out _ _ (by trivial) (fun hHeld10 => ?_)
    clear hK K
    (try simp only [Act.put]); (try simp only [sA]); (try simp only [sB, sC])
    refine wpAnyH_done (by kernel_rfl) ?_ _
    refine NoPanic.normal ?_
    generalize hW2 : World.setCell _ _ _ = w2
    obtain ⟨B2, B2'⟩ := RS.out _ (by first | exact Below.refl _ _ | exact Below.drew (Below.refl _ _) | exact Below.drew (Below.drew (Below.refl _ _)))
    rw [hW2] at B2 B2'
    clear hW2 RS zk
    have B3 : BD B w2.drew bb (st1.look 1) := by
     obtain ⟨sl', r1, r2⟩ := B2
     exact ⟨sl', r1.rest (Below.drew (Below.refl _ _)), r2⟩
    have HB3 := hidden B3
    have HB3' : Hid (Below B w w2.drew) := Below.drew B2'
    clear B2 B2' B3
    have HCALL := hidden (fun w' (hb' : BD B w' bb (st1.look 1)) => wake_any F L A b B w' bb (st1.look 1) hb' 1 (oppN y) HCO2.out HW42.out HLF.out HLV.out (by decide) (by rw [(look_eq st1 1).2.1]; exact hcl1))
    go_wp2_with fail
    go_at_call 72
    refine (HCALL.out _ (by repeat' (first | exact HB3.out | apply BD.drew))).mono ?_
    rintro e w9 hw9
    rcases hw9 with ⟨rfl, st2, c1, c2, c3, c4, c5⟩ | ⟨ci, rfl, st2, sl2, c1, c2, c3, c4, c5, c6⟩
    ·have HP1 := hidden c1
     have HP2 := hidden ((HWN.out.trans (look_wn st1 1)).trans c2.p)
     have HP3 := hidden c3
     have HP4 := hidden c4
     have HP5 : Hid (Below B w w9) := HB3'.out.trans (by first | exact c5 | exact undrew c5 | exact undrew (undrew c5) | exact undrew (undrew (undrew c5)) | exact undrew (undrew (undrew (undrew c5))))
     have HLT : Hid (leftP st2 < leftP st1) := by
      have h1 := HLEFT.out
      have h2 : leftP st2 = leftP (st1.look 1) := by unfold leftP; rw [c2.V, c2.lk0, c2.lk1]
      show _ < _
      rw [h2]; exact h1
     clear c1 c2 c3 c4 c5 HCALL
     go_wp2
     go_roundg (leftP st2)
     case measure => exact HLT.out
     case rel => exact ⟨st2, rfl, HP1.out, HP2.out, HP3.out, HP4.out, HP5.out⟩
    ·have HX : Hid (PropP F L A b B w bb st (.returned (.int .i32 (ci : Int))) w9) := Or.inr ⟨ci, rfl, st2, ⟨sl2, c2, c3⟩, (HWN.out.trans (look_wn st1 1)).trans c1.p, c4, c5, HB3'.out.trans (by first | exact c6 | exact undrew c6 | exact undrew (undrew c6) | exact undrew (undrew (undrew c6)) | exact undrew (undrew (undrew (undrew c6))))⟩
     have hne : ¬ ((ci : Int) = -1) := by omega
     clear c1 c2 c3 c4 c5 c6 HCALL
     go_wp2
     go_ret
     exact HX.out
  ·have h0I : ¬ ((k0 : Int) = (tn : Int)) := by omega
   go_upto_region 2 with fail
   refine wp_region_noPanic ?_
   refine wp_region_held_drew (S := (fun w' => w'.cell? ⟨bb, 7, none⟩ = some (.int .i64 (k0 : Int)) ∧ w'.cell? ⟨bb, 6, none⟩ = some (.slice ta tn tc))) (by kernel_rfl) (by first | assumption | exact KB.out) (fun hHeld => ?_)
   refine tk 0 ?_
   refine tk 1 ?_
   refine tk 2 ?_
   refine tk 3 ?_
   refine tk 4 ?_
   refine tk 5 ?_
   refine tk 6 ?_
   refine tk 7 ?_
   refine tk 8 ?_
   refine tk 9 ?_
   refine tk 10 ?_
   refine wpAnyH_done (by kernel_rfl) ?_ _
   refine NoPanic.normal ?_
   clear KB
   have KB : Hid ((fun w' => w'.cell? ⟨bb, 7, none⟩ = some (.int .i64 (k0 : Int)) ∧ w'.cell? ⟨bb, 6, none⟩ = some (.slice ta tn tc)) wr.drew) := ⟨f7, f6⟩
   go_upto_region 4 with fail
   refine wp_region_noPanic ?_
   refine wp_region_held_drew (S := (fun w' => w'.cell? ⟨bb, 7, none⟩ = some (.int .i64 (k0 : Int)) ∧ w'.cell? ⟨bb, 6, none⟩ = some (.slice ta tn tc))) (by kernel_rfl) (by first | assumption | exact KB.out) (fun hHeld => ?_)
   refine tk 0 ?_
   refine tk 1 ?_
   refine tk 2 ?_
   refine tk 3 ?_
   refine tk 4 ?_
   refine tk 5 ?_
   refine tk 6 ?_
   refine tk 7 ?_
   refine tk 8 ?_
   refine tk 9 ?_
   refine tk 10 ?_
   refine tk 11 ?_
   refine wpAnyH_done (by kernel_rfl) ?_ _
   refine NoPanic.normal ?_
   clear KB f7 f6 f8 h0I
   have hl : st1.lk 0 < st1.trail.length := by unfold St.lk; simp only [if_true]; have := HK0.out; have := HTN.out; omega
   obtain ⟨y, hy⟩ := getElem_lt hl
   have HY := hidden hy
   have hyV := hhd.tlt y (List.mem_of_getElem? hy)
   have hyV2 : y < 2 * st.V := by rw [HWN.out.V] at hyV; exact hyV
   obtain ⟨tb, tc', htv, -, htl, -, htcell, -⟩ := R1.form .trail (by rw [L1.trail.1]; omega)
   have eta : ta = some ⟨tb, 0, none⟩ ∧ tc = tc' := by
    have h6 := R1.field 6
    rw [show (fields sl1 st1)[6]? = some (sl1 .trail).v from rfl, htv, HF6.out] at h6
    cases h6; exact ⟨rfl, rfl⟩
   obtain ⟨rfl, rfl⟩ := eta
   have cy : wr.cell? ⟨tb, k0, none⟩ = some (.int .i32 (y : Int)) := by
    have h7 : k0 = st1.lk 0 := HK0.out
    rw [htcell k0 (by rw [L1.trail.1]; simp [Site.sz]; omega), L1.trail.2, h7]; exact litV_get _ _ _ hy
   have OPP := fun w' => opposite_any w' y (by omega)
   have hkI : (k0 : Int) < (tn : Int) := by omega
   have KB : Hid ((fun w' => w'.cell? ⟨bb, 7, none⟩ = some (.int .i64 (k0 : Int)) ∧ w'.cell? ⟨bb, 6, none⟩ = some (.slice (some ⟨tb, 0, none⟩) tn tc) ∧ w'.cell? ⟨tb, k0, none⟩ = some (.int .i32 (y : Int))) wr) := ⟨HF7.out, HF6.out, cy⟩
   have zk : wr.frozen? ⟨bb, 7, none⟩ = false := R1.soft 7
   have e3 : IntKind.i64.wrap ((k0 : Int) + 1) = (k0 : Int) + 1 := wrapI _ (by omega) (by have := HTN.out; omega)
   have RS : Hid (∀ w', Below wr.heap.size wr w' → BD B (w'.setCell ⟨bb, 7, none⟩ (.int .i64 ((k0 : Int) + 1))) bb (st1.look 0) ∧ Below B w (w'.setCell ⟨bb, 7, none⟩ (.int .i64 ((k0 : Int) + 1)))) := fun w' hb' => by
    have R2 := (HR1.out.rest hb').setB 7 (.int .i64 ((k0 : Int) + 1))
    refine ⟨⟨sl1, ?_, ?_⟩, (HB1.out.trans (hb'.mono HR1.out.size)).trans ((HR1.out.rest hb').belowB (gset _ _ _ _))⟩
    ·have ef : fields sl1 (st1.look 0) = (fields sl1 st1).setIfInBounds 7 (.int .i64 ((k0 : Int) + 1)) := by
      have h7 : k0 = st1.lk0 := HK0.out
      simp [fields, St.look, h7]
     rw [ef]; exact R2
    ·exact ⟨HL1.out.hV, HL1.out.held, HL1.out.heldL, HL1.out.reason, HL1.out.reasonL, HL1.out.used, HL1.out.usedL, HL1.out.trail, HL1.out.clsN, HL1.out.cls, HL1.out.lits, HL1.out.row, HL1.out.wl⟩
   have HCO2 := hidden (HCO.out.look hl)
   have HW42 := hidden (HW4.out.look HCO.out (t := 0) (by decide) hy)
   have HLEFT := hidden (look_left hhd hl)
   have HLF : Hid (oppN (oppN y) ∈ (st1.look 0).trail) := by rw [oppN_opp, (look_eq st1 0).2.2.1]; exact List.mem_of_getElem? hy
   have HLV : Hid (oppN y < 2 * (st1.look 0).V) := by rw [(look_eq st1 0).2.2.2]; exact oppN_lt hyV
   have hcl1 : st1.cls.length ≤ 67108864 := by rw [HWN.out.len]; exact hncl
   clear htcell htv hy R1 L1
   go_upto_region 6 with fail
   refine wp_region_noPanic ?_
   refine wp_region_held_drew (S := (fun w' => w'.cell? ⟨bb, 7, none⟩ = some (.int .i64 (k0 : Int)) ∧ w'.cell? ⟨bb, 6, none⟩ = some (.slice (some ⟨tb, 0, none⟩) tn tc) ∧ w'.cell? ⟨tb, k0, none⟩ = some (.int .i32 (y : Int)))) (by kernel_rfl) (by first | assumption | exact KB.out) (fun hHeld => ?_)
   refine tk 0 ?_
   refine tk 1 ?_
   refine tk 2 ?_
   refine tk 3 ?_
   refine tk 4 ?_
   refine tk 5 ?_
   refine tk 6 ?_
   refine tk 7 ?_
   refine tk 8 ?_
   refine tk 9 ?_
   refine tk 10 ?_
   refine tk 11 ?_
   refine wpAnyH_ready (rs := [12]) (by kernel_rfl) (by simp) ?_
   refine AllReadyH.cons (o := _) rfl (fun K hK => ?_) AllReadyH.nil
   (try simp only [gA, gB, gC])
   go_simp
   go_at_call 44
   refine (OPP _).mono ?_
   rintro e w9 ⟨rfl, rfl⟩
   go_wp2_with fail
   refine hK.out _ _ (by first | assumption | exact KB.out) (fun hHeld12 => ?_)
   clear hK K
   (try simp only [Act.put]); (try simp only [sA]); (try simp only [sB, sC])
   refine tk 13 ?_
   refine wpAnyH_done (by kernel_rfl) ?_ _
   refine NoPanic.normal ?_
   clear KB cy OPP
   go_upto_region 7 with fail
   refine wp_region_noPanic ?_
   refine wp_region_held_drew (S := (fun _ => True)) (by kernel_rfl) (by trivial) (fun hHeld => ?_)
   refine tk 0 ?_
   refine tk 1 ?_
   refine tk 2 ?_
   refine tk 3 ?_
   refine tk 4 ?_
   refine tk 7 ?_
   refine tk 8 ?_
   refine wpAnyH_ready (rs := [5]) (by kernel_rfl) (by simp) ?_
   refine AllReadyH.cons (o := _) rfl (fun K hK => ?_) AllReadyH.nil
   (try simp only [gA, gB, gC])
   go_simp
   refine hK.out _ _ (by trivial) (fun hHeld5 => ?_)
   clear hK K
   (try simp only [Act.put]); (try simp only [sA]); (try simp only [sB, sC])
   refine tk 6 ?_
   refine tk 9 ?_
   refine wpAnyH_ready (rs := [10]) (by kernel_rfl) (by simp) ?_
   refine AllReadyH.cons (o := _) rfl (fun K hK => ?_) AllReadyH.nil
   (try simp only [gA, gB, gC])
   go_simp
   refine hK.out _ _ (by trivial) (fun hHeld10 => ?_)
   clear hK K
   (try simp only [Act.put]); (try simp only [sA]); (try simp only [sB, sC])
   refine wpAnyH_done (by kernel_rfl) ?_ _
   refine NoPanic.normal ?_
   generalize hW2 : World.setCell _ _ _ = w2
   obtain ⟨B2, B2'⟩ := RS.out _ (by first | exact Below.refl _ _ | exact Below.drew (Below.refl _ _) | exact Below.drew (Below.drew (Below.refl _ _)))
   rw [hW2] at B2 B2'
   clear hW2 RS zk
   have B3 : BD B w2.drew bb (st1.look 0) := by
    obtain ⟨sl', r1, r2⟩ := B2
    exact ⟨sl', r1.rest (Below.drew (Below.refl _ _)), r2⟩
   have HB3 := hidden B3
   have HB3' : Hid (Below B w w2.drew) := Below.drew B2'
   clear B2 B2' B3
   have HCALL := hidden (fun w' (hb' : BD B w' bb (st1.look 0)) => wake_any F L A b B w' bb (st1.look 0) hb' 0 (oppN y) HCO2.out HW42.out HLF.out HLV.out (by decide) (by rw [(look_eq st1 0).2.1]; exact hcl1))
   go_wp2_with fail
   go_at_call 72
   refine (HCALL.out _ (by repeat' (first | exact HB3.out | apply BD.drew))).mono ?_
   rintro e w9 hw9
   rcases hw9 with ⟨rfl, st2, c1, c2, c3, c4, c5⟩ | ⟨ci, rfl, st2, sl2, c1, c2, c3, c4, c5, c6⟩
   ·have HP1 := hidden c1
    have HP2 := hidden ((HWN.out.trans (look_wn st1 0)).trans c2.p)
    have HP3 := hidden c3
    have HP4 := hidden c4
    have HP5 : Hid (Below B w w9) := HB3'.out.trans (by first | exact c5 | exact undrew c5 | exact undrew (undrew c5) | exact undrew (undrew (undrew c5)) | exact undrew (undrew (undrew (undrew c5))))
    have HLT : Hid (leftP st2 < leftP st1) := by
     have h1 := HLEFT.out
     have h2 : leftP st2 = leftP (st1.look 0) := by unfold leftP; rw [c2.V, c2.lk0, c2.lk1]
     show _ < _
     rw [h2]; exact h1
    clear c1 c2 c3 c4 c5 HCALL
    go_wp2
    go_roundg (leftP st2)
    case measure => exact HLT.out
    case rel => exact ⟨st2, rfl, HP1.out, HP2.out, HP3.out, HP4.out, HP5.out⟩
   ·have HX : Hid (PropP F L A b B w bb st (.returned (.int .i32 (ci : Int))) w9) := Or.inr ⟨ci, rfl, st2, ⟨sl2, c2, c3⟩, (HWN.out.trans (look_wn st1 0)).trans c1.p, c4, c5, HB3'.out.trans (by first | exact c6 | exact undrew c6 | exact undrew (undrew c6) | exact undrew (undrew (undrew c6)) | exact undrew (undrew (undrew (undrew c6))))⟩
    have hne : ¬ ((ci : Int) = -1) := by omega
    clear c1 c2 c3 c4 c5 c6 HCALL
    go_wp2
    go_ret
    exact HX.out
end Go.Proofs.Ytefjicdhccfieaa
