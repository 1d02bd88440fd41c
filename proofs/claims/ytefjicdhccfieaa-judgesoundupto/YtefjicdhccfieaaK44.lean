import Derived.Test.YtefjicdhccfieaaK01
import Derived.Test.YtefjicdhccfieaaK43
import Derived.Defers
set_option maxRecDepth 100000
set_option maxHeartbeats 16000000
namespace Go.Proofs.Ytefjicdhccfieaa
open Go.RowKit
def FolwP (F : List (List Int)) (c : List Int) (B : Nat) (w : World) (bb : Nat) (st : St) (e : Ending) (w' : World) : Prop := ∃ b st', e = .returned (.bool b) ∧ (b = true ↔ Fol F c) ∧ BD B w' bb st' ∧ Good F st' ∧ st'.V = st.V ∧ st'.cls.length = st.cls.length ∧ st'.steps = st.steps ∧ st'.round = st.round ∧ Below B w w'
theorem boardFollows_any (F : List (List Int)) (B : Nat) (w : World) (bb : Nat) (st : St) (h : BD B w bb st) (g : Good F st) (a : Option Addr) (cc : Nat) (c : List Int) (R : RowAt B w a 1 (c.map intC)) (hc : c.length ≤ 16777216) (hlit : ∀ n, n ∈ c → n ≠ 0 ∧ n.natAbs ≤ st.V) (hncl : st.cls.length ≤ 16777216) :
  Calls Try.prog 18 #[.pointer (some ⟨bb, 0, none⟩), .slice a c.length cc] w fun e w' => FolwP F c B w bb st e w' := by
 have hV := h.hV
 obtain ⟨f9, -, -, -⟩ := h.fld
 obtain ⟨dn, HDN⟩ : ∃ b, Hid (b = st.done) := ⟨_, rfl⟩
 rw [← HDN.out] at f9
 cases dn
 ·have hrest := g.no HDN.out.symm
  have HREST := hidden hrest
  have HG := hidden g
  have HLIT := hidden hlit
  have HROW := hidden R
  have HT0 := hidden hrest.hd.tlt
  obtain ⟨X, CV, hb0⟩ := h.bd
  have HB0 := hidden hb0
  obtain ⟨ta, tc, f6⟩ := hb0.trailC
  obtain ⟨tn, HTN⟩ : ∃ n, Hid (n = st.trail.length) := ⟨_, rfl⟩
  rw [← HTN.out] at f6
  have htn : tn ≤ 200000 := by rw [HTN.out]; exact g.tn
  obtain ⟨cl, HCL⟩ : ∃ n, Hid (n = c.length) := ⟨_, rfl⟩
  rw [← HCL.out] at hc ⊢
  clear hrest g hlit hb0 h R
  go_enter_defers Try.func18, Try.ntmps18
  go_wp2_with fail
  clear f6 f9
  go_loopw [23] (fun i' w' => ∃ (k : Nat) (st2 : St), k ≤ cl ∧ i' = .int .i64 k ∧ Hid (Bd B w' bb st2 X CV) ∧ Hid (FolI F st c k st2) ∧ Hid (Below B w w')) (fun i' _ => cl - (intOf i').toNat)
  case atStart => exact ⟨0, st, Nat.zero_le _, rfl, HB0.out, FolI.zero HREST.out c, Below.refl _ _⟩
  case round =>
   obtain ⟨k, st2, hk, rfl, HBk, HFk, HBBk⟩ := hrel
   by_cases hlt : k < cl
   ·have hltI : (k : Int) < (cl : Int) := by omega
    obtain ⟨n, hn⟩ := getElem_lt (show k < c.length by rw [← HCL.out]; exact hlt)
    obtain ⟨n0, nV⟩ := HLIT.out n (List.mem_of_getElem? hn)
    have HV2 : Hid (st2.V = st.V) := HFk.out.wn.V
    obtain ⟨ab, ao, ha, hab, cn⟩ := (HROW.out.to HBBk.out).intR hn
    subst ha
    have HN := hidden hn
    have hlV : litN n < 2 * st2.V := litN_lt n0 (by rw [HV2.out]; exact nV)
    obtain ⟨hb, hcp, f3, fh⟩ := HBk.out.heldC hlV
    have LIT := literalOf_any wr n n0 (by omega)
    obtain ⟨y, HY⟩ : ∃ y, Hid (y = st2.held.getD (litN n) 0) := ⟨_, rfl⟩
    rw [← HY.out] at fh
    have hyv := HFk.out.co.hd.val hlV
    rw [← HY.out] at hyv
    obtain ⟨ln, HLN⟩ : ∃ x, Hid (x = litN n) := ⟨_, rfl⟩
    rw [← HLN.out] at fh LIT
    obtain ⟨NN, HNN⟩ : ∃ x, Hid (x = 2 * st2.V) := ⟨_, rfl⟩
    rw [← HNN.out] at f3
    have hlI : (ln : Int) < (NN : Int) := by rw [HLN.out, HNN.out]; omega
    have hln2 : ln ≤ 200000 := by have := HLN.out; have := HNN.out; have := HV2.out; omega
    have e3 : IntKind.i64.wrap ((k : Int) + 1) = (k : Int) + 1 := wrapI _ (by omega) (by omega)
    clear hn hlV
    rcases hyv with rfl | rfl | rfl
    ·have HFOL : Hid (Fol F c) := fol_der (n := n) (List.mem_of_getElem? HN.out) (by
      have h5 := HFk.out.co.so (litN n) ((HFk.out.co.hd.pos (litN_lt n0 (by rw [HV2.out]; exact nV))).1 (by rw [← HY.out]; decide))
      rwa [intL_lit n0] at h5)
     go_wp2_with fail
     go_at_call 43
     refine LIT.mono ?_
     rintro e w4 ⟨rfl, rfl⟩
     go_wp2_with fail
     refine leaves_cons (f := 42) (args := #[.pointer (some ⟨bb, 0, none⟩), .int .i64 (tn : Int)]) (by simp) (by simp [go_sem]) ?_
     refine (forget_D _ B w4 bb st2 tn HBk.out.bd (by rw [HTN.out]; exact HFk.out.co.bf) (by have := HFk.out.co.hd.len; have := HV2.out; omega) HFk.out.co.hd.tlt).mono ?_
     rintro e u' w'' ⟨rfl, rfl, hb5, hbb5⟩
     have HX : Hid (FolwP F c B w bb st (.returned (.bool true)) w'') := by
      rw [HTN.out] at hb5
      have hr := rest_back HFk.out.co HFk.out.wn.take
      exact ⟨true, _, rfl, ⟨fun _ => HFOL.out, fun _ => rfl⟩, hb5, Good.of hb5.hV (HFk.out.wn.done.trans HDN.out.symm) hr (rd_of HFk.out.wn.rd HFk.out.wn.round HG.out.rd), HFk.out.wn.V, HFk.out.wn.len, HFk.out.wn.steps, HFk.out.wn.round, HBBk.out.trans hbb5⟩
     clear hb5 hbb5
     simp [Leaves, settle, results, Try.results18, go_sem]
     exact HX.out
    ·have OPP := opposite_any wr ln hln2
     have HZ : Hid (st2.held.getD (litN n) 0 = 0) := HY.out.symm
     have HC := hidden (hold_any B wr bb st2 X CV (oppN ln) (-1) HBk.out (by rw [HLN.out]; exact oppN_lt (litN_lt n0 (by rw [HV2.out]; exact nV))) (by have := HFk.out.co.hd.len; have := HV2.out; omega))
     have HNX : Hid (FolI F st c (k + 1) (st2.hold (oppN ln) (-1))) := by rw [HLN.out]; exact HFk.out.next HN.out n0 (by rw [HV2.out]; exact nV) HZ.out
     go_wp2_with fail
     go_at_call 43
     refine LIT.mono ?_
     rintro e w4 ⟨rfl, rfl⟩
     go_wp2_with fail
     go_at_call 44
     refine OPP.mono ?_
     rintro e w5 ⟨rfl, rfl⟩
     go_wp2_with fail
     go_at_call 39
     refine HC.out.mono ?_
     rintro e w6 ⟨rfl, hb6, hbb6⟩
     have HB6 := hidden hb6
     have HBB6 : Hid (Below B w w6) := HBBk.out.trans hbb6
     clear hb6 hbb6 HC f3 fh cn
     go_wp2
     go_roundw
     case measure => simp [intOf]; omega
     case rel => exact ⟨k + 1, _, by omega, by simp, HB6.out, HNX.out, HBB6.out⟩
    ·have HNX : Hid (FolI F st c (k + 1) st2) := HFk.out.skip HN.out n0 (by rw [HV2.out]; exact nV) (by rw [← HY.out]; decide)
     go_wp2_with fail
     go_at_call 43
     refine LIT.mono ?_
     rintro e w4 ⟨rfl, rfl⟩
     go_wp2
     go_roundw
     case measure => simp [intOf]; omega
     case rel => exact ⟨k + 1, _, by omega, by simp, HBk.out, HNX.out, HBBk.out⟩
   ·have hge : ¬ ((k : Int) < (cl : Int)) := by omega
    have HALL : Hid (∀ n, n ∈ c → oppN (litN n) ∈ st2.trail) := fun n hn => HFk.out.all n (by rw [List.take_of_length_le (by rw [← HCL.out]; omega)]; exact hn)
    have PC := hidden (propagate_any F (Tl st.trail) (fun l => -l ∈ c) st.trail.length B wr bb st2 HBk.out.bd HFk.out.co HFk.out.w4 (by rw [HFk.out.wn.len]; omega))
    go_wp2_with fail
    go_at_call 40
    refine PC.out.mono ?_
    rintro e w3 hp
    rcases hp with ⟨rfl, st3, hb3, hw3, hc3, h43, hk0, hk1, hbb3⟩ | ⟨ci, rfl, st3, hb3, hw3, hc3, hcl3, hbb3⟩
    ·have HWN : Hid (WnP st st3) := HFk.out.wn.trans hw3
     have HNF : Hid (¬ Fol F c) := not_fol hc3 h43 hk0 hk1 (fun l hl => by
      obtain ⟨y, hy, e⟩ := hl
      obtain ⟨ext, he⟩ := HWN.out.tr
      exact ⟨y, by rw [he]; exact List.mem_append_left _ hy, e⟩) (fun n hn => (HLIT.out n hn).1) (fun n hn => by
      obtain ⟨ext, he⟩ := hw3.tr
      rw [he]; exact List.mem_append_left _ (HALL.out n hn))
     have HB3 := hidden hb3
     have HC3 := hidden hc3
     have HBB3 : Hid (Below B w w3) := HBBk.out.trans hbb3
     clear hb3 hw3 hc3 h43 hk0 hk1 hbb3 PC
     go_wp2_with fail
     refine leaves_cons (f := 42) (args := #[.pointer (some ⟨bb, 0, none⟩), .int .i64 (tn : Int)]) (by simp) (by simp [go_sem]) ?_
     refine (forget_D _ B w3 bb st3 tn HB3.out (by rw [HTN.out]; exact HC3.out.bf) (by have := HC3.out.hd.len; have := HB3.out.hV; omega) HC3.out.hd.tlt).mono ?_
     rintro e u' w'' ⟨rfl, rfl, hb5, hbb5⟩
     have HX : Hid (FolwP F c B w bb st (.returned (.bool false)) w'') := by
      rw [HTN.out] at hb5
      have hr := rest_back HC3.out HWN.out.take
      exact ⟨false, _, rfl, ⟨fun e => (by cases e), fun hh => absurd hh HNF.out⟩, hb5, Good.of hb5.hV (HWN.out.done.trans HDN.out.symm) hr (rd_of HWN.out.rd HWN.out.round HG.out.rd), HWN.out.V, HWN.out.len, HWN.out.steps, HWN.out.round, HBB3.out.trans hbb5⟩
     clear hb5 hbb5
     simp [Leaves, settle, results, Try.results18, go_sem]
     exact HX.out
    ·have HWN : Hid (WnP st st3) := HFk.out.wn.trans hw3
     obtain ⟨c', hc', hm'⟩ := hcl3
     have HFOL : Hid (Fol F c) := .inr (clash_of hc3 hc' hm')
     have UC := hidden (useAll_any B w3 bb st3 hb3 hc3.wd hc3.rs hc3.hd.tlt (by have := hc3.hd.len; have := hb3.hV; omega) (by rw [HWN.out.len]; exact hncl) ci c' hc' tn (by rw [HTN.out]; exact hc3.bf))
     have HC3 := hidden hc3
     have HBB3 : Hid (Below B w w3) := HBBk.out.trans hbb3
     have hci : ¬ ((ci : Int) = -1) := by omega
     clear hb3 hw3 hc3 hc' hm' hbb3 PC
     go_wp2_with fail
     go_at_call 45
     refine UC.out.mono ?_
     rintro e w4 ⟨rfl, st4, hb4, hu4, hbb4⟩
     have HB4 := hidden hb4
     have HU4 := hidden hu4
     have HC4 := hidden (hu4.core HC3.out)
     have HBB4 : Hid (Below B w w4) := HBB3.out.trans hbb4
     clear hb4 hu4 hbb4 UC
     go_wp2_with fail
     refine leaves_cons (f := 42) (args := #[.pointer (some ⟨bb, 0, none⟩), .int .i64 (tn : Int)]) (by simp) (by simp [go_sem]) ?_
     refine (forget_D _ B w4 bb st4 tn HB4.out (by rw [HTN.out]; exact HC4.out.bf) (by have := HC4.out.hd.len; have := HB4.out.hV; omega) HC4.out.hd.tlt).mono ?_
     rintro e u' w'' ⟨rfl, rfl, hb5, hbb5⟩
     have HX : Hid (FolwP F c B w bb st (.returned (.bool true)) w'') := by
      rw [HTN.out] at hb5
      have hr := rest_back HC4.out (by rw [HU4.out.trail]; exact HWN.out.take)
      exact ⟨true, _, rfl, ⟨fun _ => HFOL.out, fun _ => rfl⟩, hb5, Good.of hb5.hV (HU4.out.done.trans (HWN.out.done.trans HDN.out.symm)) hr (HU4.out.rd (rd_of HWN.out.rd HWN.out.round HG.out.rd)), HU4.out.V.trans HWN.out.V, HU4.out.len.trans HWN.out.len, HU4.out.steps.trans HWN.out.steps, HU4.out.round.trans HWN.out.round, HBB4.out.trans hbb5⟩
     clear hb5 hbb5
     simp [Leaves, settle, results, Try.results18, go_sem]
     exact HX.out
 ·have HX : Hid (FolwP F c B w bb st (.returned (.bool true)) w) := ⟨true, st, rfl, ⟨fun _ => fol_done (g.yes HDN.out.symm), fun _ => rfl⟩, h, g, rfl, rfl, rfl, rfl, Below.refl _ _⟩
  clear h g R hc hlit
  go_enter_defers Try.func18, Try.ntmps18
  go_wp2_with fail
  simp [bodyPostD, Leaves, results, Try.results18, go_sem]
  exact HX.out
end Go.Proofs.Ytefjicdhccfieaa
