import Derived.Test.YtefjicdhccfieaaK01
import Derived.Test.YtefjicdhccfieaaK37
set_option maxRecDepth 100000
set_option maxHeartbeats 16000000
namespace Go.Proofs.Ytefjicdhccfieaa
open Go.RowKit
theorem BD.reasonC {B : Nat} {w : World} {bb : Nat} {st : St} (h : BD B w bb st) {v : Nat} (hv : v < st.V) : ∃ rb rc r, w.cell? ⟨bb, 4, none⟩ = some (.slice (some ⟨rb, 0, none⟩) st.V rc) ∧ w.cell? ⟨rb, v, none⟩ = some (.int .i32 r) ∧ st.reason[v]? = some r := by
 obtain ⟨sl, R, L⟩ := h
 obtain ⟨rb, rc, hrv, _, _, _, hcell, _⟩ := R.form .reason (by rw [L.reason.1]; omega)
 obtain ⟨r, hr⟩ := getElem_lt (show v < st.reason.length by rw [L.reasonL]; exact hv)
 refine ⟨rb, rc, r, by rw [R.field 4, ← L.reason.1, ← hrv]; rfl, ?_, hr⟩
 rw [hcell v (by rw [L.reason.1]; simp [Site.sz]; omega), L.reason.2]; simp [i32V, hr]
theorem BD.trailAt {B : Nat} {w : World} {bb : Nat} {st : St} (h : BD B w bb st) {j y : Nat} (hy : st.trail[j]? = some y) : ∃ tb tc, w.cell? ⟨bb, 6, none⟩ = some (.slice (some ⟨tb, 0, none⟩) st.trail.length tc) ∧ w.cell? ⟨tb, j, none⟩ = some (.int .i32 (y : Int)) := by
 obtain ⟨sl, R, L⟩ := h
 have hj := (List.getElem?_eq_some_iff.1 hy).1
 obtain ⟨tb, tc, htv, _, _, _, hcell, _⟩ := R.form .trail (by rw [L.trail.1]; omega)
 refine ⟨tb, tc, by rw [R.field 6, ← L.trail.1, ← htv]; rfl, ?_⟩
 rw [hcell j (by rw [L.trail.1]; simp [Site.sz]; omega), L.trail.2]; exact litV_get _ _ _ hy
theorem BD.usedC {B : Nat} {w : World} {bb : Nat} {st : St} (h : BD B w bb st) {v : Nat} (hv : v < st.V) : ∃ ub uc u, w.cell? ⟨bb, 5, none⟩ = some (.slice (some ⟨ub, 0, none⟩) st.V uc) ∧ w.cell? ⟨ub, v, none⟩ = some (.bool u) ∧ w.frozen? ⟨ub, v, none⟩ = false ∧ ∀ b : Bool, BD B (w.setCell ⟨ub, v, none⟩ (.bool b)) bb (st.useV v b) ∧ Below B w (w.setCell ⟨ub, v, none⟩ (.bool b)) := by
 obtain ⟨X, CV, hb⟩ := h.bd
 obtain ⟨ub, uc, u, h1, h2, _, h4, _, h6⟩ := hb.usedC hv
 exact ⟨ub, uc, u, h1, h2, h4, fun b => ⟨(h6 w b (Below.refl _ _)).1.bd, (h6 w b (Below.refl _ _)).2⟩⟩
theorem useAll_any (B : Nat) (w : World) (bb : Nat) (st : St) (h : BD B w bb st) (hwd : Wd st.V st.cls st.W) (hrs : ∀ r, r ∈ st.reason → -1 ≤ r ∧ (r < 1 ∨ r < (st.cls.length : Int))) (htlt : ∀ y, y ∈ st.trail → y < 2 * st.V) (htl : st.trail.length ≤ 200000) (hncl : st.cls.length ≤ 16777216) (ci : Nat) (c : BC) (hc : st.cls[ci]? = some c) (before : Nat) (hbt : before ≤ st.trail.length) :
  Calls Try.prog 45 #[.pointer (some ⟨bb, 0, none⟩), .int .i32 (ci : Int), .int .i64 (before : Int)] w fun e w' => e = .returned (.tuple #[]) ∧ ∃ st', BD B w' bb st' ∧ UseR st st' ∧ Below B w w' := by
 have hV : st.V ≤ 100000 := by
  obtain ⟨_, _, L⟩ := h
  exact L.hV
 have hcl : ci < st.cls.length := (List.getElem?_eq_some_iff.1 hc).1
 have HWD := hidden hwd
 have HRS := hidden hrs
 have HTL := hidden htlt
 have UC := hidden (use_any B w bb st h hwd ci c hc hncl)
 obtain ⟨tn, HTN⟩ : ∃ n, Hid (n = st.trail.length) := ⟨_, rfl⟩
 obtain ⟨VV, HVV⟩ : ∃ n, Hid (n = st.V) := ⟨_, rfl⟩
 rw [← HTN.out] at hbt htl
 clear h hwd hrs htlt hc
 go_enter Try.func45, Try.ntmps45
 go_wp2_with fail
 go_at_call 73
 refine UC.out.mono ?_
 rintro e w1 ⟨rfl, st1, hb1, hu1, hbb1⟩
 have HBD1 := hidden hb1
 have HUR1 := hidden hu1
 have HB1 := hidden hbb1
 obtain ⟨X, CV, hbd⟩ := hb1.bd
 obtain ⟨ta, tc, f6⟩ := hbd.trailC
 rw [hu1.trail, ← HTN.out] at f6
 have e1 : IntKind.i64.wrap ((tn : Int) - 1) = (tn : Int) - 1 := wrapI _ (by omega) (by omega)
 clear hb1 hu1 hbb1 hbd UC
 go_wp2_with fail
 clear f6
 go_loopw [6] (fun i' w' => ∃ (k : Nat) (z : Int) (st2 : St), k ≤ tn ∧ before ≤ k ∧ i' = .int .i64 z ∧ z = (k : Int) - 1 ∧ Hid (BD B w' bb st2) ∧ Hid (UseR st st2) ∧ Hid (Below B w w')) (fun i' _ => (intOf i' + 1).toNat)
 case atStart => exact ⟨tn, (tn : Int) - 1, st1, Nat.le_refl _, hbt, rfl, rfl, HBD1.out, HUR1.out, HB1.out⟩
 case round =>
  obtain ⟨k, z, st2, hk, hkb, rfl, hz, HBD2, HUR2, HB2⟩ := hrel
  by_cases hlt : before < k
  ·obtain ⟨j, hj⟩ : ∃ j, k = j + 1 := ⟨k - 1, by omega⟩
   obtain rfl : z = (j : Int) := by omega
   clear hz
   obtain ⟨y, hy⟩ := getElem_lt (show j < st2.trail.length by rw [HUR2.out.trail, ← HTN.out]; omega)
   have hyV : y < 2 * st.V := HTL.out y (by rw [← HUR2.out.trail]; exact List.mem_of_getElem? hy)
   obtain ⟨tb, tc2, f6, cy⟩ := HBD2.out.trailAt hy
   rw [HUR2.out.trail, ← HTN.out] at f6
   obtain ⟨vh, HVH⟩ : ∃ v, Hid (v = y / 2) := ⟨_, rfl⟩
   have hvV : vh < VV := by have := HVH.out; have := HVV.out; omega
   obtain ⟨ub, uc, u, f5, cu, zu, -⟩ := HBD2.out.usedC (v := vh) (by rw [HUR2.out.V, ← HVV.out]; exact hvV)
   rw [HUR2.out.V, ← HVV.out] at f5
   obtain ⟨rb, rc, r, f4, cr, hr⟩ := HBD2.out.reasonC (v := vh) (by rw [HUR2.out.V, ← HVV.out]; exact hvV)
   rw [HUR2.out.V, ← HVV.out] at f4
   have hrr := HRS.out r (by rw [← HUR2.out.reason]; exact List.mem_of_getElem? hr)
   have VAR := variable_any wr y (by omega)
   rw [← HVH.out] at VAR
   have hjI : (j : Int) < (tn : Int) := by omega
   have hjb : (before : Int) ≤ (j : Int) := by omega
   have hvI : (vh : Int) < (VV : Int) := by omega
   have e3 : IntKind.i64.wrap ((j : Int) - 1) = (j : Int) - 1 := wrapI _ (by omega) (by omega)
   clear hr hy zu
   go_wp2_with fail
   go_at_call 71
   refine VAR.mono ?_
   rintro e w4 ⟨rfl, rfl⟩
   clear f6 cy VAR
   cases u
   ·skip
    go_upto_region 7 with fail
    try clear f5 cu
    try clear cr f4
    obtain ⟨ub2, uc2, u2, g5, gu, gz, hst⟩ := HBD2.out.usedC (v := vh) (by rw [HUR2.out.V, ← HVV.out]; omega)
    rw [HUR2.out.V, ← HVV.out] at g5
    have HST := hidden (hst false)
    clear hst
    go_wp2_with fail
    generalize hW7 : World.setCell w4 _ _ = w7
    rw [hW7] at HST
    have HP1 := hidden HST.out.1
    have HP2 : Hid (UseR st (st2.useV vh false)) := HUR2.out.trans (UseR.used _ _)
    have HP3 : Hid (Below B w w7) := HB2.out.trans HST.out.2
    clear hW7 HST g5 gu gz
    go_wp2
    go_roundw
    case measure => first | (simp [intOf]; done) | (simp [intOf]; omega)
    case rel => exact ⟨j, (j : Int) - 1, _, by omega, by omega, by first | rfl | simp, rfl, HP1.out, HP2.out, HP3.out⟩
   ·by_cases hr1 : r = -1
    ·subst hr1
     go_upto_region 7 with fail
     try clear f5 cu
     try clear cr f4
     obtain ⟨ub2, uc2, u2, g5, gu, gz, hst⟩ := HBD2.out.usedC (v := vh) (by rw [HUR2.out.V, ← HVV.out]; omega)
     rw [HUR2.out.V, ← HVV.out] at g5
     have HST := hidden (hst false)
     clear hst
     go_wp2_with fail
     generalize hW7 : World.setCell w4 _ _ = w7
     rw [hW7] at HST
     have HP1 := hidden HST.out.1
     have HP2 : Hid (UseR st (st2.useV vh false)) := HUR2.out.trans (UseR.used _ _)
     have HP3 : Hid (Below B w w7) := HB2.out.trans HST.out.2
     clear hW7 HST g5 gu gz
     go_wp2
     go_roundw
     case measure => first | (simp [intOf]; done) | (simp [intOf]; omega)
     case rel => exact ⟨j, (j : Int) - 1, _, by omega, by omega, by first | rfl | simp, rfl, HP1.out, HP2.out, HP3.out⟩
    ·obtain ⟨q, hq⟩ : ∃ q : Nat, r = (q : Int) := ⟨r.toNat, by omega⟩
     subst hq
     have hql : q < st2.cls.length := by rw [HUR2.out.len]; omega
     obtain ⟨d, hd⟩ := getElem_lt hql
     have UC2 := hidden (use_any B w4 bb st2 HBD2.out (HUR2.out.wd HWD.out) q d hd (by rw [HUR2.out.len]; exact hncl))
     have hr2 : ¬ ((q : Int) = -1) := by omega
     clear hd
     go_wp2_with fail
     go_at_call 73
     refine UC2.out.mono ?_
     rintro e w5 ⟨rfl, st3, hb3, hu3, hbb3⟩
     have HBD3 := hidden hb3
     have HUR3 : Hid (UseR st st3) := HUR2.out.trans hu3
     have HB3 : Hid (Below B w w5) := HB2.out.trans hbb3
     clear hb3 hu3 hbb3 UC2 cr f4 cu f5
     go_upto_region 7 with fail
     try clear f5 cu
     try clear cr f4
     obtain ⟨ub2, uc2, u2, g5, gu, gz, hst⟩ := HBD3.out.usedC (v := vh) (by rw [HUR3.out.V, ← HVV.out]; omega)
     rw [HUR3.out.V, ← HVV.out] at g5
     have HST := hidden (hst false)
     clear hst
     go_wp2_with fail
     generalize hW7 : World.setCell w5 _ _ = w7
     rw [hW7] at HST
     have HP1 := hidden HST.out.1
     have HP2 : Hid (UseR st (st3.useV vh false)) := HUR3.out.trans (UseR.used _ _)
     have HP3 : Hid (Below B w w7) := HB3.out.trans HST.out.2
     clear hW7 HST g5 gu gz
     go_wp2
     go_roundw
     case measure => first | (simp [intOf]; done) | (simp [intOf]; omega)
     case rel => exact ⟨j, (j : Int) - 1, _, by omega, by omega, by first | rfl | simp, rfl, HP1.out, HP2.out, HP3.out⟩
  ·have hge : ¬ ((before : Int) ≤ z) := by omega
   have HX : Hid (∃ st', BD B wr bb st' ∧ UseR st st' ∧ Below B w wr) := ⟨st2, HBD2.out, HUR2.out, HB2.out⟩
   clear hz
   go_wp2
   go_end0
   exact ⟨rfl, HX.out⟩
end Go.Proofs.Ytefjicdhccfieaa
