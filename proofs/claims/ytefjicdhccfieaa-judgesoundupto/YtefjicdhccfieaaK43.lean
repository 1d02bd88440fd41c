import Derived.Test.YtefjicdhccfieaaK01
import Derived.Test.YtefjicdhccfieaaK42
set_option maxRecDepth 100000
set_option maxHeartbeats 16000000
namespace Go.Proofs.Ytefjicdhccfieaa
open Go.RowKit
theorem forget_d (u : FrameMode) (B : Nat) (w : World) (bb : Nat) (st : St) (X : Slot) (CV : Value) (count : Nat) (h : Bd B w bb st X CV) (hc : count ≤ st.trail.length) (ht : st.trail.length ≤ 67108864) (hin : ∀ x, x ∈ st.trail → x < 2 * st.V) :
  CallsD Try.prog 42 #[.pointer (some ⟨bb, 0, none⟩), .int .i64 (count : Int)] u w fun e u' w' => u' = u ∧ (fun e w' => e = .returned (.tuple #[]) ∧ Bd B w' bb (st.forget count) X CV ∧ Below B w w') e w' := by
 obtain ⟨sl, R0, L, hX, hCV⟩ := h
 have hV := L.hV
 have HL := hidden L
 have f6 : w.cell? ⟨bb, 6, none⟩ = some (sl .trail).v := R0.field 6
 have z6 := R0.soft 6
 have z7 := R0.soft 7
 have z8 := R0.soft 8
 have f7 : w.cell? ⟨bb, 7, none⟩ = some (.int .i64 st.lk0) := R0.field 7
 have f8 : w.cell? ⟨bb, 8, none⟩ = some (.int .i64 st.lk1) := R0.field 8
 have RT := R0.rows .trail
 rw [L.trail.1] at RT
 have HE : Hid (count = st.trail.length → Rows' B w bb (fields sl st) (setS sl .held ⟨(sl .held).v, (sl .held).n, i8V (clr (st.trail.drop count) st.held)⟩)) := fun e => by
  have : i8V (clr (st.trail.drop count) st.held) = (sl .held).xs := by rw [e, List.drop_length]; exact L.held.2.symm
  rw [this]
  have : (⟨(sl .held).v, (sl .held).n, (sl .held).xs⟩ : Slot) = sl .held := rfl
  rw [this, setS_self]; exact R0
 have HR0 := hidden R0
 rcases RT.2 with ⟨hv, h0⟩ | ⟨g, cap, cur, hv, hgB, hgg, hcap, _, _, htake⟩
 ·have hc0 : count = 0 := by omega
  subst hc0
  rw [hv] at f6
  have HX : Hid (∀ w5, w5 = w → Bd B (((w5.setCell ⟨bb, 6, none⟩ (.slice none 0 0)).setCell ⟨bb, 7, none⟩ (.int .i64 0)).setCell ⟨bb, 8, none⟩ (.int .i64 0)) bb (st.forget 0) X CV ∧ Below B w (((w5.setCell ⟨bb, 6, none⟩ (.slice none 0 0)).setCell ⟨bb, 7, none⟩ (.int .i64 0)).setCell ⟨bb, 8, none⟩ (.int .i64 0))) := fun w5 e => by
   subst e
   have hs := HR0.out.size
   refine ⟨⟨_, ?_, L.forget 0 (by omega) (sl .held).v (sl .trail).v, by simp [setS, St.forget]; exact hX, by simp [setS]; exact hCV⟩, setTo (setTo (setTo (Below.refl _ _) HR0.out.base hs) HR0.out.base (by simpa using hs)) HR0.out.base (by simpa using hs)⟩
   have R1 := HE.out h0.symm
   have R2 := ((R1.setB 6 (.slice none 0 0)).setB 7 (.int .i64 0)).setB 8 (.int .i64 0)
   have et : (⟨(sl .trail).v, 0, litV (st.trail.take 0)⟩ : Slot) = setS sl .held ⟨(sl .held).v, (sl .held).n, i8V (clr (st.trail.drop 0) st.held)⟩ .trail := by
    have h1 := L.trail.1
    have h2 := L.trail.2
    rw [h0] at h1
    rw [List.eq_nil_of_length_eq_zero h0] at h2
    rw [setS_other _ _ (by intro e; cases e)]
    show _ = Slot.mk (sl .trail).v (sl .trail).n (sl .trail).xs
    rw [h1, h2]; rfl
   rw [et, setS_self]
   have ef : fields (setS sl .held ⟨(sl .held).v, (sl .held).n, i8V (clr (st.trail.drop 0) st.held)⟩) (st.forget 0) = (((fields sl st).setIfInBounds 6 (.slice none 0 0)).setIfInBounds 7 (.int .i64 0)).setIfInBounds 8 (.int .i64 0) := by
    simp [fields, setS, St.forget, hv]
   rw [ef]; exact R2
  clear RT HE HR0 R0 HL L
  go_enter_d Try.func42, Try.ntmps42
  go_wp2_with fail
  go_loopw [13] (fun i' w' => i' = .int .i64 0 ∧ w = w') (fun _ _ => 0)
  case atStart => exact ⟨rfl, rfl⟩
  case round =>
   obtain ⟨rfl, rfl⟩ := hrel
   go_wp2
   go_end0
   exact ⟨rfl, HX.out _ rfl⟩
 ·have HTK : Hid (∀ (w' : World) (y : Slot), Rows' B w' bb (fields sl st) (setS sl .held y) → ∀ (j x : Nat), st.trail[j]? = some x → w'.cell? ⟨g, j, none⟩ = some (.int .i32 (x : Int))) := fun w' y hR j x hj => by
   have RT' := hR.rows .trail
   rw [setS_other _ _ (by intro e; cases e), hv, L.trail.1] at RT'
   have hlt : j < st.trail.length := (List.getElem?_eq_some_iff.1 hj).1
   rw [RT'.cellAt j (by simp [Site.sz]; exact hlt), L.trail.2]
   exact litV_get _ _ _ hj
  have HF := fun (w5 : World) R hb => forget_end (B := B) (w := w) (w5 := w5) (bb := bb) L hX hCV count hc R hb hv
  have HFH := hidden HF
  rw [hv] at f6
  by_cases hcn : count = st.trail.length
  ·have HX := hidden (HF w (HE.out hcn) (Below.refl _ _))
   clear HTK RT HE HR0 R0 HL L HF HFH
   generalize st.trail.length = tn at *
   subst hcn
   have h2 : (count : Int) ≤ (cap : Int) := by omega
   go_enter_d Try.func42, Try.ntmps42
   go_upto_block 0 with fail
   generalize (if cap = count then some (⟨g, 0, none⟩ : Addr) else some ⟨g, count, none⟩) = av
   go_wp2_with fail
   go_loopw [13] (fun i' w' => i' = .int .i64 0 ∧ w = w') (fun _ _ => 0)
   case atStart => exact ⟨rfl, rfl⟩
   case round =>
    obtain ⟨rfl, rfl⟩ := hrel
    go_wp2
    go_end0
    exact ⟨rfl, HX.out⟩
  ·obtain ⟨x0, hx0⟩ := getElem_lt (show count < st.trail.length by omega)
   have hx1 := hin x0 (List.mem_of_getElem? hx0)
   obtain ⟨hb, hcp, hhv, hhB, hbl, _, hcell, hfz⟩ := R0.form .held (by rw [L.held.1]; omega)
   rw [L.held.1] at hhv
   obtain ⟨N, HN⟩ : ∃ N, Hid (N = 2 * st.V) := ⟨_, rfl⟩
   rw [← HN.out] at hhv
   have hbne : hb ≠ bb := fun e => R0.nb .held (by rw [hhv, ← e]; rfl)
   have hgne : g ≠ bb := fun e => R0.nb .trail (by rw [hv, ← e]; rfl)
   have hghb : g ≠ hb := fun e => by
    have := R0.sep .trail .held g (by rw [hv]; rfl) (by rw [hhv, ← e]; rfl)
    cases this
   have HHV := hidden hhv
   have HVT := hidden hv
   have HV2 : Hid ((sl .held).v = .slice (some ⟨hb, 0, none⟩) (sl .held).n hcp) := by rw [L.held.1, ← HN.out]; exact hhv
   have HLI := hidden hin
   obtain ⟨m, HM⟩ : ∃ m, Hid (m = st.trail.length - count) := ⟨_, rfl⟩
   obtain ⟨tn, HTN⟩ : ∃ n, Hid (n = st.trail.length) := ⟨_, rfl⟩
   rw [← HTN.out] at f6 hcap ht hc hcn
   have HMN : Hid (m = tn - count) := by rw [HM.out, HTN.out]; rfl
   have R00 : Hid (Rows' B w bb (fields sl st) (setS sl .held ⟨(sl .held).v, (sl .held).n, i8V (clr ((st.trail.drop count).take 0) st.held)⟩)) := by
    have : i8V (clr ((st.trail.drop count).take 0) st.held) = (sl .held).xs := by rw [List.take_zero]; exact L.held.2.symm
    rw [this]
    have : (⟨(sl .held).v, (sl .held).n, (sl .held).xs⟩ : Slot) = sl .held := rfl
    rw [this, setS_self]; exact R0
   have HHN := hidden L.held.1
   have HHL := hidden L.heldL
   have hltB : g < w.heap.size := (Array.getElem?_eq_some_iff.1 hgg).1
   clear RT HE HR0 R0 HF htake hgg hin hcell hfz hhv hx0 hx1 L f7 f8 z6 z7 z8
   have h1 : (count : Int) < (tn : Int) := by omega
   have h2 : (tn : Int) ≤ (cap : Int) := by omega
   have h3 : (count : Int) ≤ (tn : Int) := by omega
   go_enter_d Try.func42, Try.ntmps42
   go_wp2_with fail
   rw [← HMN.out]
   have hmI : (m : Int) ≤ 67108864 := by have := HMN.out; omega
   clear f6
   go_loopw [13] (fun i' w' => ∃ (k : Nat), k ≤ m ∧ i' = .int .i64 k ∧ Hid (Rows' B w' bb (fields sl st) (setS sl .held ⟨(sl .held).v, (sl .held).n, i8V (clr ((st.trail.drop count).take k) st.held)⟩)) ∧ Hid (Below B w w')) (fun i' _ => m - (intOf i').toNat)
   case atStart => exact ⟨0, Nat.zero_le _, rfl, R00.out, Below.refl _ _⟩
   case round =>
    obtain ⟨k, hk, rfl, HRr, HBr⟩ := hrel
    by_cases hlt : k < m
    ·obtain ⟨l, hl⟩ := getElem_lt (show k < (st.trail.drop count).length by rw [List.length_drop, ← HM.out]; exact hlt)
     have hl' : st.trail[count + k]? = some l := by rw [← List.getElem?_drop]; exact hl
     have hlN : l < N := by rw [HN.out]; exact HLI.out l (List.mem_of_getElem? hl')
     have ho : oppN l < N := by rw [HN.out]; exact oppN_lt (by have := HN.out; omega)
     have HCN := hidden (clr_next (st.trail.drop count) st.held k l hl)
     have hR := HRr.out
     have HE1 : Hid ((setS sl .held ⟨(sl .held).v, (sl .held).n, i8V (clr ((st.trail.drop count).take k) st.held)⟩) .held = ⟨(sl .held).v, (sl .held).n, i8V (clr ((st.trail.drop count).take k) st.held)⟩) := setS_same _ _ _
     have hRh := hR.rows .held
     rw [HE1.out] at hRh
     dsimp only at hRh
     rw [HV2.out] at hRh
     have hnN : (sl .held).n = N := by rw [HHN.out, HN.out]
     have hlen : (i8V (clr ((st.trail.drop count).take k) st.held)).length = N := by rw [i8V_len, clr_len, HHL.out, HN.out]
     obtain ⟨xl, hxl⟩ := getElem_lt (show l < (i8V (clr ((st.trail.drop count).take k) st.held)).length by rw [hlen]; exact hlN)
     obtain ⟨xo, hxo⟩ := getElem_lt (show oppN l < (i8V (clr ((st.trail.drop count).take k) st.held)).length by rw [hlen]; exact ho)
     have cl := (hRh.cellAt l (by rw [hnN]; simp [Site.sz]; exact hlN)).trans hxl
     have co := (hRh.cellAt (oppN l) (by rw [hnN]; simp [Site.sz]; exact ho)).trans hxo
     have zl := hRh.frozenAt l
     have zo' := hRh.frozenAt (oppN l)
     have ct := HTK.out _ _ hR (count + k) l hl'
     have f3 : wr.cell? ⟨bb, 3, none⟩ = some (.slice (some ⟨hb, 0, none⟩) N hcp) := by rw [hR.field 3, ← HHV.out]; rfl
     have hne := oppN_ne l
     obtain ⟨o, HO⟩ : ∃ o, Hid (o = oppN l) := ⟨_, rfl⟩
     rw [← HO.out] at co ho hne zo'
     have KB : Hid ((fun w' => w'.cell? ⟨bb, 3, none⟩ = some (.slice (some ⟨hb, 0, none⟩) N hcp)) wr) := f3
     have KS : Hid (∀ (w' : World) (xv : Value) (j : Nat), (fun w' => w'.cell? ⟨bb, 3, none⟩ = some (.slice (some ⟨hb, 0, none⟩) N hcp)) w' → (fun w' => w'.cell? ⟨bb, 3, none⟩ = some (.slice (some ⟨hb, 0, none⟩) N hcp)) (w'.setCell ⟨hb, j, none⟩ xv)) := fun w' xv j hh => (World.cell?_setCell_other (h := fun e => hbne (by cases e; rfl)) ..).trans hh
     have zo : (wr.setCell ⟨hb, l, none⟩ (.int .i8 0)).frozen? ⟨hb, o, none⟩ = false := (World.frozen?_setCell _ _ _ _).trans zo'
     have co2 : (wr.setCell ⟨hb, l, none⟩ (.int .i8 0)).cell? ⟨hb, o, none⟩ = some xo := (World.cell?_setCell_other (h := fun e => hne (by cases e; rfl)) ..).trans co
     have RS : Hid (∀ w', Below wr.heap.size wr w' → Rows' B ((w'.setCell ⟨hb, l, none⟩ (.int .i8 0)).setCell ⟨hb, o, none⟩ (.int .i8 0)) bb (fields sl st) (setS sl .held ⟨(sl .held).v, (sl .held).n, i8V (clr ((st.trail.drop count).take (k + 1)) st.held)⟩) ∧ Below B w ((w'.setCell ⟨hb, l, none⟩ (.int .i8 0)).setCell ⟨hb, o, none⟩ (.int .i8 0))) := fun w' hb' => by
      have R1 := hR.rest hb'
      have R2 := R1.setR .held (g := hb) (cap := hcp) (by rw [HE1.out]; exact HV2.out) l (.int .i8 0)
      have R3 := R2.setR .held (g := hb) (cap := hcp) (by rw [setS_same, HE1.out]; exact HV2.out) o (.int .i8 0)
      simp only [setS_same, setS_twice] at R3
      rw [← i8V_set, ← i8V_set, HO.out, ← HCN.out, ← HO.out] at R3
      have hs := R1.size
      exact ⟨R3, setTo (setTo (HBr.out.trans (hb'.mono hR.size)) hhB hs) hhB (by simpa using hs)⟩
     have hltI : (l : Int) < (N : Int) := by omega
     have hoI : (o : Int) < (N : Int) := by omega
     have hkI : (k : Int) < (m : Int) := by omega
     have e3 : IntKind.i64.wrap ((k : Int) + 1) = (k : Int) + 1 := wrapI _ (by omega) (by omega)
     have hN2 : l ≤ 200000 := by have := HN.out; omega
     have OPP := fun w' => opposite_any w' l hN2
     rw [← HO.out] at OPP
     clear hRh hlen hxl hxo hR HCN hl hl' HE1 zo' hnN
     go_upto_region 3 with fail
     refine wp_region_noPanic ?_
     refine wp_region_held_drew (S := (fun w' => w'.cell? ⟨bb, 3, none⟩ = some (.slice (some ⟨hb, 0, none⟩) N hcp))) (by kernel_rfl) (by first | exact KB.out | exact KS.out _ _ _ (by first | assumption | exact KB.out)) (fun hHeld => ?_)
     refine tk 0 ?_
     refine tk 1 ?_
     refine tk 2 ?_
     refine tk 3 ?_
     refine tk 4 ?_
     refine tk 5 ?_
     refine tk 6 ?_
     refine tk 7 ?_
     refine tk 8 ?_
     refine tk 9 ?_
     refine wpAnyH_ready (rs := [10]) (by kernel_rfl) (by simp) ?_
     refine AllReadyH.cons (o := _) rfl (fun K hK => ?_) AllReadyH.nil
     (try simp only [gA, gB, gC])
     go_simp
     go_at_call 44
     refine (OPP _).mono ?_
     rintro e w9 ⟨rfl, rfl⟩
     go_wp2_with fail
     refine hK.out _ _ (by first | exact KB.out | exact KS.out _ _ _ (by first | assumption | exact KB.out)) (fun hHeld10 => ?_)
     clear hK K
     (try simp only [Act.put]); (try simp only [sA]); (try simp only [sB, sC])
     refine tk 11 ?_
     refine wpAnyH_ready (rs := [12]) (by kernel_rfl) (by simp) ?_
     refine AllReadyH.cons (o := _) rfl (fun K hK => ?_) AllReadyH.nil
     (try simp only [gA, gB, gC])
     go_simp
     refine hK.out _ _ (by first | exact KB.out | exact KS.out _ _ _ (by first | assumption | exact KB.out)) (fun hHeld12 => ?_)
     clear hK K
     (try simp only [Act.put]); (try simp only [sA]); (try simp only [sB, sC])
     refine tk 13 ?_
     refine wpAnyH_ready (rs := [14]) (by kernel_rfl) (by simp) ?_
     refine AllReadyH.cons (o := _) rfl (fun K hK => ?_) AllReadyH.nil
     (try simp only [gA, gB, gC])
     go_simp
     refine hK.out _ _ (by first | exact KB.out | exact KS.out _ _ _ (by first | assumption | exact KB.out)) (fun hHeld14 => ?_)
     clear hK K
     (try simp only [Act.put]); (try simp only [sA]); (try simp only [sB, sC])
     refine wpAnyH_done (by kernel_rfl) ?_ _
     refine NoPanic.normal ?_
     generalize hW1 : World.setCell (World.setCell _ _ _) _ _ = w1
     obtain ⟨R1, B1⟩ := RS.out _ (by first | exact Below.refl _ _ | exact Below.drew (Below.refl _ _) | exact Below.drew (Below.drew (Below.refl _ _)))
     rw [hW1] at R1 B1
     have HR1 := hidden R1
     have HB1 := hidden B1
     clear hW1 RS KB KS f3 co2 zo zl co cl hltI hoI OPP ct R1 B1
     go_wp2
     go_roundw
     case measure => simp [intOf]; omega
     case rel => exact ⟨k + 1, by omega, by simp, HR1.out.rest (Below.drew (Below.refl _ _)), Below.drew HB1.out⟩
    ·have hge : ¬ ((k : Int) < (m : Int)) := by omega
     have hR := HRr.out
     rw [List.take_of_length_le (by rw [List.length_drop, ← HM.out]; omega)] at hR
     have HX := hidden (HFH.out wr hR HBr.out)
     have f6 : wr.cell? ⟨bb, 6, none⟩ = some (.slice (some ⟨g, 0, none⟩) tn cap) := by rw [hR.field 6, HTN.out, ← HVT.out]; rfl
     have z6 := hR.soft 6
     have z7 := hR.soft 7
     have z8 := hR.soft 8
     have f7 : wr.cell? ⟨bb, 7, none⟩ = some (.int .i64 st.lk0) := hR.field 7
     have f8 : wr.cell? ⟨bb, 8, none⟩ = some (.int .i64 st.lk1) := hR.field 8
     clear HRr HBr hR
     go_wp2
     go_end0
     exact ⟨rfl, HX.out⟩
theorem forget_D (u : FrameMode) (B : Nat) (w : World) (bb : Nat) (st : St) (count : Nat) (h : BD B w bb st) (hc : count ≤ st.trail.length) (ht : st.trail.length ≤ 67108864) (hin : ∀ x, x ∈ st.trail → x < 2 * st.V) :
  CallsD Try.prog 42 #[.pointer (some ⟨bb, 0, none⟩), .int .i64 (count : Int)] u w fun e u' w' => u' = u ∧ e = .returned (.tuple #[]) ∧ BD B w' bb (st.forget count) ∧ Below B w w' := by
 obtain ⟨X, CV, hb⟩ := h.bd
 refine (forget_d u B w bb st X CV count hb hc ht hin).mono ?_
 rintro e u' w' ⟨h1, h2, h3, h4⟩
 exact ⟨h1, h2, h3.bd, h4⟩
end Go.Proofs.Ytefjicdhccfieaa
