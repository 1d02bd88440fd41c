import Derived.Test.YtefjicdhccfieaaJ01
import Derived.Test.YtefjicdhccfieaaJ48
import Derived.Defers
set_option maxRecDepth 100000
set_option maxHeartbeats 16000000
namespace Go.Proofs.Ytefjicdhccfieaa
open Go.RowKit
theorem forget_d (u : FrameMode) (B : Nat) (w : World) (bb : Nat) (st : St) (X : Slot) (CV : Value) (count : Nat) (h : Bd B w bb st X CV) (hc : count ≤ st.trail.length) (ht : st.trail.length ≤ 67108864) (hin : ∀ x, x ∈ st.trail → x < 2 * st.V) :
  CallsD Try.prog 42 #[.pointer (some ⟨bb, 0, none⟩), .int .i64 (count : Int)] u w fun e u' w' => u' = u ∧ (fun e w' => e = .returned (.tuple #[]) ∧ Bd B w' bb (st.forget count) X CV ∧ Below B w w') e w' := by
 obtain ⟨sl, R0, L, hX, hCV⟩ := h
 have hV := L.hV
 have HL := hidden L
 have f6 : w.cell? ⟨bb, 6, none⟩ = some (sl .trail).v := R0.field 6
 have z6 := R0.soft 6
 have z7 := R0.soft 7
 have z8 := R0.soft 8
 have f7 : w.cell? ⟨bb, 7, none⟩ = some (.int .i64 st.lk0) := R0.field 7
 have f8 : w.cell? ⟨bb, 8, none⟩ = some (.int .i64 st.lk1) := R0.field 8
 have RT := R0.rows .trail
 rw [L.trail.1] at RT
 have HE : Hid (count = st.trail.length → Rows' B w bb (fields sl st) (setS sl .held ⟨(sl .held).v, (sl .held).n, i8V (clr (st.trail.drop count) st.held)⟩)) := fun e => by
  have : i8V (clr (st.trail.drop count) st.held) = (sl .held).xs := by rw [e, List.drop_length]; exact L.held.2.symm
  rw [this]
  have : (⟨(sl .held).v, (sl .held).n, (sl .held).xs⟩ : Slot) = sl .held := rfl
  rw [this, setS_self]; exact R0
 have HR0 := hidden R0
 rcases RT.2 with ⟨hv, h0⟩ | ⟨g, cap, cur, hv, hgB, hgg, hcap, _, _, htake⟩
 ·have hc0 : count = 0 := by omega
  subst hc0
  rw [hv] at f6
  have HX : Hid (∀ w5, w5 = w → Bd B (((w5.setCell ⟨bb, 6, none⟩ (.slice none 0 0)).setCell ⟨bb, 7, none⟩ (.int .i64 0)).setCell ⟨bb, 8, none⟩ (.int .i64 0)) bb (st.forget 0) X CV ∧ Below B w (((w5.setCell ⟨bb, 6, none⟩ (.slice none 0 0)).setCell ⟨bb, 7, none⟩ (.int .i64 0)).setCell ⟨bb, 8, none⟩ (.int .i64 0))) := fun w5 e => by
   subst e
   have hs := HR0.out.size
   refine ⟨⟨_, ?_, L.forget 0 (by omega) (sl .held).v (sl .trail).v, by simp [setS, St.forget]; exact hX, by simp [setS]; exact hCV⟩, setTo (setTo (setTo (Below.refl _ _) HR0.out.base hs) HR0.out.base (by simpa using hs)) HR0.out.base (by simpa using hs)⟩
   have R1 := HE.out h0.symm
   have R2 := ((R1.setB 6 (.slice none 0 0)).setB 7 (.int .i64 0)).setB 8 (.int .i64 0)
   have et : (⟨(sl .trail).v, 0, litV (st.trail.take 0)⟩ : Slot) = setS sl .held ⟨(sl .held).v, (sl .held).n, i8V (clr (st.trail.drop 0) st.held)⟩ .trail := by
    have h1 := L.trail.1
    have h2 := L.trail.2
    rw [h0] at h1
    rw [List.eq_nil_of_length_eq_zero h0] at h2
    rw [setS_other _ _ (by intro e; cases e)]
    show _ = Slot.mk (sl .trail).v (sl .trail).n (sl .trail).xs
    rw [h1, h2]; rfl
   rw [et, setS_self]
   have ef : fields (setS sl .held ⟨(sl .held).v, (sl .held).n, i8V (clr (st.trail.drop 0) st.held)⟩) (st.forget 0) = (((fields sl st).setIfInBounds 6 (.slice none 0 0)).setIfInBounds 7 (.int .i64 0)).setIfInBounds 8 (.int .i64 0) := by
    simp [fields, setS, St.forget, hv]
   rw [ef]; exact R2
  clear RT HE HR0 R0 HL L
  go_enter_d Try.func42, Try.ntmps42
  go_wp2_with fail
  go_loopw [13] (fun i' w' => i' = .int .i64 0 ∧ w = w') (fun _ _ => 0)
  case atStart => exact ⟨rfl, rfl⟩
  case round =>
   obtain ⟨rfl, rfl⟩ := hrel
   go_wp2
   go_end0
   exact ⟨rfl, HX.out _ rfl⟩
 ·have HTK : Hid (∀ (w' : World) (y : Slot), Rows' B w' bb (fields sl st) (setS sl .held y) → ∀ (j x : Nat), st.trail[j]? = some x → w'.cell? ⟨g, j, none⟩ = some (.int .i32 (x : Int))) := fun w' y hR j x hj => by
   have RT' := hR.rows .trail
   rw [setS_other _ _ (by intro e; cases e), hv, L.trail.1] at RT'
   have hlt : j < st.trail.length := (List.getElem?_eq_some_iff.1 hj).1
   rw [RT'.cellAt j (by simp [Site.sz]; exact hlt), L.trail.2]
   exact litV_get _ _ _ hj
  have HF := fun (w5 : World) R hb => forget_end (B := B) (w := w) (w5 := w5) (bb := bb) L hX hCV count hc R hb hv
  have HFH := hidden HF
  rw [hv] at f6
  by_cases hcn : count = st.trail.length
  ·have HX := hidden (HF w (HE.out hcn) (Below.refl _ _))
   clear HTK RT HE HR0 R0 HL L HF HFH
   generalize st.trail.length = tn at *
   subst hcn
   have h2 : (count : Int) ≤ (cap : Int) := by omega
   go_enter_d Try.func42, Try.ntmps42
   go_upto_block 0 with fail
   generalize (if cap = count then some (⟨g, 0, none⟩ : Addr) else some ⟨g, count, none⟩) = av
   go_wp2_with fail
   go_loopw [13] (fun i' w' => i' = .int .i64 0 ∧ w = w') (fun _ _ => 0)
   case atStart => exact ⟨rfl, rfl⟩
   case round =>
    obtain ⟨rfl, rfl⟩ := hrel
    go_wp2
    go_end0
    exact ⟨rfl, HX.out⟩
  ·obtain ⟨x0, hx0⟩ := getElem_lt (show count < st.trail.length by omega)
   have hx1 := hin x0 (List.mem_of_getElem? hx0)
   obtain ⟨hb, hcp, hhv, hhB, hbl, _, hcell, hfz⟩ := R0.form .held (by rw [L.held.1]; omega)
   rw [L.held.1] at hhv
   obtain ⟨N, HN⟩ : ∃ N, Hid (N = 2 * st.V) := ⟨_, rfl⟩
   rw [← HN.out] at hhv
   have hbne : hb ≠ bb := fun e => R0.nb .held (by rw [hhv, ← e]; rfl)
   have hgne : g ≠ bb := fun e => R0.nb .trail (by rw [hv, ← e]; rfl)
   have hghb : g ≠ hb := fun e => by
    have := R0.sep .trail .held g (by rw [hv]; rfl) (by rw [hhv, ← e]; rfl)
    cases this
   have HHV := hidden hhv
   have HVT := hidden hv
   have HV2 : Hid ((sl .held).v = .slice (some ⟨hb, 0, none⟩) (sl .held).n hcp) := by rw [L.held.1, ← HN.out]; exact hhv
   have HLI := hidden hin
   obtain ⟨m, HM⟩ : ∃ m, Hid (m = st.trail.length - count) := ⟨_, rfl⟩
   obtain ⟨tn, HTN⟩ : ∃ n, Hid (n = st.trail.length) := ⟨_, rfl⟩
   rw [← HTN.out] at f6 hcap ht hc hcn
   have HMN : Hid (m = tn - count) := by rw [HM.out, HTN.out]; rfl
   have R00 : Hid (Rows' B w bb (fields sl st) (setS sl .held ⟨(sl .held).v, (sl .held).n, i8V (clr ((st.trail.drop count).take 0) st.held)⟩)) := by
    have : i8V (clr ((st.trail.drop count).take 0) st.held) = (sl .held).xs := by rw [List.take_zero]; exact L.held.2.symm
    rw [this]
    have : (⟨(sl .held).v, (sl .held).n, (sl .held).xs⟩ : Slot) = sl .held := rfl
    rw [this, setS_self]; exact R0
   have HHN := hidden L.held.1
   have HHL := hidden L.heldL
   have hltB : g < w.heap.size := (Array.getElem?_eq_some_iff.1 hgg).1
   clear RT HE HR0 R0 HF htake hgg hin hcell hfz hhv hx0 hx1 L f7 f8 z6 z7 z8
   have h1 : (count : Int) < (tn : Int) := by omega
   have h2 : (tn : Int) ≤ (cap : Int) := by omega
   have h3 : (count : Int) ≤ (tn : Int) := by omega
   go_enter_d Try.func42, Try.ntmps42
   go_wp2_with fail
   rw [← HMN.out]
   have hmI : (m : Int) ≤ 67108864 := by have := HMN.out; omega
   clear f6
   go_loopw [13] (fun i' w' => ∃ (k : Nat), k ≤ m ∧ i' = .int .i64 k ∧ Hid (Rows' B w' bb (fields sl st) (setS sl .held ⟨(sl .held).v, (sl .held).n, i8V (clr ((st.trail.drop count).take k) st.held)⟩)) ∧ Hid (Below B w w')) (fun i' _ => m - (intOf i').toNat)
   case atStart => exact ⟨0, Nat.zero_le _, rfl, R00.out, Below.refl _ _⟩
   case round =>
    obtain ⟨k, hk, rfl, HRr, HBr⟩ := hrel
    by_cases hlt : k < m
    ·obtain ⟨l, hl⟩ := getElem_lt (show k < (st.trail.drop count).length by rw [List.length_drop, ← HM.out]; exact hlt)
     have hl' : st.trail[count + k]? = some l := by rw [← List.getElem?_drop]; exact hl
     have hlN : l < N := by rw [HN.out]; exact HLI.out l (List.mem_of_getElem? hl')
     have ho : oppN l < N := by rw [HN.out]; exact oppN_lt (by have := HN.out; omega)
     have HCN := hidden (clr_next (st.trail.drop count) st.held k l hl)
     have hR := HRr.out
     have HE1 : Hid ((setS sl .held ⟨(sl .held).v, (sl .held).n, i8V (clr ((st.trail.drop count).take k) st.held)⟩) .held = ⟨(sl .held).v, (sl .held).n, i8V (clr ((st.trail.drop count).take k) st.held)⟩) := setS_same _ _ _
     have hRh := hR.rows .held
     rw [HE1.out] at hRh
     dsimp only at hRh
     rw [HV2.out] at hRh
     have hnN : (sl .held).n = N := by rw [HHN.out, HN.out]
     have hlen : (i8V (clr ((st.trail.drop count).take k) st.held)).length = N := by rw [i8V_len, clr_len, HHL.out, HN.out]
     obtain ⟨xl, hxl⟩ := getElem_lt (show l < (i8V (clr ((st.trail.drop count).take k) st.held)).length by rw [hlen]; exact hlN)
     obtain ⟨xo, hxo⟩ := getElem_lt (show oppN l < (i8V (clr ((st.trail.drop count).take k) st.held)).length by rw [hlen]; exact ho)
     have cl := (hRh.cellAt l (by rw [hnN]; simp [Site.sz]; exact hlN)).trans hxl
     have co := (hRh.cellAt (oppN l) (by rw [hnN]; simp [Site.sz]; exact ho)).trans hxo
     have zl := hRh.frozenAt l
     have zo' := hRh.frozenAt (oppN l)
     have ct := HTK.out _ _ hR (count + k) l hl'
     have f3 : wr.cell? ⟨bb, 3, none⟩ = some (.slice (some ⟨hb, 0, none⟩) N hcp) := by rw [hR.field 3, ← HHV.out]; rfl
     have hne := oppN_ne l
     obtain ⟨o, HO⟩ : ∃ o, Hid (o = oppN l) := ⟨_, rfl⟩
     rw [← HO.out] at co ho hne zo'
     have KB : Hid ((fun w' => w'.cell? ⟨bb, 3, none⟩ = some (.slice (some ⟨hb, 0, none⟩) N hcp)) wr) := f3
     have KS : Hid (∀ (w' : World) (xv : Value) (j : Nat), (fun w' => w'.cell? ⟨bb, 3, none⟩ = some (.slice (some ⟨hb, 0, none⟩) N hcp)) w' → (fun w' => w'.cell? ⟨bb, 3, none⟩ = some (.slice (some ⟨hb, 0, none⟩) N hcp)) (w'.setCell ⟨hb, j, none⟩ xv)) := fun w' xv j hh => (World.cell?_setCell_other (h := fun e => hbne (by cases e; rfl)) ..).trans hh
     have zo : (wr.setCell ⟨hb, l, none⟩ (.int .i8 0)).frozen? ⟨hb, o, none⟩ = false := (World.frozen?_setCell _ _ _ _).trans zo'
     have co2 : (wr.setCell ⟨hb, l, none⟩ (.int .i8 0)).cell? ⟨hb, o, none⟩ = some xo := (World.cell?_setCell_other (h := fun e => hne (by cases e; rfl)) ..).trans co
     have RS : Hid (∀ w', Below wr.heap.size wr w' → Rows' B ((w'.setCell ⟨hb, l, none⟩ (.int .i8 0)).setCell ⟨hb, o, none⟩ (.int .i8 0)) bb (fields sl st) (setS sl .held ⟨(sl .held).v, (sl .held).n, i8V (clr ((st.trail.drop count).take (k + 1)) st.held)⟩) ∧ Below B w ((w'.setCell ⟨hb, l, none⟩ (.int .i8 0)).setCell ⟨hb, o, none⟩ (.int .i8 0))) := fun w' hb' => by
      have R1 := hR.rest hb'
      have R2 := R1.setR .held (g := hb) (cap := hcp) (by rw [HE1.out]; exact HV2.out) l (.int .i8 0)
      have R3 := R2.setR .held (g := hb) (cap := hcp) (by rw [setS_same, HE1.out]; exact HV2.out) o (.int .i8 0)
      simp only [setS_same, setS_twice] at R3
      rw [← i8V_set, ← i8V_set, HO.out, ← HCN.out, ← HO.out] at R3
      have hs := R1.size
      exact ⟨R3, setTo (setTo (HBr.out.trans (hb'.mono hR.size)) hhB hs) hhB (by simpa using hs)⟩
     have hltI : (l : Int) < (N : Int) := by omega
     have hoI : (o : Int) < (N : Int) := by omega
     have hkI : (k : Int) < (m : Int) := by omega
     have e3 : IntKind.i64.wrap ((k : Int) + 1) = (k : Int) + 1 := wrapI _ (by omega) (by omega)
     have hN2 : l ≤ 200000 := by have := HN.out; omega
     have OPP := fun w' => opposite_any w' l hN2
     rw [← HO.out] at OPP
     clear hRh hlen hxl hxo hR HCN hl hl' HE1 zo' hnN
     go_upto_region 3 with fail
     refine wp_region_noPanic ?_
     refine wp_region_held_drew (S := (fun w' => w'.cell? ⟨bb, 3, none⟩ = some (.slice (some ⟨hb, 0, none⟩) N hcp))) (by kernel_rfl) (by first | exact KB.out | exact KS.out _ _ _ (by first | assumption | exact KB.out)) (fun hHeld => ?_)
     refine tk 0 ?_
     refine tk 1 ?_
     refine tk 2 ?_
     refine tk 3 ?_
     refine tk 4 ?_
     refine tk 5 ?_
     refine tk 6 ?_
     refine tk 7 ?_
     refine tk 8 ?_
     refine tk 9 ?_
     refine wpAnyH_ready (rs := [10]) (by kernel_rfl) (by simp) ?_
     refine AllReadyH.cons (o := _) rfl (fun K hK => ?_) AllReadyH.nil
     (try simp only [gA, gB, gC])
     go_simp
     go_at_call 44
     refine (OPP _).mono ?_
     rintro e w9 ⟨rfl, rfl⟩
     go_wp2_with fail
     refine hK.out _ _ (by first | exact KB.out | exact KS.out _ _ _ (by first | assumption | exact KB.out)) (fun hHeld10 => ?_)
     clear hK K
     (try simp only [Act.put]); (try simp only [sA]); (try simp only [sB, sC])
     refine tk 11 ?_
     refine wpAnyH_ready (rs := [12]) (by kernel_rfl) (by simp) ?_
     refine AllReadyH.cons (o := _) rfl (fun K hK => ?_) AllReadyH.nil
     (try simp only [gA, gB, gC])
     go_simp
     refine hK.out _ _ (by first | exact KB.out | exact KS.out _ _ _ (by first | assumption | exact KB.out)) (fun hHeld12 => ?_)
     clear hK K
     (try simp only [Act.put]); (try simp only [sA]); (try simp only [sB, sC])
     refine tk 13 ?_
     refine wpAnyH_ready (rs := [14]) (by kernel_rfl) (by simp) ?_
     refine AllReadyH.cons (o := _) rfl (fun K hK => ?_) AllReadyH.nil
     (try simp only [gA, gB, gC])
     go_simp
     refine hK.out _ _ (by first | exact KB.out | exact KS.out _ _ _ (by first | assumption | exact KB.out)) (fun hHeld14 => ?_)
     clear hK K
     (try simp only [Act.put]); (try simp only [sA]); (try simp only [sB, sC])
     refine wpAnyH_done (by kernel_rfl) ?_ _
     refine NoPanic.normal ?_
     generalize hW1 : World.setCell (World.setCell _ _ _) _ _ = w1
     obtain ⟨R1, B1⟩ := RS.out _ (by first | exact Below.refl _ _ | exact Below.drew (Below.refl _ _) | exact Below.drew (Below.drew (Below.refl _ _)))
     rw [hW1] at R1 B1
     have HR1 := hidden R1
     have HB1 := hidden B1
     clear hW1 RS KB KS f3 co2 zo zl co cl hltI hoI OPP ct R1 B1
     go_wp2
     go_roundw
     case measure => simp [intOf]; omega
     case rel => exact ⟨k + 1, by omega, by simp, HR1.out.rest (Below.drew (Below.refl _ _)), Below.drew HB1.out⟩
    ·have hge : ¬ ((k : Int) < (m : Int)) := by omega
     have hR := HRr.out
     rw [List.take_of_length_le (by rw [List.length_drop, ← HM.out]; omega)] at hR
     have HX := hidden (HFH.out wr hR HBr.out)
     have f6 : wr.cell? ⟨bb, 6, none⟩ = some (.slice (some ⟨g, 0, none⟩) tn cap) := by rw [hR.field 6, HTN.out, ← HVT.out]; rfl
     have z6 := hR.soft 6
     have z7 := hR.soft 7
     have z8 := hR.soft 8
     have f7 : wr.cell? ⟨bb, 7, none⟩ = some (.int .i64 st.lk0) := hR.field 7
     have f8 : wr.cell? ⟨bb, 8, none⟩ = some (.int .i64 st.lk1) := hR.field 8
     clear HRr HBr hR
     go_wp2
     go_end0
     exact ⟨rfl, HX.out⟩
theorem forget_D (u : FrameMode) (B : Nat) (w : World) (bb : Nat) (st : St) (count : Nat) (h : BD B w bb st) (hc : count ≤ st.trail.length) (ht : st.trail.length ≤ 67108864) (hin : ∀ x, x ∈ st.trail → x < 2 * st.V) :
  CallsD Try.prog 42 #[.pointer (some ⟨bb, 0, none⟩), .int .i64 (count : Int)] u w fun e u' w' => u' = u ∧ e = .returned (.tuple #[]) ∧ BD B w' bb (st.forget count) ∧ Below B w w' := by
 obtain ⟨X, CV, hb⟩ := h.bd
 refine (forget_d u B w bb st X CV count hb hc ht hin).mono ?_
 rintro e u' w' ⟨h1, h2, h3, h4⟩
 exact ⟨h1, h2, h3.bd, h4⟩
end Go.Proofs.Ytefjicdhccfieaa

set_option maxRecDepth 100000
set_option maxHeartbeats 16000000
namespace Go.Proofs.Ytefjicdhccfieaa
open Go.RowKit
def FolwP (F : List (List Int)) (c : List Int) (B : Nat) (w : World) (bb : Nat) (st : St) (e : Ending) (w' : World) : Prop := ∃ b st', e = .returned (.bool b) ∧ (b = true ↔ Fol F c) ∧ BD B w' bb st' ∧ Good F st' ∧ st'.V = st.V ∧ st'.cls.length = st.cls.length ∧ st'.steps = st.steps ∧ st'.round = st.round ∧ Below B w w'
theorem boardFollows_any (F : List (List Int)) (B : Nat) (w : World) (bb : Nat) (st : St) (h : BD B w bb st) (g : Good F st) (a : Option Addr) (cc : Nat) (c : List Int) (R : RowAt B w a 1 (c.map intC)) (hc : c.length ≤ 16777216) (hlit : ∀ n, n ∈ c → n ≠ 0 ∧ n.natAbs ≤ st.V) (hncl : st.cls.length ≤ 16777216) :
  Calls Try.prog 18 #[.pointer (some ⟨bb, 0, none⟩), .slice a c.length cc] w fun e w' => FolwP F c B w bb st e w' := by
 have hV := h.hV
 obtain ⟨f9, -, -, -⟩ := h.fld
 obtain ⟨dn, HDN⟩ : ∃ b, Hid (b = st.done) := ⟨_, rfl⟩
 rw [← HDN.out] at f9
 cases dn
 ·have hrest := g.no HDN.out.symm
  have HREST := hidden hrest
  have HG := hidden g
  have HLIT := hidden hlit
  have HROW := hidden R
  have HT0 := hidden hrest.hd.tlt
  obtain ⟨X, CV, hb0⟩ := h.bd
  have HB0 := hidden hb0
  obtain ⟨ta, tc, f6⟩ := hb0.trailC
  obtain ⟨tn, HTN⟩ : ∃ n, Hid (n = st.trail.length) := ⟨_, rfl⟩
  rw [← HTN.out] at f6
  have htn : tn ≤ 200000 := by rw [HTN.out]; exact g.tn
  obtain ⟨cl, HCL⟩ : ∃ n, Hid (n = c.length) := ⟨_, rfl⟩
  rw [← HCL.out] at hc ⊢
  clear hrest g hlit hb0 h R
  go_enter_defers Try.func18, Try.ntmps18
  go_wp2_with fail
  clear f6 f9
  go_loopw [23] (fun i' w' => ∃ (k : Nat) (st2 : St), k ≤ cl ∧ i' = .int .i64 k ∧ Hid (Bd B w' bb st2 X CV) ∧ Hid (FolI F st c k st2) ∧ Hid (Below B w w')) (fun i' _ => cl - (intOf i').toNat)
  case atStart => exact ⟨0, st, Nat.zero_le _, rfl, HB0.out, FolI.zero HREST.out c, Below.refl _ _⟩
  case round =>
   obtain ⟨k, st2, hk, rfl, HBk, HFk, HBBk⟩ := hrel
   by_cases hlt : k < cl
   ·have hltI : (k : Int) < (cl : Int) := by omega
    obtain ⟨n, hn⟩ := getElem_lt (show k < c.length by rw [← HCL.out]; exact hlt)
    obtain ⟨n0, nV⟩ := HLIT.out n (List.mem_of_getElem? hn)
    have HV2 : Hid (st2.V = st.V) := HFk.out.wn.V
    obtain ⟨ab, ao, ha, hab, cn⟩ := (HROW.out.to HBBk.out).intR hn
    subst ha
    have HN := hidden hn
    have hlV : litN n < 2 * st2.V := litN_lt n0 (by rw [HV2.out]; exact nV)
    obtain ⟨hb, hcp, f3, fh⟩ := HBk.out.heldC hlV
    have LIT := literalOf_any wr n n0 (by omega)
    obtain ⟨y, HY⟩ : ∃ y, Hid (y = st2.held.getD (litN n) 0) := ⟨_, rfl⟩
    rw [← HY.out] at fh
    have hyv := HFk.out.co.hd.val hlV
    rw [← HY.out] at hyv
    obtain ⟨ln, HLN⟩ : ∃ x, Hid (x = litN n) := ⟨_, rfl⟩
    rw [← HLN.out] at fh LIT
    obtain ⟨NN, HNN⟩ : ∃ x, Hid (x = 2 * st2.V) := ⟨_, rfl⟩
    rw [← HNN.out] at f3
    have hlI : (ln : Int) < (NN : Int) := by rw [HLN.out, HNN.out]; omega
    have hln2 : ln ≤ 200000 := by have := HLN.out; have := HNN.out; have := HV2.out; omega
    have e3 : IntKind.i64.wrap ((k : Int) + 1) = (k : Int) + 1 := wrapI _ (by omega) (by omega)
    clear hn hlV
    rcases hyv with rfl | rfl | rfl
    ·have HFOL : Hid (Fol F c) := fol_der (n := n) (List.mem_of_getElem? HN.out) (by
      have h5 := HFk.out.co.so (litN n) ((HFk.out.co.hd.pos (litN_lt n0 (by rw [HV2.out]; exact nV))).1 (by rw [← HY.out]; decide))
      rwa [intL_lit n0] at h5)
     go_wp2_with fail
     go_at_call 43
     refine LIT.mono ?_
     rintro e w4 ⟨rfl, rfl⟩
     go_wp2_with fail
     refine leaves_cons (f := 42) (args := #[.pointer (some ⟨bb, 0, none⟩), .int .i64 (tn : Int)]) (by simp) (by simp [go_sem]) ?_
     refine (forget_D _ B w4 bb st2 tn HBk.out.bd (by rw [HTN.out]; exact HFk.out.co.bf) (by have := HFk.out.co.hd.len; have := HV2.out; omega) HFk.out.co.hd.tlt).mono ?_
     rintro e u' w'' ⟨rfl, rfl, hb5, hbb5⟩
     have HX : Hid (FolwP F c B w bb st (.returned (.bool true)) w'') := by
      rw [HTN.out] at hb5
      have hr := rest_back HFk.out.co HFk.out.wn.take
      exact ⟨true, _, rfl, ⟨fun _ => HFOL.out, fun _ => rfl⟩, hb5, Good.of hb5.hV (HFk.out.wn.done.trans HDN.out.symm) hr (rd_of HFk.out.wn.rd HFk.out.wn.round HG.out.rd), HFk.out.wn.V, HFk.out.wn.len, HFk.out.wn.steps, HFk.out.wn.round, HBBk.out.trans hbb5⟩
     clear hb5 hbb5
     simp [Leaves, settle, results, Try.results18, go_sem]
     exact HX.out
    ·have OPP := opposite_any wr ln hln2
     have HZ : Hid (st2.held.getD (litN n) 0 = 0) := HY.out.symm
     have HC := hidden (hold_any B wr bb st2 X CV (oppN ln) (-1) HBk.out (by rw [HLN.out]; exact oppN_lt (litN_lt n0 (by rw [HV2.out]; exact nV))) (by have := HFk.out.co.hd.len; have := HV2.out; omega))
     have HNX : Hid (FolI F st c (k + 1) (st2.hold (oppN ln) (-1))) := by rw [HLN.out]; exact HFk.out.next HN.out n0 (by rw [HV2.out]; exact nV) HZ.out
     go_wp2_with fail
     go_at_call 43
     refine LIT.mono ?_
     rintro e w4 ⟨rfl, rfl⟩
     go_wp2_with fail
     go_at_call 44
     refine OPP.mono ?_
     rintro e w5 ⟨rfl, rfl⟩
     go_wp2_with fail
     go_at_call 39
     refine HC.out.mono ?_
     rintro e w6 ⟨rfl, hb6, hbb6⟩
     have HB6 := hidden hb6
     have HBB6 : Hid (Below B w w6) := HBBk.out.trans hbb6
     clear hb6 hbb6 HC f3 fh cn
     go_wp2
     go_roundw
     case measure => simp [intOf]; omega
     case rel => exact ⟨k + 1, _, by omega, by simp, HB6.out, HNX.out, HBB6.out⟩
    ·have HNX : Hid (FolI F st c (k + 1) st2) := HFk.out.skip HN.out n0 (by rw [HV2.out]; exact nV) (by rw [← HY.out]; decide)
     go_wp2_with fail
     go_at_call 43
     refine LIT.mono ?_
     rintro e w4 ⟨rfl, rfl⟩
     go_wp2
     go_roundw
     case measure => simp [intOf]; omega
     case rel => exact ⟨k + 1, _, by omega, by simp, HBk.out, HNX.out, HBBk.out⟩
   ·have hge : ¬ ((k : Int) < (cl : Int)) := by omega
    have HALL : Hid (∀ n, n ∈ c → oppN (litN n) ∈ st2.trail) := fun n hn => HFk.out.all n (by rw [List.take_of_length_le (by rw [← HCL.out]; omega)]; exact hn)
    have PC := hidden (propagate_any F (Tl st.trail) (fun l => -l ∈ c) st.trail.length B wr bb st2 HBk.out.bd HFk.out.co HFk.out.w4 (by rw [HFk.out.wn.len]; omega))
    go_wp2_with fail
    go_at_call 40
    refine PC.out.mono ?_
    rintro e w3 hp
    rcases hp with ⟨rfl, st3, hb3, hw3, hc3, h43, hk0, hk1, hbb3⟩ | ⟨ci, rfl, st3, hb3, hw3, hc3, hcl3, hbb3⟩
    ·have HWN : Hid (WnP st st3) := HFk.out.wn.trans hw3
     have HNF : Hid (¬ Fol F c) := not_fol hc3 h43 hk0 hk1 (fun l hl => by
      obtain ⟨y, hy, e⟩ := hl
      obtain ⟨ext, he⟩ := HWN.out.tr
      exact ⟨y, by rw [he]; exact List.mem_append_left _ hy, e⟩) (fun n hn => (HLIT.out n hn).1) (fun n hn => by
      obtain ⟨ext, he⟩ := hw3.tr
      rw [he]; exact List.mem_append_left _ (HALL.out n hn))
     have HB3 := hidden hb3
     have HC3 := hidden hc3
     have HBB3 : Hid (Below B w w3) := HBBk.out.trans hbb3
     clear hb3 hw3 hc3 h43 hk0 hk1 hbb3 PC
     go_wp2_with fail
     refine leaves_cons (f := 42) (args := #[.pointer (some ⟨bb, 0, none⟩), .int .i64 (tn : Int)]) (by simp) (by simp [go_sem]) ?_
     refine (forget_D _ B w3 bb st3 tn HB3.out (by rw [HTN.out]; exact HC3.out.bf) (by have := HC3.out.hd.len; have := HB3.out.hV; omega) HC3.out.hd.tlt).mono ?_
     rintro e u' w'' ⟨rfl, rfl, hb5, hbb5⟩
     have HX : Hid (FolwP F c B w bb st (.returned (.bool false)) w'') := by
      rw [HTN.out] at hb5
      have hr := rest_back HC3.out HWN.out.take
      exact ⟨false, _, rfl, ⟨fun e => (by cases e), fun hh => absurd hh HNF.out⟩, hb5, Good.of hb5.hV (HWN.out.done.trans HDN.out.symm) hr (rd_of HWN.out.rd HWN.out.round HG.out.rd), HWN.out.V, HWN.out.len, HWN.out.steps, HWN.out.round, HBB3.out.trans hbb5⟩
     clear hb5 hbb5
     simp [Leaves, settle, results, Try.results18, go_sem]
     exact HX.out
    ·have HWN : Hid (WnP st st3) := HFk.out.wn.trans hw3
     obtain ⟨c', hc', hm'⟩ := hcl3
     have HFOL : Hid (Fol F c) := .inr (clash_of hc3 hc' hm')
     have UC := hidden (useAll_any B w3 bb st3 hb3 hc3.wd hc3.rs hc3.hd.tlt (by have := hc3.hd.len; have := hb3.hV; omega) (by rw [HWN.out.len]; exact hncl) ci c' hc' tn (by rw [HTN.out]; exact hc3.bf))
     have HC3 := hidden hc3
     have HBB3 : Hid (Below B w w3) := HBBk.out.trans hbb3
     have hci : ¬ ((ci : Int) = -1) := by omega
     clear hb3 hw3 hc3 hc' hm' hbb3 PC
     go_wp2_with fail
     go_at_call 45
     refine UC.out.mono ?_
     rintro e w4 ⟨rfl, st4, hb4, hu4, hbb4⟩
     have HB4 := hidden hb4
     have HU4 := hidden hu4
     have HC4 := hidden (hu4.core HC3.out)
     have HBB4 : Hid (Below B w w4) := HBB3.out.trans hbb4
     clear hb4 hu4 hbb4 UC
     go_wp2_with fail
     refine leaves_cons (f := 42) (args := #[.pointer (some ⟨bb, 0, none⟩), .int .i64 (tn : Int)]) (by simp) (by simp [go_sem]) ?_
     refine (forget_D _ B w4 bb st4 tn HB4.out (by rw [HTN.out]; exact HC4.out.bf) (by have := HC4.out.hd.len; have := HB4.out.hV; omega) HC4.out.hd.tlt).mono ?_
     rintro e u' w'' ⟨rfl, rfl, hb5, hbb5⟩
     have HX : Hid (FolwP F c B w bb st (.returned (.bool true)) w'') := by
      rw [HTN.out] at hb5
      have hr := rest_back HC4.out (by rw [HU4.out.trail]; exact HWN.out.take)
      exact ⟨true, _, rfl, ⟨fun _ => HFOL.out, fun _ => rfl⟩, hb5, Good.of hb5.hV (HU4.out.done.trans (HWN.out.done.trans HDN.out.symm)) hr (HU4.out.rd (rd_of HWN.out.rd HWN.out.round HG.out.rd)), HU4.out.V.trans HWN.out.V, HU4.out.len.trans HWN.out.len, HU4.out.steps.trans HWN.out.steps, HU4.out.round.trans HWN.out.round, HBB4.out.trans hbb5⟩
     clear hb5 hbb5
     simp [Leaves, settle, results, Try.results18, go_sem]
     exact HX.out
 ·have HX : Hid (FolwP F c B w bb st (.returned (.bool true)) w) := ⟨true, st, rfl, ⟨fun _ => fol_done (g.yes HDN.out.symm), fun _ => rfl⟩, h, g, rfl, rfl, rfl, rfl, Below.refl _ _⟩
  clear h g R hc hlit
  go_enter_defers Try.func18, Try.ntmps18
  go_wp2_with fail
  simp [bodyPostD, Leaves, results, Try.results18, go_sem]
  exact HX.out
end Go.Proofs.Ytefjicdhccfieaa
