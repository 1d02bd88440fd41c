import Derived.Test.YtefjicdhccfieaaJ01
import Derived.Test.YtefjicdhccfieaaJ31
set_option maxRecDepth 100000
set_option maxHeartbeats 16000000
namespace Go.Proofs.Ytefjicdhccfieaa
open Go.RowKit
def clr (xs : List Nat) (h : List Int) : List Int := xs.foldl (fun h l => (h.set l 0).set (oppN l) 0) h
theorem clr_len (xs : List Nat) (h : List Int) : (clr xs h).length = h.length := by
 unfold clr
 induction xs generalizing h with
 | nil => rfl
 | cons x r ih => rw [List.foldl_cons, ih]; simp
theorem clr_next (xs : List Nat) (h : List Int) (k l : Nat) (hk : xs[k]? = some l) : clr (xs.take (k + 1)) h = ((clr (xs.take k) h).set l 0).set (oppN l) 0 := by
 rw [take_next xs k l hk]; simp [clr]
def St.forget (st : St) (count : Nat) : St := { st with held := clr (st.trail.drop count) st.held, trail := st.trail.take count, lk0 := count, lk1 := count }
theorem Link.forget {sl : Site → Slot} {st : St} (h : Link sl st) (count : Nat) (hc : count ≤ st.trail.length) (v1 v2 : Value) :
  Link (setS (setS sl .held ⟨v1, (sl .held).n, i8V (clr (st.trail.drop count) st.held)⟩) .trail ⟨v2, count, litV (st.trail.take count)⟩) (st.forget count) := by
 refine ⟨h.hV, ?_, ?_, ?_, h.reasonL, ?_, h.usedL, ?_, ?_, ?_, ?_, ?_, ?_⟩
 ·exact ⟨by simpa [setS, St.forget] using h.held.1, by simp [setS, St.forget]⟩
 ·simpa [St.forget, clr_len] using h.heldL
 ·simpa [setS, St.forget] using h.reason
 ·simpa [setS, St.forget] using h.used
 ·exact ⟨by simp [setS, St.forget]; omega, by simp [setS, St.forget]⟩
 ·simpa [setS, St.forget] using h.clsN
 ·intro i c hc
  simpa [setS, St.forget] using h.cls i c hc
 ·intro i c hc
  simpa [setS, St.forget] using h.lits i c hc
 ·intro t ht
  simpa [setS, St.forget] using h.row t ht
 ·intro t l' ht hl
  simpa [setS, St.forget] using h.wl t l' ht hl
theorem i8V_len (l : List Int) : (i8V l).length = l.length := by simp [i8V]
theorem i8V_get (l : List Int) (i : Nat) (x : Int) (h : l[i]? = some x) : (i8V l)[i]? = some (.int .i8 x) := by simp [i8V, h]
theorem litV_get (l : List Nat) (i x : Nat) (h : l[i]? = some x) : (litV l)[i]? = some (.int .i32 (x : Int)) := by simp [litV, h]
theorem setTo {w w' : World} {B k j : Nat} {u : Value} (h : Below B w w') (hk : B ≤ k) (hB : B ≤ w'.heap.size) : Below B w (w'.setCell ⟨k, j, none⟩ u) := by
 have hg := gset w' k j u
 exact h.trans ⟨hg.os, hg.tape, hg.output, hg.size, fun x hx => hg.block x (by omega) (fun e => by have := Option.some.inj e; omega)⟩
theorem forget_end {B : Nat} {w w5 : World} {bb : Nat} {st : St} {sl : Site → Slot} {X : Slot} {CV : Value} (L : Link sl st) (hX : sl (.lits st.cls.length) = X) (hCV : (sl .clauses).v = CV) (count : Nat) (hc : count ≤ st.trail.length)
  (R : Rows' B w5 bb (fields sl st) (setS sl .held ⟨(sl .held).v, (sl .held).n, i8V (clr (st.trail.drop count) st.held)⟩)) (hb : Below B w w5) {g cap : Nat} (hv : (sl .trail).v = .slice (some ⟨g, 0, none⟩) st.trail.length cap) :
  Bd B (((w5.setCell ⟨bb, 6, none⟩ (.slice (some ⟨g, 0, none⟩) count cap)).setCell ⟨bb, 7, none⟩ (.int .i64 count)).setCell ⟨bb, 8, none⟩ (.int .i64 count)) bb (st.forget count) X CV ∧ Below B w (((w5.setCell ⟨bb, 6, none⟩ (.slice (some ⟨g, 0, none⟩) count cap)).setCell ⟨bb, 7, none⟩ (.int .i64 count)).setCell ⟨bb, 8, none⟩ (.int .i64 count)) := by
 have e0 : setS sl .held ⟨(sl .held).v, (sl .held).n, i8V (clr (st.trail.drop count) st.held)⟩ .trail = sl .trail := by simp [setS]
 have R1 := R.cut .trail (g := g) (cap := cap) (by rw [e0, hv, L.trail.1]) count (by rw [e0, L.trail.1]; exact hc)
 have R2 := ((R1.setB 6 (.slice (some ⟨g, 0, none⟩) count cap)).setB 7 (.int .i64 count)).setB 8 (.int .i64 count)
 refine ⟨⟨_, ?_, L.forget count hc (sl .held).v (.slice (some ⟨g, 0, none⟩) count cap), by simp [setS, St.forget]; exact hX, by simp [setS]; exact hCV⟩, ?_⟩
 ·have e1 : (setS sl .held ⟨(sl .held).v, (sl .held).n, i8V (clr (st.trail.drop count) st.held)⟩ .trail).xs.take (count * Site.trail.sz) = litV (st.trail.take count) := by
   rw [e0, L.trail.2]; simp [Site.sz, litV, List.map_take]
  rw [e1] at R2
  have ef : fields (setS (setS sl .held ⟨(sl .held).v, (sl .held).n, i8V (clr (st.trail.drop count) st.held)⟩) .trail ⟨.slice (some ⟨g, 0, none⟩) count cap, count, litV (st.trail.take count)⟩) (st.forget count) = (((fields sl st).setIfInBounds 6 (.slice (some ⟨g, 0, none⟩) count cap)).setIfInBounds 7 (.int .i64 count)).setIfInBounds 8 (.int .i64 count) := by
   simp [fields, setS, St.forget]
  rw [ef]; exact R2
 ·have hs := R.size
  exact setTo (setTo (setTo hb R.base hs) R.base (by simpa using hs)) R.base (by simpa using hs)
theorem forget_any (B : Nat) (w : World) (bb : Nat) (st : St) (X : Slot) (CV : Value) (count : Nat) (h : Bd B w bb st X CV) (hc : count ≤ st.trail.length) (ht : st.trail.length ≤ 67108864) (hin : ∀ x, x ∈ st.trail → x < 2 * st.V) :
  Calls Try.prog 42 #[.pointer (some ⟨bb, 0, none⟩), .int .i64 (count : Int)] w fun e w' => e = .returned (.tuple #[]) ∧ Bd B w' bb (st.forget count) X CV ∧ Below B w w' := by
 obtain ⟨sl, R0, L, hX, hCV⟩ := h
 have hV := L.hV
 have HL := hidden L
 have f6 : w.cell? ⟨bb, 6, none⟩ = some (sl .trail).v := R0.field 6
 have z6 := R0.soft 6
 have z7 := R0.soft 7
 have z8 := R0.soft 8
 have f7 : w.cell? ⟨bb, 7, none⟩ = some (.int .i64 st.lk0) := R0.field 7
 have f8 : w.cell? ⟨bb, 8, none⟩ = some (.int .i64 st.lk1) := R0.field 8
 have RT := R0.rows .trail
 rw [L.trail.1] at RT
 have HE : Hid (count = st.trail.length → Rows' B w bb (fields sl st) (setS sl .held ⟨(sl .held).v, (sl .held).n, i8V (clr (st.trail.drop count) st.held)⟩)) := fun e => by
  have : i8V (clr (st.trail.drop count) st.held) = (sl .held).xs := by rw [e, List.drop_length]; exact L.held.2.symm
  rw [this]
  have : (⟨(sl .held).v, (sl .held).n, (sl .held).xs⟩ : Slot) = sl .held := rfl
  rw [this, setS_self]; exact R0
 have HR0 := hidden R0
 rcases RT.2 with ⟨hv, h0⟩ | ⟨g, cap, cur, hv, hgB, hgg, hcap, _, _, htake⟩
 ·have hc0 : count = 0 := by omega
  subst hc0
  rw [hv] at f6
  have HX : Hid (∀ w5, w5 = w → Bd B (((w5.setCell ⟨bb, 6, none⟩ (.slice none 0 0)).setCell ⟨bb, 7, none⟩ (.int .i64 0)).setCell ⟨bb, 8, none⟩ (.int .i64 0)) bb (st.forget 0) X CV ∧ Below B w (((w5.setCell ⟨bb, 6, none⟩ (.slice none 0 0)).setCell ⟨bb, 7, none⟩ (.int .i64 0)).setCell ⟨bb, 8, none⟩ (.int .i64 0))) := fun w5 e => by
   subst e
   have hs := HR0.out.size
   refine ⟨⟨_, ?_, L.forget 0 (by omega) (sl .held).v (sl .trail).v, by simp [setS, St.forget]; exact hX, by simp [setS]; exact hCV⟩, setTo (setTo (setTo (Below.refl _ _) HR0.out.base hs) HR0.out.base (by simpa using hs)) HR0.out.base (by simpa using hs)⟩
   have R1 := HE.out h0.symm
   have R2 := ((R1.setB 6 (.slice none 0 0)).setB 7 (.int .i64 0)).setB 8 (.int .i64 0)
   have et : (⟨(sl .trail).v, 0, litV (st.trail.take 0)⟩ : Slot) = setS sl .held ⟨(sl .held).v, (sl .held).n, i8V (clr (st.trail.drop 0) st.held)⟩ .trail := by
    have h1 := L.trail.1
    have h2 := L.trail.2
    rw [h0] at h1
    rw [List.eq_nil_of_length_eq_zero h0] at h2
    rw [setS_other _ _ (by intro e; cases e)]
    show _ = Slot.mk (sl .trail).v (sl .trail).n (sl .trail).xs
    rw [h1, h2]; rfl
   rw [et, setS_self]
   have ef : fields (setS sl .held ⟨(sl .held).v, (sl .held).n, i8V (clr (st.trail.drop 0) st.held)⟩) (st.forget 0) = (((fields sl st).setIfInBounds 6 (.slice none 0 0)).setIfInBounds 7 (.int .i64 0)).setIfInBounds 8 (.int .i64 0) := by
    simp [fields, setS, St.forget, hv]
   rw [ef]; exact R2
  clear RT HE HR0 R0 HL L
  go_enter Try.func42, Try.ntmps42
  go_wp2_with fail
  go_loopw [13] (fun i' w' => i' = .int .i64 0 ∧ w = w') (fun _ _ => 0)
  case atStart => exact ⟨rfl, rfl⟩
  case round =>
   obtain ⟨rfl, rfl⟩ := hrel
   go_wp2
   go_end0
   exact ⟨rfl, HX.out _ rfl⟩
 ·have HTK : Hid (∀ (w' : World) (y : Slot), Rows' B w' bb (fields sl st) (setS sl .held y) → ∀ (j x : Nat), st.trail[j]? = some x → w'.cell? ⟨g, j, none⟩ = some (.int .i32 (x : Int))) := fun w' y hR j x hj => by
   have RT' := hR.rows .trail
   rw [setS_other _ _ (by intro e; cases e), hv, L.trail.1] at RT'
   have hlt : j < st.trail.length := (List.getElem?_eq_some_iff.1 hj).1
   rw [RT'.cellAt j (by simp [Site.sz]; exact hlt), L.trail.2]
   exact litV_get _ _ _ hj
  have HF := fun (w5 : World) R hb => forget_end (B := B) (w := w) (w5 := w5) (bb := bb) L hX hCV count hc R hb hv
  have HFH := hidden HF
  rw [hv] at f6
  by_cases hcn : count = st.trail.length
  ·have HX := hidden (HF w (HE.out hcn) (Below.refl _ _))
   clear HTK RT HE HR0 R0 HL L HF HFH
   generalize st.trail.length = tn at *
   subst hcn
   have h2 : (count : Int) ≤ (cap : Int) := by omega
   go_enter Try.func42, Try.ntmps42
   go_upto_block 0 with fail
   generalize (if cap = count then some (⟨g, 0, none⟩ : Addr) else some ⟨g, count, none⟩) = av
   go_wp2_with fail
   go_loopw [13] (fun i' w' => i' = .int .i64 0 ∧ w = w') (fun _ _ => 0)
   case atStart => exact ⟨rfl, rfl⟩
   case round =>
    obtain ⟨rfl, rfl⟩ := hrel
    go_wp2
    go_end0
    exact ⟨rfl, HX.out⟩
  ·obtain ⟨x0, hx0⟩ := getElem_lt (show count < st.trail.length by omega)
   have hx1 := hin x0 (List.mem_of_getElem? hx0)
   obtain ⟨hb, hcp, hhv, hhB, hbl, _, hcell, hfz⟩ := R0.form .held (by rw [L.held.1]; omega)
   rw [L.held.1] at hhv
   obtain ⟨N, HN⟩ : ∃ N, Hid (N = 2 * st.V) := ⟨_, rfl⟩
   rw [← HN.out] at hhv
   have hbne : hb ≠ bb := fun e => R0.nb .held (by rw [hhv, ← e]; rfl)
   have hgne : g ≠ bb := fun e => R0.nb .trail (by rw [hv, ← e]; rfl)
   have hghb : g ≠ hb := fun e => by
    have := R0.sep .trail .held g (by rw [hv]; rfl) (by rw [hhv, ← e]; rfl)
    cases this
   have HHV := hidden hhv
   have HVT := hidden hv
   have HV2 : Hid ((sl .held).v = .slice (some ⟨hb, 0, none⟩) (sl .held).n hcp) := by rw [L.held.1, ← HN.out]; exact hhv
   have HLI := hidden hin
   obtain ⟨m, HM⟩ : ∃ m, Hid (m = st.trail.length - count) := ⟨_, rfl⟩
   obtain ⟨tn, HTN⟩ : ∃ n, Hid (n = st.trail.length) := ⟨_, rfl⟩
   rw [← HTN.out] at f6 hcap ht hc hcn
   have HMN : Hid (m = tn - count) := by rw [HM.out, HTN.out]; rfl
   have R00 : Hid (Rows' B w bb (fields sl st) (setS sl .held ⟨(sl .held).v, (sl .held).n, i8V (clr ((st.trail.drop count).take 0) st.held)⟩)) := by
    have : i8V (clr ((st.trail.drop count).take 0) st.held) = (sl .held).xs := by rw [List.take_zero]; exact L.held.2.symm
    rw [this]
    have : (⟨(sl .held).v, (sl .held).n, (sl .held).xs⟩ : Slot) = sl .held := rfl
    rw [this, setS_self]; exact R0
   have HHN := hidden L.held.1
   have HHL := hidden L.heldL
   have hltB : g < w.heap.size := (Array.getElem?_eq_some_iff.1 hgg).1
   clear RT HE HR0 R0 HF htake hgg hin hcell hfz hhv hx0 hx1 L f7 f8 z6 z7 z8
   have h1 : (count : Int) < (tn : Int) := by omega
   have h2 : (tn : Int) ≤ (cap : Int) := by omega
   have h3 : (count : Int) ≤ (tn : Int) := by omega
   go_enter Try.func42, Try.ntmps42
   go_wp2_with fail
   rw [← HMN.out]
   have hmI : (m : Int) ≤ 67108864 := by have := HMN.out; omega
   clear f6
   go_loopw [13] (fun i' w' => ∃ (k : Nat), k ≤ m ∧ i' = .int .i64 k ∧ Hid (Rows' B w' bb (fields sl st) (setS sl .held ⟨(sl .held).v, (sl .held).n, i8V (clr ((st.trail.drop count).take k) st.held)⟩)) ∧ Hid (Below B w w')) (fun i' _ => m - (intOf i').toNat)
   case atStart => exact ⟨0, Nat.zero_le _, rfl, R00.out, Below.refl _ _⟩
   case round =>
    obtain ⟨k, hk, rfl, HRr, HBr⟩ := hrel
    by_cases hlt : k < m
    ·obtain ⟨l, hl⟩ := getElem_lt (show k < (st.trail.drop count).length by rw [List.length_drop, ← HM.out]; exact hlt)
     have hl' : st.trail[count + k]? = some l := by rw [← List.getElem?_drop]; exact hl
     have hlN : l < N := by rw [HN.out]; exact HLI.out l (List.mem_of_getElem? hl')
     have ho : oppN l < N := by rw [HN.out]; exact oppN_lt (by have := HN.out; omega)
     have HCN := hidden (clr_next (st.trail.drop count) st.held k l hl)
     have hR := HRr.out
     have HE1 : Hid ((setS sl .held ⟨(sl .held).v, (sl .held).n, i8V (clr ((st.trail.drop count).take k) st.held)⟩) .held = ⟨(sl .held).v, (sl .held).n, i8V (clr ((st.trail.drop count).take k) st.held)⟩) := setS_same _ _ _
     have hRh := hR.rows .held
     rw [HE1.out] at hRh
     dsimp only at hRh
     rw [HV2.out] at hRh
     have hnN : (sl .held).n = N := by rw [HHN.out, HN.out]
     have hlen : (i8V (clr ((st.trail.drop count).take k) st.held)).length = N := by rw [i8V_len, clr_len, HHL.out, HN.out]
     obtain ⟨xl, hxl⟩ := getElem_lt (show l < (i8V (clr ((st.trail.drop count).take k) st.held)).length by rw [hlen]; exact hlN)
     obtain ⟨xo, hxo⟩ := getElem_lt (show oppN l < (i8V (clr ((st.trail.drop count).take k) st.held)).length by rw [hlen]; exact ho)
     have cl := (hRh.cellAt l (by rw [hnN]; simp [Site.sz]; exact hlN)).trans hxl
     have co := (hRh.cellAt (oppN l) (by rw [hnN]; simp [Site.sz]; exact ho)).trans hxo
     have zl := hRh.frozenAt l
     have zo' := hRh.frozenAt (oppN l)
     have ct := HTK.out _ _ hR (count + k) l hl'
     have f3 : wr.cell? ⟨bb, 3, none⟩ = some (.slice (some ⟨hb, 0, none⟩) N hcp) := by rw [hR.field 3, ← HHV.out]; rfl
     have hne := oppN_ne l
     obtain ⟨o, HO⟩ : ∃ o, Hid (o = oppN l) := ⟨_, rfl⟩
     rw [← HO.out] at co ho hne zo'
     have KB : Hid ((fun w' => w'.cell? ⟨bb, 3, none⟩ = some (.slice (some ⟨hb, 0, none⟩) N hcp)) wr) := f3
     have KS : Hid (∀ (w' : World) (xv : Value) (j : Nat), (fun w' => w'.cell? ⟨bb, 3, none⟩ = some (.slice (some ⟨hb, 0, none⟩) N hcp)) w' → (fun w' => w'.cell? ⟨bb, 3, none⟩ = some (.slice (some ⟨hb, 0, none⟩) N hcp)) (w'.setCell ⟨hb, j, none⟩ xv)) := fun w' xv j hh => (World.cell?_setCell_other (h := fun e => hbne (by cases e; rfl)) ..).trans hh
     have zo : (wr.setCell ⟨hb, l, none⟩ (.int .i8 0)).frozen? ⟨hb, o, none⟩ = false := (World.frozen?_setCell _ _ _ _).trans zo'
     have co2 : (wr.setCell ⟨hb, l, none⟩ (.int .i8 0)).cell? ⟨hb, o, none⟩ = some xo := (World.cell?_setCell_other (h := fun e => hne (by cases e; rfl)) ..).trans co
     have RS : Hid (∀ w', Below wr.heap.size wr w' → Rows' B ((w'.setCell ⟨hb, l, none⟩ (.int .i8 0)).setCell ⟨hb, o, none⟩ (.int .i8 0)) bb (fields sl st) (setS sl .held ⟨(sl .held).v, (sl .held).n, i8V (clr ((st.trail.drop count).take (k + 1)) st.held)⟩) ∧ Below B w ((w'.setCell ⟨hb, l, none⟩ (.int .i8 0)).setCell ⟨hb, o, none⟩ (.int .i8 0))) := fun w' hb' => by
      have R1 := hR.rest hb'
      have R2 := R1.setR .held (g := hb) (cap := hcp) (by rw [HE1.out]; exact HV2.out) l (.int .i8 0)
      have R3 := R2.setR .held (g := hb) (cap := hcp) (by rw [setS_same, HE1.out]; exact HV2.out) o (.int .i8 0)
      simp only [setS_same, setS_twice] at R3
      rw [← i8V_set, ← i8V_set, HO.out, ← HCN.out, ← HO.out] at R3
      have hs := R1.size
      exact ⟨R3, setTo (setTo (HBr.out.trans (hb'.mono hR.size)) hhB hs) hhB (by simpa using hs)⟩
     have hltI : (l : Int) < (N : Int) := by omega
     have hoI : (o : Int) < (N : Int) := by omega
     have hkI : (k : Int) < (m : Int) := by omega
     have e3 : IntKind.i64.wrap ((k : Int) + 1) = (k : Int) + 1 := wrapI _ (by omega) (by omega)
     have hN2 : l ≤ 200000 := by have := HN.out; omega
     have OPP := fun w' => opposite_any w' l hN2
     rw [← HO.out] at OPP
     clear hRh hlen hxl hxo hR HCN hl hl' HE1 zo' hnN
     go_upto_region 3 with fail
     refine wp_region_noPanic ?_
     refine wp_region_held_drew (S := (fun w' => w'.cell? ⟨bb, 3, none⟩ = some (.slice (some ⟨hb, 0, none⟩) N hcp))) (by kernel_rfl) (by first | exact KB.out | exact KS.out _ _ _ (by first | assumption | exact KB.out)) (fun hHeld => ?_)
     refine tk 0 ?_
     refine tk 1 ?_
     refine tk 2 ?_
     refine tk 3 ?_
     refine tk 4 ?_
     refine tk 5 ?_
     refine tk 6 ?_
     refine tk 7 ?_
     refine tk 8 ?_
     refine tk 9 ?_
     refine wpAnyH_ready (rs := [10]) (by kernel_rfl) (by simp) ?_
     refine AllReadyH.cons (o := _) rfl (fun K hK => ?_) AllReadyH.nil
     (try simp only [gA, gB, gC])
     go_simp
     go_at_call 44
     refine (OPP _).mono ?_
     rintro e w9 ⟨rfl, rfl⟩
     go_wp2_with fail
     refine hK.out _ _ (by first | exact KB.out | exact KS.out _ _ _ (by first | assumption | exact KB.out)) (fun hHeld10 => ?_)
     clear hK K
     (try simp only [Act.put]); (try simp only [sA]); (try simp only [sB, sC])
     refine tk 11 ?_
     refine wpAnyH_ready (rs := [12]) (by kernel_rfl) (by simp) ?_
     refine AllReadyH.cons (o := _) rfl (fun K hK => ?_) AllReadyH.nil
     (try simp only [gA, gB, gC])
     go_simp
     refine hK.out _ _ (by first | exact KB.out | exact KS.out _ _ _ (by first | assumption | exact KB.out)) (fun hHeld12 => ?_)
     clear hK K
     (try simp only [Act.put]); (try simp only [sA]); (try simp only [sB, sC])
     refine tk 13 ?_
     refine wpAnyH_ready (rs := [14]) (by kernel_rfl) (by simp) ?_
     refine AllReadyH.cons (o := _) rfl (fun K hK => ?_) AllReadyH.nil
     (try simp only [gA, gB, gC])
     go_simp
     refine hK.out _ _ (by first | exact KB.out | exact KS.out _ _ _ (by first | assumption | exact KB.out)) (fun hHeld14 => ?_)
     clear hK K
     (try simp only [Act.put]); (try simp only [sA]); (try simp only [sB, sC])
     refine wpAnyH_done (by kernel_rfl) ?_ _
     refine NoPanic.normal ?_
     generalize hW1 : World.setCell (World.setCell _ _ _) _ _ = w1
     obtain ⟨R1, B1⟩ := RS.out _ (by first | exact Below.refl _ _ | exact Below.drew (Below.refl _ _) | exact Below.drew (Below.drew (Below.refl _ _)))
     rw [hW1] at R1 B1
     have HR1 := hidden R1
     have HB1 := hidden B1
     clear hW1 RS KB KS f3 co2 zo zl co cl hltI hoI OPP ct R1 B1
     go_wp2
     go_roundw
     case measure => simp [intOf]; omega
     case rel => exact ⟨k + 1, by omega, by simp, HR1.out.rest (Below.drew (Below.refl _ _)), Below.drew HB1.out⟩
    ·have hge : ¬ ((k : Int) < (m : Int)) := by omega
     have hR := HRr.out
     rw [List.take_of_length_le (by rw [List.length_drop, ← HM.out]; omega)] at hR
     have HX := hidden (HFH.out wr hR HBr.out)
     have f6 : wr.cell? ⟨bb, 6, none⟩ = some (.slice (some ⟨g, 0, none⟩) tn cap) := by rw [hR.field 6, HTN.out, ← HVT.out]; rfl
     have z6 := hR.soft 6
     have z7 := hR.soft 7
     have z8 := hR.soft 8
     have f7 : wr.cell? ⟨bb, 7, none⟩ = some (.int .i64 st.lk0) := hR.field 7
     have f8 : wr.cell? ⟨bb, 8, none⟩ = some (.int .i64 st.lk1) := hR.field 8
     clear HRr HBr hR
     go_wp2
     go_end0
     exact ⟨rfl, HX.out⟩
end Go.Proofs.Ytefjicdhccfieaa

set_option maxRecDepth 100000
set_option maxHeartbeats 16000000
namespace Go.Proofs.Ytefjicdhccfieaa
open Go.RowKit
def opStep (x : St × List Nat × Bool) (n : Int) : St × List Nat × Bool :=
 if x.1.held.getD (litN n) 0 = 0 then (x.1.hold (oppN (litN n)) (-1), x.2.1 ++ [litN n], x.2.2) else (x.1, x.2.1, x.2.2 || decide (0 < x.1.held.getD (litN n) 0))
def opAll (st : St) (c : List Int) : St × List Nat × Bool := c.foldl opStep (st, [], false)
theorem opAll_next (st : St) (c : List Int) (k : Nat) (n : Int) (h : c[k]? = some n) : opAll st (c.take (k + 1)) = opStep (opAll st (c.take k)) n := by
 unfold opAll; rw [take_next c k n h]; simp
theorem litN_lt {V : Nat} {n : Int} (h0 : n ≠ 0) (h : n.natAbs ≤ V) : litN n < 2 * V := by unfold litN; split <;> omega
structure OpOk (st : St) (k : Nat) (x : St × List Nat × Bool) : Prop where
 V : x.1.V = st.V
 cls : x.1.cls = st.cls
 len : x.1.trail.length ≤ st.trail.length + k
 ge : st.trail.length ≤ x.1.trail.length
 inn : ∀ y, y ∈ x.1.trail → y < 2 * st.V
 ol : x.2.1.length ≤ k
theorem OpOk.next {st : St} {k : Nat} {x : St × List Nat × Bool} (h : OpOk st k x) {n : Int} (h0 : n ≠ 0) (hn : n.natAbs ≤ st.V) : OpOk st (k + 1) (opStep x n) := by
 unfold opStep
 split
 ·refine ⟨h.V, h.cls, ?_, ?_, ?_, ?_⟩
  ·have := h.len; simp [St.hold]; omega
  ·have := h.ge; simp [St.hold]; omega
  ·intro y hy
   simp only [St.hold, List.mem_append, List.mem_singleton] at hy
   rcases hy with hy | hy
   ·exact h.inn y hy
   ·rw [hy]; exact oppN_lt (litN_lt h0 hn)
  ·have := h.ol; simp; omega
 ·exact ⟨h.V, h.cls, by have := h.len; dsimp only; omega, h.ge, h.inn, by have := h.ol; dsimp only; omega⟩
theorem OpOk.zero {st : St} (hin : ∀ y, y ∈ st.trail → y < 2 * st.V) : OpOk st 0 (st, [], false) := ⟨rfl, rfl, Nat.le_refl _, Nat.le_refl _, hin, Nat.le_refl _⟩
theorem Link.next {sl : Site → Slot} {st : St} (h : Link sl st) (X : Slot) : Link (setS sl (.lits st.cls.length) X) st := by
 have hi : ∀ i c, st.cls[i]? = some c → setS sl (.lits st.cls.length) X (.lits i) = sl (.lits i) := fun i c hc => by
  have := (List.getElem?_eq_some_iff.1 hc).1
  exact setS_other _ _ (fun e => by injection e; omega)
 refine ⟨h.hV, ?_, h.heldL, ?_, h.reasonL, ?_, h.usedL, ?_, ?_, ?_, ?_, ?_, ?_⟩
 ·simpa [setS] using h.held
 ·simpa [setS] using h.reason
 ·simpa [setS] using h.used
 ·simpa [setS] using h.trail
 ·simpa [setS] using h.clsN
 ·intro i c hc
  rw [hi i c hc, setS_other _ _ (by intro e; cases e)]
  exact h.cls i c hc
 ·intro i c hc
  rw [hi i c hc]
  exact h.lits i c hc
 ·intro t ht
  simpa [setS] using h.row t ht
 ·intro t l' ht hl
  simpa [setS] using h.wl t l' ht hl
theorem fields_next (sl : Site → Slot) (st : St) (i : Nat) (X : Slot) : fields (setS sl (.lits i) X) st = fields sl st := by simp [fields, setS]
theorem Bd.drop {B : Nat} {w : World} {bb : Nat} {st : St} {X : Slot} {CV : Value} (h : Bd B w bb st X CV) : Bd B w bb st ⟨.slice none 0 0, 0, []⟩ CV := by
 obtain ⟨sl, R, L, _, hCV⟩ := h
 refine ⟨setS sl (.lits st.cls.length) ⟨.slice none 0 0, 0, []⟩, ?_, L.next _, setS_same _ _ _, by rw [setS_other _ _ (by intro e; cases e)]; exact hCV⟩
 rw [fields_next]
 exact R.grow _ _ (grown_refl' w _) (World.ownsRow_nil _ _ _ _) (fun k hk => by cases hk)
theorem Bd.rest {B : Nat} {w w' : World} {bb : Nat} {st : St} {X : Slot} {CV : Value} (h : Bd B w bb st X CV) (hb : Below w.heap.size w w') : Bd B w' bb st X CV := by
 obtain ⟨sl, R, L, hX⟩ := h
 exact ⟨sl, R.rest hb, L, hX⟩
theorem Bd.lt {B : Nat} {w : World} {bb : Nat} {st : St} {X : Slot} {CV : Value} (h : Bd B w bb st X CV) : B ≤ w.heap.size := by
 obtain ⟨sl, R, _⟩ := h
 exact R.size
theorem Bd.own {B : Nat} {w : World} {bb : Nat} {st : St} {X : Slot} {CV : Value} (h : Bd B w bb st X CV) : w.ownsRow B 77 1 X.v X.n X.xs := by
 obtain ⟨sl, R, _, hX, _⟩ := h
 rw [← hX]; exact R.rows (.lits st.cls.length)
theorem Bd.grow {B : Nat} {w w' : World} {bb : Nat} {st : St} {X X' : Slot} {CV : Value} (h : Bd B w bb st X CV) (hg : w.grownBy w' X.v.ownBlock) (hx : w'.ownsRow B 77 1 X'.v X'.n X'.xs) (hat : ∀ k, X'.v.ownBlock = some k → X.v.ownBlock = some k ∨ w.heap.size ≤ k) : Bd B w' bb st X' CV ∧ Below B w w' := by
 obtain ⟨sl, R, L, rfl, hCV⟩ := h
 refine ⟨⟨setS sl (.lits st.cls.length) X', ?_, L.next _, setS_same _ _ _, by rw [setS_other _ _ (by intro e; cases e)]; exact hCV⟩, R.below _ hg⟩
 rw [fields_next]
 exact R.grow _ _ hg hx hat
theorem Bd.heldC {B : Nat} {w : World} {bb : Nat} {st : St} {X : Slot} {CV : Value} (h : Bd B w bb st X CV) {l : Nat} (hl : l < 2 * st.V) : ∃ hb hc, w.cell? ⟨bb, 3, none⟩ = some (.slice (some ⟨hb, 0, none⟩) (2 * st.V) hc) ∧ w.cell? ⟨hb, l, none⟩ = some (.int .i8 (st.held.getD l 0)) := by
 obtain ⟨sl, R, L, _⟩ := h
 obtain ⟨hb, hc, hv, _, _, _, hcell, _⟩ := R.form .held (by rw [L.held.1]; omega)
 refine ⟨hb, hc, by rw [R.field 3, ← L.held.1, ← hv]; rfl, ?_⟩
 rw [hcell l (by rw [L.held.1]; simp [Site.sz]; omega), L.held.2]
 have : l < st.held.length := by rw [L.heldL]; exact hl
 rw [List.getD_eq_getElem?_getD]
 obtain ⟨x, hx⟩ := getElem_lt this
 rw [hx]; exact i8V_get _ _ _ hx
theorem Bd.trailC {B : Nat} {w : World} {bb : Nat} {st : St} {X : Slot} {CV : Value} (h : Bd B w bb st X CV) : ∃ a c, w.cell? ⟨bb, 6, none⟩ = some (.slice a st.trail.length c) := by
 obtain ⟨sl, R, L, _⟩ := h
 have f6 : w.cell? ⟨bb, 6, none⟩ = some (sl .trail).v := R.field 6
 have hr := R.rows .trail
 rw [L.trail.1] at hr
 rcases hr.2 with ⟨h1, h2⟩ | ⟨g, cap, cur, h1, _⟩
 ·exact ⟨none, 0, by rw [f6, h1, h2]⟩
 ·exact ⟨_, cap, by rw [f6, h1]⟩
end Go.Proofs.Ytefjicdhccfieaa

set_option maxRecDepth 100000
set_option maxHeartbeats 16000000
namespace Go.Proofs.Ytefjicdhccfieaa
open Go.RowKit
theorem getD_set (l : List Int) (i j : Nat) (x : Int) (hi : i < l.length) : (l.set i x).getD j 0 = if j = i then x else l.getD j 0 := by
 rw [List.getD_eq_getElem?_getD, List.getD_eq_getElem?_getD]
 by_cases e : j = i
 ·subst e; rw [if_pos rfl, List.getElem?_set_self hi]; rfl
 ·rw [if_neg e, List.getElem?_set_ne (fun h => e h.symm)]
def Even' (st : St) : Prop := ∀ y, y < 2 * st.V → st.held.getD (oppN y) 0 = - st.held.getD y 0
structure OpInv (st : St) (c : List Int) (x : St × List Nat × Bool) : Prop where
 V : x.1.V = st.V
 cls : x.1.cls = st.cls
 W : x.1.W = st.W
 used : x.1.used = st.used
 done : x.1.done = st.done
 round : x.1.round = st.round
 steps : x.1.steps = st.steps
 heldL : x.1.held.length = st.held.length
 held : ∀ y, y < 2 * st.V → x.1.held.getD y 0 = if y ∈ x.2.1 then -1 else if oppN y ∈ x.2.1 then 1 else st.held.getD y 0
 trail : x.1.trail = st.trail ++ x.2.1.map oppN
 zero : ∀ y, y ∈ x.2.1 → st.held.getD y 0 = 0
 opp : ∀ y, y ∈ x.2.1 → oppN y ∉ x.2.1
 nd : x.2.1.Nodup
 lt : ∀ y, y ∈ x.2.1 → y < 2 * st.V
 mem : ∀ y, y ∈ x.2.1 → ∃ n, n ∈ c ∧ y = litN n
 all : ∀ n, n ∈ c → litN n ∈ x.2.1 ∨ st.held.getD (litN n) 0 < 0 ∨ x.2.2 = true
 tt : x.2.2 = true → (∃ n, n ∈ c ∧ 0 < st.held.getD (litN n) 0) ∨ ∃ n, n ∈ c ∧ oppN (litN n) ∈ x.2.1
theorem OpInv.zero' (st : St) : OpInv st [] (st, [], false) :=
 ⟨rfl, rfl, rfl, rfl, rfl, rfl, rfl, rfl, fun y _ => by simp, by simp, fun y h => (by cases h), fun y h => (by cases h), List.nodup_nil, fun y h => (by cases h), fun y h => (by cases h), fun n h => (by cases h), fun h => (by cases h)⟩
theorem OpInv.next {st : St} {c : List Int} {x : St × List Nat × Bool} (h : OpInv st c x) (hL : st.held.length = 2 * st.V) {n : Int} (h0 : n ≠ 0) (hn : n.natAbs ≤ st.V) : OpInv st (c ++ [n]) (opStep x n) := by
 have hl := litN_lt h0 hn
 have ho := oppN_lt hl
 have hne := oppN_ne (litN n)
 have hoo := oppN_opp (litN n)
 generalize hlq : litN n = l at *
 unfold opStep
 rw [hlq]
 have hx := h.held l hl
 by_cases hz : x.1.held.getD l 0 = 0
 ·rw [if_pos hz]
  rw [hz] at hx
  have hnl : l ∉ x.2.1 := fun hm => by rw [if_pos hm] at hx; omega
  rw [if_neg hnl] at hx
  have hno : oppN l ∉ x.2.1 := fun hm => by rw [if_pos hm] at hx; omega
  rw [if_neg hno] at hx
  refine ⟨h.V, h.cls, h.W, h.used, h.done, h.round, h.steps, by simp [St.hold, h.heldL], fun y hy => ?_, ?_, fun y hy => ?_, fun y hy hy2 => ?_, ?_, fun y hy => ?_, fun y hy => ?_, fun m hm => ?_, fun ht => ?_⟩
  ·simp only [St.hold, hoo]
   rw [getD_set _ _ _ _ (by simp [h.heldL, hL]; exact hl), getD_set _ _ _ _ (by rw [h.heldL, hL]; exact ho)]
   by_cases e1 : y = l
   ·subst e1; rw [if_pos rfl, if_pos (by simp)]
   ·rw [if_neg e1]
    by_cases e2 : y = oppN l
    ·subst e2
     rw [if_pos rfl, if_neg (by simp [hno, hne]), if_pos (by rw [hoo]; simp)]
    ·rw [if_neg e2, h.held y hy]
     have e3 : (y ∈ x.2.1 ++ [l]) ↔ y ∈ x.2.1 := by simp [e1]
     have e4 : (oppN y ∈ x.2.1 ++ [l]) ↔ oppN y ∈ x.2.1 := by
      have : oppN y ≠ l := fun e => e2 (by rw [← e, oppN_opp])
      simp [this]
     simp only [e3, e4]
  ·simp [St.hold, h.trail]
  ·rcases List.mem_append.1 hy with h1 | h1
   ·exact h.zero y h1
   ·rw [List.mem_singleton.1 h1]; exact hx.symm
  ·rcases List.mem_append.1 hy with h1 | h1
   ·rcases List.mem_append.1 hy2 with h2 | h2
    ·exact h.opp y h1 h2
    ·have := List.mem_singleton.1 h2
     exact hno (by rw [← this, oppN_opp]; exact h1)
   ·rw [List.mem_singleton.1 h1] at hy2
    rcases List.mem_append.1 hy2 with h2 | h2
    ·exact hno h2
    ·exact hne (List.mem_singleton.1 h2)
  ·rw [List.nodup_append]
   exact ⟨h.nd, by simp, fun a ha b hb e => by rw [List.mem_singleton.1 hb] at e; rw [e] at ha; exact hnl ha⟩
  ·rcases List.mem_append.1 hy with h1 | h1
   ·exact h.lt y h1
   ·rw [List.mem_singleton.1 h1]; exact hl
  ·rcases List.mem_append.1 hy with h1 | h1
   ·obtain ⟨m, h2, h3⟩ := h.mem y h1
    exact ⟨m, List.mem_append_left _ h2, h3⟩
   ·exact ⟨n, by simp, by rw [List.mem_singleton.1 h1, hlq]⟩
  ·rcases List.mem_append.1 hm with h1 | h1
   ·rcases h.all m h1 with h2 | h2 | h2
    ·exact .inl (List.mem_append_left _ h2)
    ·exact .inr (.inl h2)
    ·exact .inr (.inr h2)
   ·rw [List.mem_singleton.1 h1, hlq]; exact .inl (by simp)
  ·rcases h.tt ht with ⟨m, h1, h2⟩ | ⟨m, h1, h2⟩
   ·exact .inl ⟨m, List.mem_append_left _ h1, h2⟩
   ·exact .inr ⟨m, List.mem_append_left _ h1, List.mem_append_left _ h2⟩
 ·rw [if_neg hz]
  refine ⟨h.V, h.cls, h.W, h.used, h.done, h.round, h.steps, h.heldL, h.held, h.trail, h.zero, h.opp, h.nd, h.lt, fun y hy => ?_, fun m hm => ?_, fun ht => ?_⟩
  ·obtain ⟨m, h2, h3⟩ := h.mem y hy
   exact ⟨m, List.mem_append_left _ h2, h3⟩
  ·rcases List.mem_append.1 hm with h1 | h1
   ·rcases h.all m h1 with h2 | h2 | h2
    ·exact .inl h2
    ·exact .inr (.inl h2)
    ·exact .inr (.inr (by simp [h2]))
   ·rw [List.mem_singleton.1 h1, hlq]
    by_cases h2 : l ∈ x.2.1
    ·exact .inl h2
    ·rw [if_neg h2] at hx
     by_cases h3 : 0 < x.1.held.getD l 0
     ·exact .inr (.inr (by simp only [h3, decide_true, Bool.or_true]))
     ·by_cases h4 : oppN l ∈ x.2.1
      ·rw [if_pos h4] at hx; omega
      ·rw [if_neg h4] at hx
       exact .inr (.inl (by omega))
  ·simp only [Bool.or_eq_true, decide_eq_true_eq] at ht
   rcases ht with h1 | h1
   ·rcases h.tt h1 with ⟨m, h1, h2⟩ | ⟨m, h1, h2⟩
    ·exact .inl ⟨m, List.mem_append_left _ h1, h2⟩
    ·exact .inr ⟨m, List.mem_append_left _ h1, h2⟩
   ·by_cases h2 : l ∈ x.2.1
    ·rw [if_pos h2] at hx; omega
    ·rw [if_neg h2] at hx
     by_cases h4 : oppN l ∈ x.2.1
     ·exact .inr ⟨n, by simp, by rw [hlq]; exact h4⟩
     ·rw [if_neg h4] at hx
      exact .inl ⟨n, by simp, by rw [hlq]; omega⟩
theorem opAll_inv {st : St} (hL : st.held.length = 2 * st.V) {c : List Int} (hc : ∀ n, n ∈ c → n ≠ 0 ∧ n.natAbs ≤ st.V) : OpInv st c (opAll st c) := by
 have key : ∀ k, k ≤ c.length → OpInv st (c.take k) (opAll st (c.take k)) := by
  intro k
  induction k with
  | zero => intro _; rw [List.take_zero]; exact OpInv.zero' st
  | succ k ih =>
   intro hk
   obtain ⟨n, hn⟩ := getElem_lt (show k < c.length by omega)
   rw [opAll_next st c k n hn, take_next c k n hn]
   exact (ih (by omega)).next hL (hc n (List.mem_of_getElem? hn)).1 (hc n (List.mem_of_getElem? hn)).2
 have := key c.length (Nat.le_refl _)
 rwa [List.take_length] at this
theorem clr_get (xs : List Nat) (h : List Int) (V : Nat) (hL : h.length = 2 * V) (hx : ∀ a, a ∈ xs → a < 2 * V) (y : Nat) : (clr xs h).getD y 0 = if y ∈ xs ∨ oppN y ∈ xs then 0 else h.getD y 0 := by
 induction xs generalizing h with
 | nil => simp [clr]
 | cons a r ih =>
  have ha := hx a (by simp)
  have e : clr (a :: r) h = clr r ((h.set a 0).set (oppN a) 0) := rfl
  rw [e, ih _ (by simp [hL]) (fun b hb => hx b (by simp [hb])), getD_set _ _ _ _ (by simp [hL]; exact oppN_lt ha), getD_set _ _ _ _ (by rw [hL]; exact ha)]
  by_cases h1 : y ∈ r ∨ oppN y ∈ r
  ·rw [if_pos h1, if_pos]
   rcases h1 with h1 | h1
   ·exact .inl (by simp [h1])
   ·exact .inr (by simp [h1])
  ·rw [if_neg h1]
   by_cases h2 : y = oppN a
   ·rw [if_pos h2, if_pos]
    exact .inr (by rw [h2, oppN_opp]; simp)
   ·rw [if_neg h2]
    by_cases h3 : y = a
    ·rw [if_pos h3, if_pos]
     exact .inl (by simp [h3])
    ·rw [if_neg h3, if_neg]
     rintro (h4 | h4)
     ·rcases List.mem_cons.1 h4 with h5 | h5
      ·exact h3 h5
      ·exact h1 (.inl h5)
     ·rcases List.mem_cons.1 h4 with h5 | h5
      ·exact h2 (by rw [← h5, oppN_opp])
      ·exact h1 (.inr h5)
theorem list_ext_getD {a b : List Int} (hl : a.length = b.length) (h : ∀ y, y < a.length → a.getD y 0 = b.getD y 0) : a = b := by
 apply List.ext_getElem hl
 intro i h1 h2
 have := h i h1
 rw [List.getD_eq_getElem?_getD, List.getD_eq_getElem?_getD, List.getElem?_eq_getElem h1, List.getElem?_eq_getElem h2] at this
 exact this
theorem open_back {st : St} (hE : Even' st) (hL : st.held.length = 2 * st.V) {c : List Int} (hc : ∀ n, n ∈ c → n ≠ 0 ∧ n.natAbs ≤ st.V) (hk : st.lk0 = st.trail.length ∧ st.lk1 = st.trail.length) : ∃ r, (opAll st c).1.forget st.trail.length = { st with reason := r } := by
 have h := opAll_inv hL hc
 generalize opAll st c = x at h
 have hd : x.1.trail.drop st.trail.length = x.2.1.map oppN := by rw [h.trail]; simp
 have ht : x.1.trail.take st.trail.length = st.trail := by rw [h.trail]; simp
 have hh : clr (x.2.1.map oppN) x.1.held = st.held := by
  refine list_ext_getD (by rw [clr_len, h.heldL]) (fun y hy => ?_)
  rw [clr_len, h.heldL, hL] at hy
  rw [clr_get _ _ st.V (by rw [h.heldL, hL]) (fun a ha => by
   obtain ⟨b, hb, rfl⟩ := List.mem_map.1 ha
   exact oppN_lt (h.lt b hb)) y]
  have e1 : y ∈ x.2.1.map oppN ↔ oppN y ∈ x.2.1 := by
   rw [List.mem_map]
   exact ⟨fun ⟨b, hb, e⟩ => by rw [← e, oppN_opp]; exact hb, fun hy => ⟨_, hy, oppN_opp y⟩⟩
  have e2 : oppN y ∈ x.2.1.map oppN ↔ y ∈ x.2.1 := by
   rw [List.mem_map]
   exact ⟨fun ⟨b, hb, e⟩ => by rw [← oppN_opp y, ← e, oppN_opp]; exact hb, fun hy => ⟨_, hy, rfl⟩⟩
  simp only [e1, e2]
  by_cases h1 : oppN y ∈ x.2.1 ∨ y ∈ x.2.1
  ·rw [if_pos h1]
   rcases h1 with h1 | h1
   ·have := h.zero _ h1
    have h2 := hE y hy
    omega
   ·exact (h.zero _ h1).symm
  ·rw [if_neg h1, h.held y hy, if_neg (fun e => h1 (.inr e)), if_neg (fun e => h1 (.inl e))]
 refine ⟨x.1.reason, ?_⟩
 unfold St.forget
 rw [hd, ht, hh]
 have h1 := h.V
 have h2 := h.cls
 have h3 := h.W
 have h4 := h.used
 have h5 := h.done
 have h6 := h.round
 have h7 := h.steps
 rw [h1, h2, h3, h4, h5, h6, h7]
 obtain ⟨a, b⟩ := hk
 cases st
 simp only at a b
 subst a
 simp only [b]
end Go.Proofs.Ytefjicdhccfieaa
