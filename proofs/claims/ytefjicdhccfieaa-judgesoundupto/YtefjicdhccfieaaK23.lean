import Derived.Test.YtefjicdhccfieaaK01
import Derived.Test.YtefjicdhccfieaaK22
set_option maxRecDepth 100000
set_option maxHeartbeats 16000000
namespace Go.Proofs.Ytefjicdhccfieaa
open Go.RowKit
theorem Rows'.get {B : Nat} {w : World} {bb : Nat} {cs : Array Value} {sl : Site → Slot} (h : Rows' B w bb cs sl) (s : Site) {j : Nat} (hj : j < (sl s).n * s.sz) : ∃ u, (sl s).xs[j]? = some u := getElem_lt (by rw [(h.rows s).1]; exact hj)
theorem info_lit0 : (Try.prog.info? 77).map (fun i => (i.zero, i.size, i.bytes)) = some (some (.int .i32 0), 1, 4) := by kernel_rfl
theorem info_lit : ∃ i, Try.prog.info? 77 = some i ∧ i.zero = some (.int .i32 0) ∧ i.size = 1 ∧ i.bytes = 4 := by
 have h := info_lit0
 cases hi : Try.prog.info? 77 with
 | none => rw [hi] at h; cases h
 | some i => rw [hi] at h; simp at h; exact ⟨i, rfl, h.1, h.2.1, h.2.2⟩
theorem Rows'.below {B : Nat} {w w' : World} {bb : Nat} {cs : Array Value} {sl : Site → Slot} (h : Rows' B w bb cs sl) (s : Site) (hg : w.grownBy w' (sl s).v.ownBlock) : Below B w w' :=
 ⟨hg.os, hg.tape, hg.output, hg.size, fun k hk => hg.block k (by have := h.size; omega) (fun e => by have := ((h.rows s).lt k e.symm).1; omega)⟩
theorem Rows'.belowB {B : Nat} {w w' : World} {bb : Nat} {cs : Array Value} {sl : Site → Slot} (h : Rows' B w bb cs sl) (hg : w.grownBy w' (some bb)) : Below B w w' :=
 ⟨hg.os, hg.tape, hg.output, hg.size, fun k hk => hg.block k (by have := h.size; omega) (fun e => by have := h.base; have := Option.some.inj e; omega)⟩
theorem hold_open (B : Nat) (w : World) (bb : Nat) (st : St) (sl : Site → Slot) (l : Nat) (r : Int) (R0 : Rows' B w bb (fields sl st) sl) (L : Link sl st) (hl : l < 2 * st.V) (ht : st.trail.length ≤ 67108864) :
  Calls Try.prog 39 #[.pointer (some ⟨bb, 0, none⟩), .int .i32 (l : Int), .int .i32 r] w fun e w' => e = .returned (.tuple #[]) ∧ (∃ sl', Rows' B w' bb (fields sl' (st.hold l r)) sl' ∧ Link sl' (st.hold l r) ∧ ∀ s, s ≠ .held → s ≠ .reason → s ≠ .trail → sl' s = sl s) ∧ Below B w w' := by
 have hV := L.hV
 have ho := oppN_lt hl
 obtain ⟨il, hi, hz, hs, hby⟩ := info_lit
 have HI := hidden hi
 have HZ := hidden hz
 have HS := hidden hs
 have HY := hidden hby
 clear hi hz hs hby
 have HLN := hidden (L.hold l r (sl .held).v (sl .reason).v)
 have HL := hidden L
 have HNH := hidden L.held.1
 have HNR := hidden L.reason.1
 have HNT := hidden L.trail.1
 obtain ⟨hb, hc, hv, _, hbl, _, hcell, hfz⟩ := R0.form .held (by rw [L.held.1]; omega)
 obtain ⟨xl, hxl⟩ := R0.get .held (j := l) (by rw [L.held.1]; simp [Site.sz]; omega)
 obtain ⟨xo, hxo⟩ := R0.get .held (j := oppN l) (by rw [L.held.1]; simp [Site.sz]; omega)
 have cl := (hcell l (by rw [L.held.1]; simp [Site.sz]; omega)).trans hxl
 have co := (hcell (oppN l) (by rw [L.held.1]; simp [Site.sz]; omega)).trans hxo
 have hne := oppN_ne l
 obtain ⟨o, HO⟩ : ∃ o, Hid (o = oppN l) := ⟨_, rfl⟩
 rw [← HO.out] at co ho hne HLN
 obtain ⟨N, HN⟩ : ∃ N, Hid (N = 2 * st.V) := ⟨_, rfl⟩
 have f3 : w.cell? ⟨bb, 3, none⟩ = some (.slice (some ⟨hb, 0, none⟩) N hc) := by rw [R0.field 3, HN.out, ← L.held.1, ← hv]; rfl
 have hbne : hb ≠ bb := fun e => R0.nb .held (by rw [hv, ← e]; rfl)
 have KB : Hid ((fun w' => w'.cell? ⟨bb, 3, none⟩ = some (.slice (some ⟨hb, 0, none⟩) N hc)) w) := f3
 have KS : Hid (∀ (w' : World) (xv : Value) (j : Nat), (fun w' => w'.cell? ⟨bb, 3, none⟩ = some (.slice (some ⟨hb, 0, none⟩) N hc)) w' → (fun w' => w'.cell? ⟨bb, 3, none⟩ = some (.slice (some ⟨hb, 0, none⟩) N hc)) (w'.setCell ⟨hb, j, none⟩ xv)) := fun w' xv j hh => (World.cell?_setCell_other (h := fun e => hbne (by cases e; rfl)) ..).trans hh
 have zl := hfz l
 have zo : (w.setCell ⟨hb, l, none⟩ (.int .i8 1)).frozen? ⟨hb, o, none⟩ = false := (World.frozen?_setCell _ _ _ _).trans (hfz o)
 have co2 : (w.setCell ⟨hb, l, none⟩ (.int .i8 1)).cell? ⟨hb, o, none⟩ = some xo := (World.cell?_setCell_other (h := fun e => hne (by cases e; rfl)) ..).trans co
 have RS : Hid (∀ w', Below w.heap.size w w' → Rows' B ((w'.setCell ⟨hb, l, none⟩ (.int .i8 1)).setCell ⟨hb, o, none⟩ (.int .i8 (-1))) bb (fields sl st) (setS sl .held ⟨(sl .held).v, (sl .held).n, ((sl .held).xs.set l (.int .i8 1)).set o (.int .i8 (-1))⟩) ∧ Below B w ((w'.setCell ⟨hb, l, none⟩ (.int .i8 1)).setCell ⟨hb, o, none⟩ (.int .i8 (-1)))) := fun w' hb' => by
  have R1 := R0.rest hb'
  have R2 := R1.setR .held hv l (.int .i8 1)
  have R3 := R2.setR .held (g := hb) (cap := hc) (by rw [setS_same]; exact hv) o (.int .i8 (-1))
  rw [setS_same, setS_twice] at R3
  have hbB : B ≤ hb := ((R0.rows .held).lt hb (by rw [hv]; rfl)).1
  refine ⟨R3, (hb'.mono R0.size).trans ?_⟩
  have hg := grown_trans' (gset w' hb l (.int .i8 1)) (gset _ hb o (.int .i8 (-1)))
  exact ⟨hg.os, hg.tape, hg.output, hg.size, fun k hk => hg.block k (by have := R1.size; omega) (fun e => by have := Option.some.inj e; omega)⟩
 have hltI : (l : Int) < (N : Int) := by have := HN.out; omega
 have hoI : (o : Int) < (N : Int) := by have := HN.out; omega
 have OPP := fun w' => opposite_any w' l (by omega)
 rw [← HO.out] at OPP
 clear hcell hxl hxo hne hfz hv
 go_enter Try.func39, Try.ntmps39
 go_upto_region 0 with fail
 refine wp_region_noPanic ?_
 refine wp_region_held_drew (S := (fun w' => w'.cell? ⟨bb, 3, none⟩ = some (.slice (some ⟨hb, 0, none⟩) N hc))) (by kernel_rfl) (by first | exact KB.out | exact KS.out _ _ _ (by first | assumption | exact KB.out)) (fun hHeld => ?_)
 refine tk 0 ?_
 refine tk 1 ?_
 refine tk 2 ?_
 refine tk 3 ?_
 refine tk 4 ?_
 refine tk 5 ?_
 refine tk 6 ?_
 refine tk 7 ?_
 refine tk 8 ?_
 refine tk 9 ?_
 refine wpAnyH_ready (rs := [10]) (by kernel_rfl) (by simp) ?_
 refine AllReadyH.cons (o := _) rfl (fun K hK => ?_) AllReadyH.nil
 (try simp only [gA, gB, gC])
 go_simp
 go_at_call 44
 refine (OPP _).mono ?_
 rintro e w9 ⟨rfl, rfl⟩
 go_wp2_with fail
 refine hK.out _ _ (by first | exact KB.out | exact KS.out _ _ _ (by first | assumption | exact KB.out)) (fun hHeld10 => ?_)
 clear hK K
 (try simp only [Act.put]); (try simp only [sA]); (try simp only [sB, sC])
 refine tk 11 ?_
 refine wpAnyH_ready (rs := [12]) (by kernel_rfl) (by simp) ?_
 refine AllReadyH.cons (o := _) rfl (fun K hK => ?_) AllReadyH.nil
 (try simp only [gA, gB, gC])
 go_simp
 refine hK.out _ _ (by first | exact KB.out | exact KS.out _ _ _ (by first | assumption | exact KB.out)) (fun hHeld12 => ?_)
 clear hK K
 (try simp only [Act.put]); (try simp only [sA]); (try simp only [sB, sC])
 refine tk 13 ?_
 refine wpAnyH_ready (rs := [14]) (by kernel_rfl) (by simp) ?_
 refine AllReadyH.cons (o := _) rfl (fun K hK => ?_) AllReadyH.nil
 (try simp only [gA, gB, gC])
 go_simp
 refine hK.out _ _ (by first | exact KB.out | exact KS.out _ _ _ (by first | assumption | exact KB.out)) (fun hHeld14 => ?_)
 clear hK K
 (try simp only [Act.put]); (try simp only [sA]); (try simp only [sB, sC])
 refine wpAnyH_done (by kernel_rfl) ?_ _
 refine NoPanic.normal ?_
 generalize hW1 : World.setCell (World.setCell _ _ _) _ _ = w1
 obtain ⟨R1, B1⟩ := RS.out _ (by first | exact Below.refl _ _ | exact Below.drew (Below.refl _ _) | exact Below.drew (Below.drew (Below.refl _ _)))
 rw [hW1] at R1 B1
 clear hW1 RS KB KS f3 co2 zo zl co cl hltI hoI OPP
 obtain ⟨sl1, HSL1⟩ : ∃ sl1, Hid (sl1 = setS sl .held ⟨(sl .held).v, (sl .held).n, ((sl .held).xs.set l (.int .i8 1)).set o (.int .i8 (-1))⟩) := ⟨_, rfl⟩
 rw [← HSL1.out] at R1 HLN
 have HNR1 : Hid ((sl1 .reason).n = st.V) := by show _ = _; rw [HSL1.out]; simpa [setS] using HNR.out
 have HVR1 : Hid ((sl1 .reason) = sl .reason) := by rw [HSL1.out]; simp [setS, Hid]
 obtain ⟨rb, rc, hv, _, hrl, _, hcell, hfz⟩ := R1.form .reason (by rw [HNR1.out]; omega)
 obtain ⟨xr, hxr⟩ := R1.get .reason (j := l / 2) (by rw [HNR1.out]; simp [Site.sz]; omega)
 have cr := (hcell (l / 2) (by rw [HNR1.out]; simp [Site.sz]; omega)).trans hxr
 have f4 : w1.cell? ⟨bb, 4, none⟩ = some (.slice (some ⟨rb, 0, none⟩) st.V rc) := by rw [R1.field 4, ← HNR1.out, ← hv, HVR1.out]; rfl
 have hrne : rb ≠ bb := fun e => R1.nb .reason (by rw [hv, ← e]; rfl)
 have KB : Hid ((fun w' => w'.cell? ⟨bb, 4, none⟩ = some (.slice (some ⟨rb, 0, none⟩) st.V rc)) w1) := f4
 have KS : Hid (∀ (w' : World) (xv : Value) (j : Nat), (fun w' => w'.cell? ⟨bb, 4, none⟩ = some (.slice (some ⟨rb, 0, none⟩) st.V rc)) w' → (fun w' => w'.cell? ⟨bb, 4, none⟩ = some (.slice (some ⟨rb, 0, none⟩) st.V rc)) (w'.setCell ⟨rb, j, none⟩ xv)) := fun w' xv j hh => (World.cell?_setCell_other (h := fun e => hrne (by cases e; rfl)) ..).trans hh
 have zr := hfz (l / 2)
 have RS : Hid (∀ w', Below w1.heap.size w1 w' → Rows' B (w'.setCell ⟨rb, l / 2, none⟩ (.int .i32 r)) bb (fields sl st) (setS sl1 .reason ⟨(sl .reason).v, (sl .reason).n, (sl .reason).xs.set (l / 2) (.int .i32 r)⟩) ∧ Below B w (w'.setCell ⟨rb, l / 2, none⟩ (.int .i32 r))) := fun w' hb' => by
  have R2 := R1.rest hb'
  have R3 := R2.setR .reason hv (l / 2) (.int .i32 r)
  rw [HVR1.out] at R3
  refine ⟨R3, B1.trans ((hb'.mono R1.size).trans (R2.below .reason ?_))⟩
  rw [hv]; exact gset _ _ _ _
 have hltI : ((l / 2 : Nat) : Int) < (st.V : Int) := by omega
 have VAR := fun w' => variable_any w' l (by omega)
 obtain ⟨lh, HLH⟩ : ∃ h, Hid (h = l / 2) := ⟨_, rfl⟩
 rw [← HLH.out] at cr zr RS hltI VAR HLN
 clear hcell hxr hfz hv
 go_upto_region 1 with fail
 refine wp_region_noPanic ?_
 refine wp_region_held_drew (S := (fun w' => w'.cell? ⟨bb, 4, none⟩ = some (.slice (some ⟨rb, 0, none⟩) st.V rc))) (by kernel_rfl) (by first | exact KB.out | exact KS.out _ _ _ (by first | assumption | exact KB.out)) (fun hHeld => ?_)
 refine tk 0 ?_
 refine tk 1 ?_
 refine tk 2 ?_
 refine tk 3 ?_
 refine tk 4 ?_
 refine tk 6 ?_
 refine wpAnyH_ready (rs := [5]) (by kernel_rfl) (by simp) ?_
 refine AllReadyH.cons (o := _) rfl (fun K hK => ?_) AllReadyH.nil
 (try simp only [gA, gB, gC])
 go_simp
 go_at_call 71
 refine (VAR _).mono ?_
 rintro e w9 ⟨rfl, rfl⟩
 go_wp2_with fail
 refine hK.out _ _ (by first | exact KB.out | exact KS.out _ _ _ (by first | assumption | exact KB.out)) (fun hHeld5 => ?_)
 clear hK K
 (try simp only [Act.put]); (try simp only [sA]); (try simp only [sB, sC])
 refine tk 7 ?_
 refine wpAnyH_ready (rs := [8]) (by kernel_rfl) (by simp) ?_
 refine AllReadyH.cons (o := _) rfl (fun K hK => ?_) AllReadyH.nil
 (try simp only [gA, gB, gC])
 go_simp
 refine hK.out _ _ (by first | exact KB.out | exact KS.out _ _ _ (by first | assumption | exact KB.out)) (fun hHeld8 => ?_)
 clear hK K
 (try simp only [Act.put]); (try simp only [sA]); (try simp only [sB, sC])
 refine wpAnyH_done (by kernel_rfl) ?_ _
 refine NoPanic.normal ?_
 generalize hW2 : World.setCell _ _ _ = w2
 obtain ⟨R2, B2⟩ := RS.out _ (by first | exact Below.refl _ _ | exact Below.drew (Below.refl _ _) | exact Below.drew (Below.drew (Below.refl _ _)))
 rw [hW2] at R2 B2
 clear hW2 RS KB KS f4 cr zr hltI VAR
 go_upto_region 2 with fail
 replace R2 := R2.rest (Below.drew (Below.drew (Below.refl _ _)))
 replace B2 := Below.drew (Below.drew B2)
 generalize w2.drew.drew = w3 at R2 B2 ⊢
 clear w2
 rename World => w2
 obtain ⟨sl2, HSL2⟩ : ∃ sl2, Hid (sl2 = setS sl1 .reason ⟨(sl .reason).v, (sl .reason).n, (sl .reason).xs.set lh (.int .i32 r)⟩) := ⟨_, rfl⟩
 rw [← HSL2.out] at R2 HLN
 have HT2 : Hid (sl2 .trail = sl .trail) := by rw [HSL2.out, HSL1.out]; simp [setS, Hid]
 have RT := R2.rows .trail
 rw [HT2.out] at RT
 have f6 : w2.cell? ⟨bb, 6, none⟩ = some (sl .trail).v := R2.field 6
 have hm1 : (sl .trail).n + 1 ≤ maxLen := by rw [HNT.out]; simp only [maxLen]; omega
 have hm2 : ((sl .trail).n + 1) * 4 ≤ 140737488355328 := by rw [HNT.out]; omega
 have hm3 : B ≤ (w2.alloc (.cells #[.int .i32 (l : Int)] 77)).heap.size := by have := R2.size; simp; omega
 have hbl2 := R2.lt
 have HRT : Hid (w2.ownsRow B 77 1 (sl .trail).v (sl .trail).n (sl .trail).xs) := RT
 have far : some bb ≠ (sl .trail).v.ownBlock := fun e => by have := R2.nb .trail; rw [HT2.out] at this; exact this e.symm
 have HR2 := hidden R2
 have KP : Hid (∀ w', (w2.alloc (.cells #[.int .i32 (l : Int)] 77)).grownBy w' (sl .trail).v.ownBlock → w'.cell? ⟨bb, 6, none⟩ = some (sl .trail).v ∧ w'.frozen? ⟨bb, 6, none⟩ = false) := fun w' hg => by
  have hg2 := grown_trn (World.grownBy_alloc w2 _ _) hg
  have hbk := hg2.block bb hbl2 far
  exact ⟨(World.cell?_of_block (a := ⟨bb, 6, none⟩) hbk).trans f6, (World.frozen?_of_block (a := ⟨bb, 6, none⟩) hbk).trans (HR2.out.soft 6)⟩
 clear RT R2
 obtain ⟨tv, HTV⟩ : ∃ v, Hid (v = (sl .trail).v) := ⟨_, rfl⟩
 obtain ⟨tn, HTN⟩ : ∃ v, Hid (v = (sl .trail).n) := ⟨_, rfl⟩
 rw [← HTV.out] at f6 HRT KP
 rw [← HTN.out] at hm1 hm2 HRT
 have tok : True := trivial
 go_wp2_with (have _t := tok; at_builtin; (refine wpList_append_lies _ rfl (.tmp 31) (.tmp 33) 71 rfl B 77 il _ 1 4 Try.underlying71 HI.out HZ.out HS.out HY.out rfl (by decide) tv tn _ rfl (HRT.out.alloc _) ⟨w2.heap.size, 0, none⟩ 1 1 [.int .i32 (l : Int)] rfl rfl (World.news_of_block (heap_new _ _)) (by simp [Value.oneCell']) (by decide) hm1 hm2 hm3 _ rfl ?_; intro g cap w5 hown hgrow hat5 hlt5; clear tok; have hc5 := (KP.out w5 hgrow).1; have hz5 := (KP.out w5 hgrow).2))
 go_wp2
 go_end0
 generalize hW6 : World.setCell w5 _ _ = w6
 have hg5 := grown_trn (World.grownBy_alloc w2 _ _) hgrow
 have R5 := HR2.out.grow .trail ⟨.slice (some ⟨g, 0, none⟩) (tn + 1) cap, tn + 1, (sl .trail).xs ++ [.int .i32 (l : Int)]⟩ (by rw [HT2.out, ← HTV.out]; exact hg5) hown (fun k hk => by
  rw [HT2.out, ← HTV.out]
  have e : g = k := by simpa [Value.ownBlock] using hk
  rcases hat5 with h | h
  ·exact .inl (by rw [h, e])
  ·simp at h; exact .inr (by omega))
 have R6 := R5.setB 6 (.slice (some ⟨g, 0, none⟩) (tn + 1) cap)
 rw [hW6] at R6
 have B5 : Below B w2 w5 := HR2.out.below .trail (by rw [HT2.out, ← HTV.out]; exact hg5)
 have B6 : Below B w5 w6 := R5.belowB (by rw [← hW6]; exact gset _ _ _ _)
 refine ⟨rfl, ⟨_, ?_, HLN.out (.slice (some ⟨g, 0, none⟩) (tn + 1) cap), fun s h1 h2 h3 => by rw [setS_other _ _ h3, HSL2.out, setS_other _ _ h2, HSL1.out, setS_other _ _ h1]⟩, B2.trans (B5.trans B6)⟩
 rw [HTN.out] at R6 ⊢
 have ef : fields (setS sl2 .trail ⟨.slice (some ⟨g, 0, none⟩) ((sl .trail).n + 1) cap, (sl .trail).n + 1, (sl .trail).xs ++ [.int .i32 (l : Int)]⟩) (st.hold l r) = (fields sl st).setIfInBounds 6 (.slice (some ⟨g, 0, none⟩) ((sl .trail).n + 1) cap) := by
  rw [HSL2.out, HSL1.out]; simp [fields, setS, St.hold]
 rw [ef]; exact R6
theorem hold_any (B : Nat) (w : World) (bb : Nat) (st : St) (X : Slot) (CV : Value) (l : Nat) (r : Int) (h : Bd B w bb st X CV) (hl : l < 2 * st.V) (ht : st.trail.length ≤ 67108864) :
  Calls Try.prog 39 #[.pointer (some ⟨bb, 0, none⟩), .int .i32 (l : Int), .int .i32 r] w fun e w' => e = .returned (.tuple #[]) ∧ Bd B w' bb (st.hold l r) X CV ∧ Below B w w' := by
 obtain ⟨sl, R0, L, hX, hCV⟩ := h
 refine (hold_open B w bb st sl l r R0 L hl ht).mono ?_
 rintro e w' ⟨h1, ⟨sl', h2, h3, h4⟩, h5⟩
 exact ⟨h1, ⟨sl', h2, h3, (h4 _ (by intro e; cases e) (by intro e; cases e) (by intro e; cases e)).trans hX, by rw [h4 .clauses (by intro e; cases e) (by intro e; cases e) (by intro e; cases e)]; exact hCV⟩, h5⟩
end Go.Proofs.Ytefjicdhccfieaa
