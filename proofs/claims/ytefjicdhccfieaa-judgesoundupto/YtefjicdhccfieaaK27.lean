import Derived.Test.YtefjicdhccfieaaK01
import Derived.Test.YtefjicdhccfieaaK26
set_option maxRecDepth 100000
set_option maxHeartbeats 16000000
namespace Go.Proofs.Ytefjicdhccfieaa
open Go.RowKit
theorem info_w0 : (Try.prog.info? 118).map (fun i => (i.zero, i.size, i.bytes)) = some (some (.agg #[.int .i32 0, .int .i32 0]), 2, 8) := by kernel_rfl
theorem info_w : ∃ i, Try.prog.info? 118 = some i ∧ i.zero = some (.agg #[.int .i32 0, .int .i32 0]) ∧ i.size = 2 ∧ i.bytes = 8 := by
 have h := info_w0
 cases hi : Try.prog.info? 118 with
 | none => rw [hi] at h; cases h
 | some i => rw [hi] at h; simp at h; exact ⟨i, rfl, h.1, h.2.1, h.2.2⟩
theorem fields_addW (sl : Site → Slot) (st : St) (t l : Nat) (e : Nat × Nat) (X : Slot) (n : Nat) (xs : List Value) : fields (setS (setS sl (.wl t l) X) (.row t) ⟨(sl (.row t)).v, n, xs⟩) (st.addW t l e) = fields sl st := by
 have hv : ∀ r, (setS (setS sl (.wl t l) X) (.row t) ⟨(sl (.row t)).v, n, xs⟩ (.row r)).v = (sl (.row r)).v := fun r => by
  by_cases h : r = t
  ·subst h; rw [setS_same]
  ·rw [setS_other _ _ (by intro e; injection e; omega), setS_other _ _ (by intro e; cases e)]
 unfold fields
 rw [hv, hv]
 simp [setS, St.addW]
theorem watch_any (B : Nat) (w : World) (bb : Nat) (st : St) (X : Slot) (CV : Value) (h : Bd B w bb st X CV) (i t : Nat) (c : BC) (hc : st.cls[i]? = some c) (ht : t < 2) (l0 l1 : Nat) (h0 : c.l[0]? = some l0) (h1 : c.l[1]? = some l1) (h0V : l0 < 2 * st.V) (h1V : l1 < 2 * st.V) (hne : l0 ≠ l1) (hi : st.cls.length ≤ 67108864) (hW0 : (st.W t l0).length ≤ 67108864) (hW1 : (st.W t l1).length ≤ 67108864) :
  Calls Try.prog 41 #[.pointer (some ⟨bb, 0, none⟩), .int .i32 (i : Int), .int .i64 (t : Int)] w fun e w' => e = .returned (.tuple #[]) ∧ Bd B w' bb (((st.tierAt i t).addW t l0 (i, l1)).addW t l1 (i, l0)) X CV ∧ Below B w w' := by
 obtain ⟨sl, R0, L, hX, hCV⟩ := h
 have hV := L.hV
 have hil : i < st.cls.length := (List.getElem?_eq_some_iff.1 hc).1
 obtain ⟨iw, hi', hz, hs, hby⟩ := info_w
 have HI := hidden hi'
 have HZ := hidden hz
 have HS := hidden hs
 have HY := hidden hby
 clear hi' hz hs hby
 obtain ⟨q0, q1, q2, q3⟩ := L.cls i c hc
 obtain ⟨cb, ccap, hcv, hcB, _, _, hccell, hcfz⟩ := R0.form .clauses (by rw [L.clsN]; omega)
 have ct : w.cell? ⟨cb, i * 4 + 2, none⟩ = some (.int .i64 (c.tier : Int)) := by
  rw [hccell (i * 4 + 2) (by rw [L.clsN]; simp [Site.sz]; omega), Nat.mul_comm]; exact q2
 have zt := hcfz (i * 4 + 2)
 obtain ⟨cn, HCNn⟩ : ∃ n, Hid (n = st.cls.length) := ⟨_, rfl⟩
 have f0 : w.cell? ⟨bb, 0, none⟩ = some (.slice (some ⟨cb, 0, none⟩) cn ccap) := by
  rw [R0.field 0, HCNn.out, ← L.clsN, ← hcv]; rfl
 have hiI : (i : Int) < (cn : Int) := by have := HCNn.out; omega
 have R1 := R0.setR .clauses hcv (4 * i + 2) (.int .i64 (t : Int))
 have B1 : Below B w (w.setCell ⟨cb, 4 * i + 2, none⟩ (.int .i64 (t : Int))) := setTo (Below.refl _ _) hcB R0.size
 have L1 := L.tierAt i t
 obtain ⟨sl1, HSL1⟩ : ∃ s, Hid (s = setS sl .clauses ⟨(sl .clauses).v, (sl .clauses).n, (sl .clauses).xs.set (4 * i + 2) (.int .i64 (t : Int))⟩) := ⟨_, rfl⟩
 rw [← HSL1.out] at R1 L1
 have ef1 : fields sl st = fields sl1 (st.tierAt i t) := by rw [HSL1.out]; simp [fields, setS, St.tierAt]
 rw [ef1] at R1
 have hX1 : sl1 (.lits (st.tierAt i t).cls.length) = X := by rw [HSL1.out, ← hX]; simp [setS, St.tierAt]
 have hCV1 : (sl1 .clauses).v = CV := by rw [HSL1.out, setS_same]; exact hCV
 rw [Nat.mul_comm 4 i] at R1 B1
 have HR1 := hidden R1
 have HL1 := hidden L1
 have HB1 := hidden B1
 clear R1 L1 B1 ef1
 go_enter Try.func41, Try.ntmps41
 go_upto_region 1 with fail
 generalize hW1 : World.setCell w _ _ = w1
 rw [hW1] at HR1 HB1
 clear hW1 f0 ct zt q0 q1 q2 q3 hcv hccell hcfz R0 L
 obtain ⟨st1, HST1⟩ : ∃ s, Hid (s = st.tierAt i t) := ⟨_, rfl⟩
 rw [← HST1.out] at HR1 HL1 hX1
 have HC1 : Hid (∃ c1, st1.cls[i]? = some c1 ∧ c1.l = c.l) := by
  rw [HST1.out]
  exact ⟨{ c with tier := t }, by simp [St.tierAt, hc], rfl⟩
 have HV1 : Hid (st1.V = st.V) := by rw [HST1.out]; rfl
 have HW1 : Hid (st1.W = st.W) := by rw [HST1.out]; rfl
 have HN1 : Hid (st1.cls.length = st.cls.length) := by show _ = _; rw [HST1.out]; simp [St.tierAt]
 obtain ⟨c1, hc1, hcl1⟩ := HC1.out
 have R1 := HR1.out
 have L1 := HL1.out
 obtain ⟨q0, -, -, -⟩ := L1.cls i c1 hc1
 obtain ⟨p1, p2⟩ := L1.lits i c1 hc1
 rw [hcl1] at p1 p2
 have hl2 : 1 < c.l.length := (List.getElem?_eq_some_iff.1 h1).1
 obtain ⟨cb2, ccap2, hcv, _, _, _, hccell, _⟩ := R1.form .clauses (by rw [L1.clsN, HN1.out]; omega)
 obtain ⟨lb, lcap, hlv, _, hlb, _, hlcell, _⟩ := R1.form (.lits i) (by rw [p1]; omega)
 obtain ⟨r1, r2⟩ := L1.row t ht
 obtain ⟨rb, rcap, hrv, hrB, hrb, _, hrcell, hrfz⟩ := R1.form (.row t) (by rw [r1, HV1.out]; omega)
 obtain ⟨N, HN⟩ : ∃ N, Hid (N = 2 * st.V) := ⟨_, rfl⟩
 obtain ⟨ln, HLN⟩ : ∃ n, Hid (n = c.l.length) := ⟨_, rfl⟩
 have f0 : w1.cell? ⟨bb, 0, none⟩ = some (.slice (some ⟨cb2, 0, none⟩) cn ccap2) := by
  rw [R1.field 0, HCNn.out, ← HN1.out, ← L1.clsN, ← hcv]; rfl
 have fl : w1.cell? ⟨cb2, i * 4, none⟩ = some (.slice (some ⟨lb, 0, none⟩) ln lcap) := by
  rw [hccell (i * 4) (by rw [L1.clsN, HN1.out]; simp [Site.sz]; omega), Nat.mul_comm, q0, hlv, p1, HLN.out]
 have fr : w1.cell? ⟨bb, 1 + t, none⟩ = some (.slice (some ⟨rb, 0, none⟩) N rcap) := by
  rw [R1.field, HN.out, ← HV1.out, ← r1, ← hrv]
  rcases (show t = 0 ∨ t = 1 by omega) with rfl | rfl <;> rfl
 have g0 : w1.cell? ⟨lb, 0, none⟩ = some (.int .i32 (l0 : Int)) := by
  rw [hlcell 0 (by rw [p1]; simp [Site.sz]; omega), p2]; exact litV_get _ _ _ h0
 have g1 : w1.cell? ⟨lb, 1, none⟩ = some (.int .i32 (l1 : Int)) := by
  rw [hlcell 1 (by rw [p1]; simp [Site.sz]; omega), p2]; exact litV_get _ _ _ h1
 have hr0 : w1.cell? ⟨rb, l0, none⟩ = some (sl1 (.wl t l0)).v := by
  rw [hrcell l0 (by rw [r1, HV1.out]; simp [Site.sz]; omega)]; exact r2 l0 (by rw [HV1.out]; exact h0V)
 have HLV := hidden hlv
 have HRV := hidden hrv
 have hlr : lb ≠ rb := fun e => by
  have := R1.sep (.lits i) (.row t) lb (by rw [hlv]; rfl) (by rw [hrv, ← e]; rfl)
  cases this
 have htI : (t : Int) < 2 := by omega
 have hlnI : (1 : Int) < (ln : Int) := by have := HLN.out; omega
 have hlnN : 0 < ln := by omega
 have h0I : (l0 : Int) < (N : Int) := by have := HN.out; omega
 have h1I : (l1 : Int) < (N : Int) := by have := HN.out; omega
 have KB : Hid ((fun w' => w'.cell? ⟨bb, 0, none⟩ = some (.slice (some ⟨cb2, 0, none⟩) cn ccap2) ∧ w'.cell? ⟨cb2, i * 4, none⟩ = some (.slice (some ⟨lb, 0, none⟩) ln lcap) ∧ w'.cell? ⟨bb, 1 + t, none⟩ = some (.slice (some ⟨rb, 0, none⟩) N rcap)) w1) := ⟨f0, fl, fr⟩
 clear q0 p1 p2 hcv hccell hlcell hrcell hlv hrv R1 L1 r1 r2
 refine wp_region_noPanic ?_
 refine wp_region_held_drew (S := (fun w' => w'.cell? ⟨bb, 0, none⟩ = some (.slice (some ⟨cb2, 0, none⟩) cn ccap2) ∧ w'.cell? ⟨cb2, i * 4, none⟩ = some (.slice (some ⟨lb, 0, none⟩) ln lcap) ∧ w'.cell? ⟨bb, 1 + t, none⟩ = some (.slice (some ⟨rb, 0, none⟩) N rcap))) (by kernel_rfl) (by first | assumption | exact KB.out) (fun hHeld => ?_)
 refine tk 0 ?_
 refine tk 1 ?_
 refine tk 2 ?_
 refine tk 3 ?_
 refine tk 4 ?_
 refine tk 5 ?_
 refine tk 6 ?_
 refine tk 7 ?_
 refine tk 8 ?_
 refine tk 9 ?_
 refine tk 10 ?_
 refine tk 11 ?_
 refine tk 12 ?_
 refine tk 13 ?_
 refine tk 14 ?_
 refine tk 15 ?_
 refine wpAnyH_done (by kernel_rfl) ?_ _
 refine NoPanic.normal ?_
 clear KB f0 fl fr
 go_upto_region 2 with fail
 have HR1' := HR1.out.rest (Below.drew (Below.refl _ _))
 have HB1' := Below.drew HB1.out
 replace g0 : w1.drew.cell? ⟨lb, 0, none⟩ = _ := g0
 replace g1 : w1.drew.cell? ⟨lb, 1, none⟩ = _ := g1
 generalize w1.drew = W at HR1' HB1' g0 g1 ⊢
 have HRa := hidden HR1'
 have HBa := hidden HB1'
 clear hr0 HR1 HB1 HR1' HB1' hrfz hrb hlb
 have h0V1 : l0 < 2 * st1.V := by rw [HV1.out]; exact h0V
 have hWa1 : (st1.W t l0).length ≤ 67108864 := by rw [HW1.out]; exact hW0
 obtain ⟨v, HVV⟩ : ∃ v, Hid (v = (sl1 (.wl t l0)).v) := ⟨_, rfl⟩
 obtain ⟨nn, HNN⟩ : ∃ n, Hid (n = (sl1 (.wl t l0)).n) := ⟨_, rfl⟩
 have HOW : Hid (W.ownsRow B 118 2 v nn (sl1 (.wl t l0)).xs) := by rw [HVV.out, HNN.out]; exact HRa.out.rows (.wl t l0)
 have hnn : nn ≤ 67108864 := by rw [HNN.out, (HL1.out.wl t l0 ht h0V1).1]; exact hWa1
 have hrowl := HL1.out.row t ht
 obtain ⟨rb', rcap', hrv', _, hrbl, _, hrcell, hrfz'⟩ := HRa.out.form (.row t) (by rw [hrowl.1]; have := h0V1; omega)
 rw [HRV.out] at hrv'
 simp only [Value.slice.injEq, Option.some.injEq, Addr.mk.injEq, and_true, true_and] at hrv'
 obtain ⟨rfl, rfl⟩ := hrv'
 have hra : W.cell? ⟨rb, l0, none⟩ = some v := by
  rw [hrcell l0 (by rw [hrowl.1]; simp [Site.sz]; have := h0V1; omega), HVV.out]; exact hrowl.2 l0 h0V1
 have hzr := hrfz' l0
 have farR : some rb ≠ v.ownBlock := fun e => by
  have := HRa.out.sep (.row t) (.wl t l0) rb (by rw [HRV.out]; rfl) (by rw [← HVV.out]; exact e.symm)
  cases this
 have farL : some lb ≠ v.ownBlock := fun e => by
  have := HRa.out.sep (.lits i) (.wl t l0) lb (by rw [HLV.out]; rfl) (by rw [← HVV.out]; exact e.symm)
  cases this
 have KL : Hid ((fun w' => w'.cell? ⟨lb, 0, none⟩ = some (.int .i32 (l0 : Int)) ∧ w'.cell? ⟨lb, 1, none⟩ = some (.int .i32 (l1 : Int))) W.drew) := ⟨g0, g1⟩
 have KT : Hid (∀ w', W.grownBy w' v.ownBlock → (fun w' => w'.cell? ⟨lb, 0, none⟩ = some (.int .i32 (l0 : Int)) ∧ w'.cell? ⟨lb, 1, none⟩ = some (.int .i32 (l1 : Int))) w') := fun w' hg => ⟨hg.cell g0 farL, hg.cell g1 farL⟩
 have KSS : Hid (∀ (w' : World) (xv : Value), (fun w' => w'.cell? ⟨lb, 0, none⟩ = some (.int .i32 (l0 : Int)) ∧ w'.cell? ⟨lb, 1, none⟩ = some (.int .i32 (l1 : Int))) w' → (fun w' => w'.cell? ⟨lb, 0, none⟩ = some (.int .i32 (l0 : Int)) ∧ w'.cell? ⟨lb, 1, none⟩ = some (.int .i32 (l1 : Int))) (w'.setCell ⟨rb, l0, none⟩ xv)) := fun w' xv hh => ⟨(World.cell?_setCell_other (h := fun e => hlr (by cases e; rfl)) ..).trans hh.1, (World.cell?_setCell_other (h := fun e => hlr (by cases e; rfl)) ..).trans hh.2⟩
 have KP : Hid (∀ w', W.grownBy w' v.ownBlock → w'.cell? ⟨rb, l0, none⟩ = some v ∧ w'.frozen? ⟨rb, l0, none⟩ = false) := fun w' hg => ⟨hg.cell hra farR, (World.frozen?_of_block (a := ⟨rb, l0, none⟩) (hg.block rb hrbl farR)).trans hzr⟩
 have huA := (KP.out _ (World.grownBy_alloc W (.cells #[.int .i32 (i : Int), .int .i32 (l1 : Int)] 118) _)).1
 have hm1 : nn + 1 ≤ maxLen := by simp only [maxLen]; omega
 have hm2 : (nn + 1) * 8 ≤ 140737488355328 := by omega
 have hm3 : B ≤ ((W.alloc (.cells #[.int .i32 (i : Int), .int .i32 (l1 : Int)] 118)).drew).heap.size := by have := HRa.out.size; simp; omega
 clear hrcell hrfz' hrowl hnn
 refine wp_region_noPanic ?_
 refine wp_region_held_drew (S := (fun w' => w'.cell? ⟨lb, 0, none⟩ = some (.int .i32 (l0 : Int)) ∧ w'.cell? ⟨lb, 1, none⟩ = some (.int .i32 (l1 : Int)))) (by kernel_rfl) (by (first | assumption | exact KL.out | exact KT.out _ (grown_refl' _ _) | exact KT.out _ (grown_ad _ _ _) | exact KT.out _ (by assumption) | exact KSS.out _ _ (by assumption))) (fun hHeld => ?_)
 refine tk 0 ?_
 refine tk 1 ?_
 refine tk 2 ?_
 refine tk 3 ?_
 refine tk 4 ?_
 refine tk 5 ?_
 refine tk 6 ?_
 refine tk 7 ?_
 refine tk 8 ?_
 refine tk 10 ?_
 refine tk 11 ?_
 refine tk 12 ?_
 refine tk 13 ?_
 refine tk 14 ?_
 refine wpAnyH_ready (rs := [9, 15]) (by kernel_rfl) (by simp) ?_
 refine AllReadyH.cons (o := _) rfl (fun K hK => ?_) ?_
 ·(try simp only [gA, gB, gC])
  go_simp
  refine hK.out _ _ (by (first | assumption | exact KL.out | exact KT.out _ (grown_refl' _ _) | exact KT.out _ (grown_ad _ _ _) | exact KT.out _ (by assumption) | exact KSS.out _ _ (by assumption))) (fun hHeld9 => ?_)
  clear hK K
  (try simp only [Act.put]); (try simp only [sA]); (try simp only [sB, sC])
  refine wpAnyH_ready (rs := [15]) (by kernel_rfl) (by simp) ?_
  refine AllReadyH.cons (o := _) rfl (fun K hK => ?_) AllReadyH.nil
  (try simp only [gA, gB, gC])
  go_simp
  refine hK.out _ _ (by (first | assumption | exact KL.out | exact KT.out _ (grown_refl' _ _) | exact KT.out _ (grown_ad _ _ _) | exact KT.out _ (by assumption) | exact KSS.out _ _ (by assumption))) (fun hHeld15 => ?_)
  clear hK K
  (try simp only [Act.put]); (try simp only [sA]); (try simp only [sB, sC])
  refine wpAnyH_ready (rs := [16]) (by kernel_rfl) (by simp) ?_
  refine AllReadyH.cons (o := _) rfl (fun K hK => ?_) AllReadyH.nil
  refine step_append_lies _ rfl (.tmp 39) (.tmp 45) 86 rfl B 118 iw _ 2 8 Try.underlying86 HI.out HZ.out HS.out HY.out rfl (by decide) v nn _ rfl (HOW.out.alloc _).drew ⟨W.heap.size, 0, none⟩ 1 1 [.int .i32 (i : Int), .int .i32 (l1 : Int)] rfl rfl (World.news_of_block (heap_new _ _)) (by simp [Value.oneCell']) (by decide) hm1 hm2 hm3 _ rfl ?_
  intro g cap w5 hown hgrow hat hlt5
  have HG5 := grown_trn (grown_ad _ _ _) hgrow
  have hc5 := (KP.out w5 HG5).1
  have hf5 := (KP.out w5 HG5).2
  refine hK.out _ _ (by (first | assumption | exact KL.out | exact KT.out _ (grown_refl' _ _) | exact KT.out _ (grown_ad _ _ _) | exact KT.out _ (by assumption) | exact KSS.out _ _ (by assumption))) (fun hHeldp => ?_)
  clear hK K
  (try simp only [Act.put]); (try simp only [sA]); (try simp only [sB, sC])
  refine tk 17 ?_
  refine wpAnyH_ready (rs := [18]) (by kernel_rfl) (by simp) ?_
  refine AllReadyH.cons (o := _) rfl (fun K hK => ?_) AllReadyH.nil
  (try simp only [gA, gB, gC])
  go_simp
  refine hK.out _ _ (by (first | assumption | exact KL.out | exact KT.out _ (grown_refl' _ _) | exact KT.out _ (grown_ad _ _ _) | exact KT.out _ (by assumption) | exact KSS.out _ _ (by assumption))) (fun hHeld18 => ?_)
  clear hK K
  (try simp only [Act.put]); (try simp only [sA]); (try simp only [sB, sC])
  refine wpAnyH_done (by kernel_rfl) ?_ _
  refine NoPanic.normal ?_
  generalize hW6 : World.setCell w5 _ _ = w6
  have R5 := HRa.out.grow (.wl t l0) ⟨.slice (some ⟨g, 0, none⟩) (nn + 1) cap, (sl1 (.wl t l0)).n + 1, (sl1 (.wl t l0)).xs ++ [.int .i32 (i : Int), .int .i32 (l1 : Int)]⟩ (by rw [← HVV.out]; exact HG5) (by rw [← HNN.out]; exact hown) (fun k hk => by
   have e : g = k := by simpa [Value.ownBlock] using hk
   rcases hat with h | h
   ·exact .inl (by rw [← HVV.out, h, e])
   ·simp at h; exact .inr (by omega))
  have e0 : setS sl1 (.wl t l0) ⟨.slice (some ⟨g, 0, none⟩) (nn + 1) cap, (sl1 (.wl t l0)).n + 1, (sl1 (.wl t l0)).xs ++ [.int .i32 (i : Int), .int .i32 (l1 : Int)]⟩ (.row t) = sl1 (.row t) := setS_other _ _ (by intro e; cases e)
  have R6 := R5.setR (.row t) (g := rb) (cap := rcap) (by rw [e0]; exact HRV.out) l0 (.slice (some ⟨g, 0, none⟩) (nn + 1) cap)
  rw [e0, hW6, ← fields_addW sl1 st1 t l0 (i, l1) ⟨.slice (some ⟨g, 0, none⟩) (nn + 1) cap, (sl1 (.wl t l0)).n + 1, (sl1 (.wl t l0)).xs ++ [.int .i32 (i : Int), .int .i32 (l1 : Int)]⟩ (sl1 (.row t)).n ((sl1 (.row t)).xs.set l0 (.slice (some ⟨g, 0, none⟩) (nn + 1) cap))] at R6
  have L6 := HL1.out.addW t l0 ht h0V1 (i, l1) (.slice (some ⟨g, 0, none⟩) (nn + 1) cap)
  have B6 : Below B w w6 := by
   rw [← hW6]
   exact setTo (HBa.out.trans (HRa.out.below (.wl t l0) (by rw [← HVV.out]; exact HG5))) hrB R5.size
  obtain ⟨sl2, HSL2⟩ : ∃ s : Site → Slot, Hid (s = setS (setS sl1 (.wl t l0) ⟨.slice (some ⟨g, 0, none⟩) (nn + 1) cap, (sl1 (.wl t l0)).n + 1, (sl1 (.wl t l0)).xs ++ [Value.int .i32 (i : Int), Value.int .i32 (l1 : Int)]⟩) (.row t) ⟨(sl1 (.row t)).v, (sl1 (.row t)).n, (sl1 (.row t)).xs.set l0 (.slice (some ⟨g, 0, none⟩) (nn + 1) cap)⟩) := ⟨_, rfl⟩
  have L6' : Link sl2 (st1.addW t l0 (i, l1)) := by rw [HSL2.out]; exact L6
  rw [← HSL2.out] at R6
  obtain ⟨st2, HST2⟩ : ∃ s, Hid (s = st1.addW t l0 (i, l1)) := ⟨_, rfl⟩
  rw [← HST2.out] at R6 L6'
  have HRb := hidden R6
  have HLb := hidden L6'
  have HBb := hidden B6
  have h1V2 : l1 < 2 * st2.V := by rw [HST2.out]; show l1 < 2 * st1.V; rw [HV1.out]; exact h1V
  have hWa2 : (st2.W t l1).length ≤ 67108864 := by
   rw [HST2.out]
   simp only [St.addW, addW]
   rw [if_neg (fun e => hne e.2.symm), HW1.out]; exact hW1
  have HRV2 : Hid ((sl2 (.row t)).v = .slice (some ⟨rb, 0, none⟩) (sl2 (.row t)).n rcap) := by rw [HSL2.out, setS_same]; exact HRV.out
  have HLV2 : Hid ((sl2 (.lits i)).v = .slice (some ⟨lb, 0, none⟩) (sl2 (.lits i)).n lcap) := by rw [HSL2.out, setS_other _ _ (by intro e; cases e), setS_other _ _ (by intro e; cases e)]; exact HLV.out
  have hX2 : sl2 (.lits st2.cls.length) = X := by
   rw [HSL2.out, HST2.out, setS_other _ _ (by intro e; cases e), setS_other _ _ (by intro e; cases e)]; exact hX1
  have hCV2 : (sl2 .clauses).v = CV := by
   rw [HSL2.out, setS_other _ _ (by intro e; cases e), setS_other _ _ (by intro e; cases e)]; exact hCV1
  have gb0 : w6.cell? ⟨lb, 0, none⟩ = some (.int .i32 (l0 : Int)) := by rw [← hW6]; exact (KSS.out _ _ (KT.out w5 HG5)).1
  have gb1 : w6.cell? ⟨lb, 1, none⟩ = some (.int .i32 (l1 : Int)) := by rw [← hW6]; exact (KSS.out _ _ (KT.out w5 HG5)).2
  clear hW6 R5 e0 R6 L6 L6' B6 KL KT KSS KP huA hm1 hm2 hm3 HOW hra hzr farR farL hown hgrow hat hlt5 hc5 hf5 HG5 HVV HNN g0 g1 hrbl
  have g0 := gb0
  have g1 := gb1
  clear gb0 gb1
  go_upto_region 3 with fail
  obtain ⟨v, HVV⟩ : ∃ v, Hid (v = (sl2 (.wl t l1)).v) := ⟨_, rfl⟩
  obtain ⟨nn, HNN⟩ : ∃ n, Hid (n = (sl2 (.wl t l1)).n) := ⟨_, rfl⟩
  have HOW : Hid (w6.ownsRow B 118 2 v nn (sl2 (.wl t l1)).xs) := by rw [HVV.out, HNN.out]; exact HRb.out.rows (.wl t l1)
  have hnn : nn ≤ 67108864 := by rw [HNN.out, (HLb.out.wl t l1 ht h1V2).1]; exact hWa2
  have hrowl := HLb.out.row t ht
  obtain ⟨rb', rcap', hrv', _, hrbl, _, hrcell, hrfz'⟩ := HRb.out.form (.row t) (by rw [hrowl.1]; have := h1V2; omega)
  rw [HRV2.out] at hrv'
  simp only [Value.slice.injEq, Option.some.injEq, Addr.mk.injEq, and_true, true_and] at hrv'
  obtain ⟨rfl, rfl⟩ := hrv'
  have hra : w6.cell? ⟨rb, l1, none⟩ = some v := by
   rw [hrcell l1 (by rw [hrowl.1]; simp [Site.sz]; have := h1V2; omega), HVV.out]; exact hrowl.2 l1 h1V2
  have hzr := hrfz' l1
  have farR : some rb ≠ v.ownBlock := fun e => by
   have := HRb.out.sep (.row t) (.wl t l1) rb (by rw [HRV2.out]; rfl) (by rw [← HVV.out]; exact e.symm)
   cases this
  have farL : some lb ≠ v.ownBlock := fun e => by
   have := HRb.out.sep (.lits i) (.wl t l1) lb (by rw [HLV2.out]; rfl) (by rw [← HVV.out]; exact e.symm)
   cases this
  have KL : Hid ((fun w' => w'.cell? ⟨lb, 0, none⟩ = some (.int .i32 (l0 : Int)) ∧ w'.cell? ⟨lb, 1, none⟩ = some (.int .i32 (l1 : Int))) w6.drew) := ⟨g0, g1⟩
  have KT : Hid (∀ w', w6.grownBy w' v.ownBlock → (fun w' => w'.cell? ⟨lb, 0, none⟩ = some (.int .i32 (l0 : Int)) ∧ w'.cell? ⟨lb, 1, none⟩ = some (.int .i32 (l1 : Int))) w') := fun w' hg => ⟨hg.cell g0 farL, hg.cell g1 farL⟩
  have KSS : Hid (∀ (w' : World) (xv : Value), (fun w' => w'.cell? ⟨lb, 0, none⟩ = some (.int .i32 (l0 : Int)) ∧ w'.cell? ⟨lb, 1, none⟩ = some (.int .i32 (l1 : Int))) w' → (fun w' => w'.cell? ⟨lb, 0, none⟩ = some (.int .i32 (l0 : Int)) ∧ w'.cell? ⟨lb, 1, none⟩ = some (.int .i32 (l1 : Int))) (w'.setCell ⟨rb, l1, none⟩ xv)) := fun w' xv hh => ⟨(World.cell?_setCell_other (h := fun e => hlr (by cases e; rfl)) ..).trans hh.1, (World.cell?_setCell_other (h := fun e => hlr (by cases e; rfl)) ..).trans hh.2⟩
  have KP : Hid (∀ w', w6.grownBy w' v.ownBlock → w'.cell? ⟨rb, l1, none⟩ = some v ∧ w'.frozen? ⟨rb, l1, none⟩ = false) := fun w' hg => ⟨hg.cell hra farR, (World.frozen?_of_block (a := ⟨rb, l1, none⟩) (hg.block rb hrbl farR)).trans hzr⟩
  have huA := (KP.out _ (World.grownBy_alloc w6 (.cells #[.int .i32 (i : Int), .int .i32 (l0 : Int)] 118) _)).1
  have hm1 : nn + 1 ≤ maxLen := by simp only [maxLen]; omega
  have hm2 : (nn + 1) * 8 ≤ 140737488355328 := by omega
  have hm3 : B ≤ ((w6.alloc (.cells #[.int .i32 (i : Int), .int .i32 (l0 : Int)] 118)).drew).heap.size := by have := HRb.out.size; simp; omega
  clear hrcell hrfz' hrowl hnn
  refine wp_region_noPanic ?_
  refine wp_region_held_drew (S := (fun w' => w'.cell? ⟨lb, 0, none⟩ = some (.int .i32 (l0 : Int)) ∧ w'.cell? ⟨lb, 1, none⟩ = some (.int .i32 (l1 : Int)))) (by kernel_rfl) (by (first | assumption | exact KL.out | exact KT.out _ (grown_refl' _ _) | exact KT.out _ (grown_ad _ _ _) | exact KT.out _ (by assumption) | exact KSS.out _ _ (by assumption))) (fun hHeld => ?_)
  refine tk 0 ?_
  refine tk 1 ?_
  refine tk 2 ?_
  refine tk 3 ?_
  refine tk 4 ?_
  refine tk 5 ?_
  refine tk 6 ?_
  refine tk 7 ?_
  refine tk 8 ?_
  refine tk 10 ?_
  refine tk 11 ?_
  refine tk 12 ?_
  refine tk 13 ?_
  refine tk 14 ?_
  refine wpAnyH_ready (rs := [9, 15]) (by kernel_rfl) (by simp) ?_
  refine AllReadyH.cons (o := _) rfl (fun K hK => ?_) ?_
  ·(try simp only [gA, gB, gC])
   go_simp
   refine hK.out _ _ (by (first | assumption | exact KL.out | exact KT.out _ (grown_refl' _ _) | exact KT.out _ (grown_ad _ _ _) | exact KT.out _ (by assumption) | exact KSS.out _ _ (by assumption))) (fun hHeld9 => ?_)
   clear hK K
   (try simp only [Act.put]); (try simp only [sA]); (try simp only [sB, sC])
   refine wpAnyH_ready (rs := [15]) (by kernel_rfl) (by simp) ?_
   refine AllReadyH.cons (o := _) rfl (fun K hK => ?_) AllReadyH.nil
   (try simp only [gA, gB, gC])
   go_simp
   refine hK.out _ _ (by (first | assumption | exact KL.out | exact KT.out _ (grown_refl' _ _) | exact KT.out _ (grown_ad _ _ _) | exact KT.out _ (by assumption) | exact KSS.out _ _ (by assumption))) (fun hHeld15 => ?_)
   clear hK K
   (try simp only [Act.put]); (try simp only [sA]); (try simp only [sB, sC])
   refine wpAnyH_ready (rs := [16]) (by kernel_rfl) (by simp) ?_
   refine AllReadyH.cons (o := _) rfl (fun K hK => ?_) AllReadyH.nil
   refine step_append_lies _ rfl (.tmp 57) (.tmp 63) 86 rfl B 118 iw _ 2 8 Try.underlying86 HI.out HZ.out HS.out HY.out rfl (by decide) v nn _ rfl (HOW.out.alloc _).drew ⟨w6.heap.size, 0, none⟩ 1 1 [.int .i32 (i : Int), .int .i32 (l0 : Int)] rfl rfl (World.news_of_block (heap_new _ _)) (by simp [Value.oneCell']) (by decide) hm1 hm2 hm3 _ rfl ?_
   intro g cap w5 hown hgrow hat hlt5
   have HG5 := grown_trn (grown_ad _ _ _) hgrow
   have hc5 := (KP.out w5 HG5).1
   have hf5 := (KP.out w5 HG5).2
   refine hK.out _ _ (by (first | assumption | exact KL.out | exact KT.out _ (grown_refl' _ _) | exact KT.out _ (grown_ad _ _ _) | exact KT.out _ (by assumption) | exact KSS.out _ _ (by assumption))) (fun hHeldp => ?_)
   clear hK K
   (try simp only [Act.put]); (try simp only [sA]); (try simp only [sB, sC])
   refine tk 17 ?_
   refine wpAnyH_ready (rs := [18]) (by kernel_rfl) (by simp) ?_
   refine AllReadyH.cons (o := _) rfl (fun K hK => ?_) AllReadyH.nil
   (try simp only [gA, gB, gC])
   go_simp
   refine hK.out _ _ (by (first | assumption | exact KL.out | exact KT.out _ (grown_refl' _ _) | exact KT.out _ (grown_ad _ _ _) | exact KT.out _ (by assumption) | exact KSS.out _ _ (by assumption))) (fun hHeld18 => ?_)
   clear hK K
   (try simp only [Act.put]); (try simp only [sA]); (try simp only [sB, sC])
   refine wpAnyH_done (by kernel_rfl) ?_ _
   refine NoPanic.normal ?_
   generalize hW6 : World.setCell w5 _ _ = w6
   have R5 := HRb.out.grow (.wl t l1) ⟨.slice (some ⟨g, 0, none⟩) (nn + 1) cap, (sl2 (.wl t l1)).n + 1, (sl2 (.wl t l1)).xs ++ [.int .i32 (i : Int), .int .i32 (l0 : Int)]⟩ (by rw [← HVV.out]; exact HG5) (by rw [← HNN.out]; exact hown) (fun k hk => by
    have e : g = k := by simpa [Value.ownBlock] using hk
    rcases hat with h | h
    ·exact .inl (by rw [← HVV.out, h, e])
    ·simp at h; exact .inr (by omega))
   have e0 : setS sl2 (.wl t l1) ⟨.slice (some ⟨g, 0, none⟩) (nn + 1) cap, (sl2 (.wl t l1)).n + 1, (sl2 (.wl t l1)).xs ++ [.int .i32 (i : Int), .int .i32 (l0 : Int)]⟩ (.row t) = sl2 (.row t) := setS_other _ _ (by intro e; cases e)
   have R6 := R5.setR (.row t) (g := rb) (cap := rcap) (by rw [e0]; exact HRV2.out) l1 (.slice (some ⟨g, 0, none⟩) (nn + 1) cap)
   rw [e0, hW6, ← fields_addW sl2 st2 t l1 (i, l0) ⟨.slice (some ⟨g, 0, none⟩) (nn + 1) cap, (sl2 (.wl t l1)).n + 1, (sl2 (.wl t l1)).xs ++ [.int .i32 (i : Int), .int .i32 (l0 : Int)]⟩ (sl2 (.row t)).n ((sl2 (.row t)).xs.set l1 (.slice (some ⟨g, 0, none⟩) (nn + 1) cap))] at R6
   have L6 := HLb.out.addW t l1 ht h1V2 (i, l0) (.slice (some ⟨g, 0, none⟩) (nn + 1) cap)
   have B6 : Below B w w6 := by
    rw [← hW6]
    exact setTo (HBb.out.trans (HRb.out.below (.wl t l1) (by rw [← HVV.out]; exact HG5))) hrB R5.size
   rw [HST2.out, HST1.out] at R6 L6
   clear KL KT KSS KP huA HOW hra hzr farR farL hown hgrow hat hlt5 hc5 hf5
   go_wp2
   go_end0
   refine ⟨rfl, ⟨_, R6, L6, ?_, ?_⟩, B6⟩
   rotate_left
   ·rw [setS_other _ _ (by intro e; cases e), setS_other _ _ (by intro e; cases e)]; exact hCV2
   rw [setS_other _ _ (by intro e; cases e), setS_other _ _ (by intro e; cases e)]
   rw [HST2.out, HST1.out] at hX2
   exact hX2
  refine AllReadyH.cons (o := _) rfl (fun K hK => ?_) AllReadyH.nil
  (try simp only [gA, gB, gC])
  go_simp
  refine hK.out _ _ (by (first | assumption | exact KL.out | exact KT.out _ (grown_refl' _ _) | exact KT.out _ (grown_ad _ _ _) | exact KT.out _ (by assumption) | exact KSS.out _ _ (by assumption))) (fun hHeld15 => ?_)
  clear hK K
  (try simp only [Act.put]); (try simp only [sA]); (try simp only [sB, sC])
  refine wpAnyH_ready (rs := [9]) (by kernel_rfl) (by simp) ?_
  refine AllReadyH.cons (o := _) rfl (fun K hK => ?_) AllReadyH.nil
  (try simp only [gA, gB, gC])
  go_simp
  refine hK.out _ _ (by (first | assumption | exact KL.out | exact KT.out _ (grown_refl' _ _) | exact KT.out _ (grown_ad _ _ _) | exact KT.out _ (by assumption) | exact KSS.out _ _ (by assumption))) (fun hHeld9 => ?_)
  clear hK K
  (try simp only [Act.put]); (try simp only [sA]); (try simp only [sB, sC])
  refine wpAnyH_ready (rs := [16]) (by kernel_rfl) (by simp) ?_
  refine AllReadyH.cons (o := _) rfl (fun K hK => ?_) AllReadyH.nil
  refine step_append_lies _ rfl (.tmp 57) (.tmp 63) 86 rfl B 118 iw _ 2 8 Try.underlying86 HI.out HZ.out HS.out HY.out rfl (by decide) v nn _ rfl (HOW.out.alloc _).drew ⟨w6.heap.size, 0, none⟩ 1 1 [.int .i32 (i : Int), .int .i32 (l0 : Int)] rfl rfl (World.news_of_block (heap_new _ _)) (by simp [Value.oneCell']) (by decide) hm1 hm2 hm3 _ rfl ?_
  intro g cap w5 hown hgrow hat hlt5
  have HG5 := grown_trn (grown_ad _ _ _) hgrow
  have hc5 := (KP.out w5 HG5).1
  have hf5 := (KP.out w5 HG5).2
  refine hK.out _ _ (by (first | assumption | exact KL.out | exact KT.out _ (grown_refl' _ _) | exact KT.out _ (grown_ad _ _ _) | exact KT.out _ (by assumption) | exact KSS.out _ _ (by assumption))) (fun hHeldp => ?_)
  clear hK K
  (try simp only [Act.put]); (try simp only [sA]); (try simp only [sB, sC])
  refine tk 17 ?_
  refine wpAnyH_ready (rs := [18]) (by kernel_rfl) (by simp) ?_
  refine AllReadyH.cons (o := _) rfl (fun K hK => ?_) AllReadyH.nil
  (try simp only [gA, gB, gC])
  go_simp
  refine hK.out _ _ (by (first | assumption | exact KL.out | exact KT.out _ (grown_refl' _ _) | exact KT.out _ (grown_ad _ _ _) | exact KT.out _ (by assumption) | exact KSS.out _ _ (by assumption))) (fun hHeld18 => ?_)
  clear hK K
  (try simp only [Act.put]); (try simp only [sA]); (try simp only [sB, sC])
  refine wpAnyH_done (by kernel_rfl) ?_ _
  refine NoPanic.normal ?_
  generalize hW6 : World.setCell w5 _ _ = w6
  have R5 := HRb.out.grow (.wl t l1) ⟨.slice (some ⟨g, 0, none⟩) (nn + 1) cap, (sl2 (.wl t l1)).n + 1, (sl2 (.wl t l1)).xs ++ [.int .i32 (i : Int), .int .i32 (l0 : Int)]⟩ (by rw [← HVV.out]; exact HG5) (by rw [← HNN.out]; exact hown) (fun k hk => by
   have e : g = k := by simpa [Value.ownBlock] using hk
   rcases hat with h | h
   ·exact .inl (by rw [← HVV.out, h, e])
   ·simp at h; exact .inr (by omega))
  have e0 : setS sl2 (.wl t l1) ⟨.slice (some ⟨g, 0, none⟩) (nn + 1) cap, (sl2 (.wl t l1)).n + 1, (sl2 (.wl t l1)).xs ++ [.int .i32 (i : Int), .int .i32 (l0 : Int)]⟩ (.row t) = sl2 (.row t) := setS_other _ _ (by intro e; cases e)
  have R6 := R5.setR (.row t) (g := rb) (cap := rcap) (by rw [e0]; exact HRV2.out) l1 (.slice (some ⟨g, 0, none⟩) (nn + 1) cap)
  rw [e0, hW6, ← fields_addW sl2 st2 t l1 (i, l0) ⟨.slice (some ⟨g, 0, none⟩) (nn + 1) cap, (sl2 (.wl t l1)).n + 1, (sl2 (.wl t l1)).xs ++ [.int .i32 (i : Int), .int .i32 (l0 : Int)]⟩ (sl2 (.row t)).n ((sl2 (.row t)).xs.set l1 (.slice (some ⟨g, 0, none⟩) (nn + 1) cap))] at R6
  have L6 := HLb.out.addW t l1 ht h1V2 (i, l0) (.slice (some ⟨g, 0, none⟩) (nn + 1) cap)
  have B6 : Below B w w6 := by
   rw [← hW6]
   exact setTo (HBb.out.trans (HRb.out.below (.wl t l1) (by rw [← HVV.out]; exact HG5))) hrB R5.size
  rw [HST2.out, HST1.out] at R6 L6
  clear KL KT KSS KP huA HOW hra hzr farR farL hown hgrow hat hlt5 hc5 hf5
  go_wp2
  go_end0
  refine ⟨rfl, ⟨_, R6, L6, ?_, ?_⟩, B6⟩
  rotate_left
  ·rw [setS_other _ _ (by intro e; cases e), setS_other _ _ (by intro e; cases e)]; exact hCV2
  rw [setS_other _ _ (by intro e; cases e), setS_other _ _ (by intro e; cases e)]
  rw [HST2.out, HST1.out] at hX2
  exact hX2
 refine AllReadyH.cons (o := _) rfl (fun K hK => ?_) AllReadyH.nil
 (try simp only [gA, gB, gC])
 go_simp
 refine hK.out _ _ (by (first | assumption | exact KL.out | exact KT.out _ (grown_refl' _ _) | exact KT.out _ (grown_ad _ _ _) | exact KT.out _ (by assumption) | exact KSS.out _ _ (by assumption))) (fun hHeld15 => ?_)
 clear hK K
 (try simp only [Act.put]); (try simp only [sA]); (try simp only [sB, sC])
 refine wpAnyH_ready (rs := [9]) (by kernel_rfl) (by simp) ?_
 refine AllReadyH.cons (o := _) rfl (fun K hK => ?_) AllReadyH.nil
 (try simp only [gA, gB, gC])
 go_simp
 refine hK.out _ _ (by (first | assumption | exact KL.out | exact KT.out _ (grown_refl' _ _) | exact KT.out _ (grown_ad _ _ _) | exact KT.out _ (by assumption) | exact KSS.out _ _ (by assumption))) (fun hHeld9 => ?_)
 clear hK K
 (try simp only [Act.put]); (try simp only [sA]); (try simp only [sB, sC])
 refine wpAnyH_ready (rs := [16]) (by kernel_rfl) (by simp) ?_
 refine AllReadyH.cons (o := _) rfl (fun K hK => ?_) AllReadyH.nil
 refine step_append_lies _ rfl (.tmp 39) (.tmp 45) 86 rfl B 118 iw _ 2 8 Try.underlying86 HI.out HZ.out HS.out HY.out rfl (by decide) v nn _ rfl (HOW.out.alloc _).drew ⟨W.heap.size, 0, none⟩ 1 1 [.int .i32 (i : Int), .int .i32 (l1 : Int)] rfl rfl (World.news_of_block (heap_new _ _)) (by simp [Value.oneCell']) (by decide) hm1 hm2 hm3 _ rfl ?_
 intro g cap w5 hown hgrow hat hlt5
 have HG5 := grown_trn (grown_ad _ _ _) hgrow
 have hc5 := (KP.out w5 HG5).1
 have hf5 := (KP.out w5 HG5).2
 refine hK.out _ _ (by (first | assumption | exact KL.out | exact KT.out _ (grown_refl' _ _) | exact KT.out _ (grown_ad _ _ _) | exact KT.out _ (by assumption) | exact KSS.out _ _ (by assumption))) (fun hHeldp => ?_)
 clear hK K
 (try simp only [Act.put]); (try simp only [sA]); (try simp only [sB, sC])
 refine tk 17 ?_
 refine wpAnyH_ready (rs := [18]) (by kernel_rfl) (by simp) ?_
 refine AllReadyH.cons (o := _) rfl (fun K hK => ?_) AllReadyH.nil
 (try simp only [gA, gB, gC])
 go_simp
 refine hK.out _ _ (by (first | assumption | exact KL.out | exact KT.out _ (grown_refl' _ _) | exact KT.out _ (grown_ad _ _ _) | exact KT.out _ (by assumption) | exact KSS.out _ _ (by assumption))) (fun hHeld18 => ?_)
 clear hK K
 (try simp only [Act.put]); (try simp only [sA]); (try simp only [sB, sC])
 refine wpAnyH_done (by kernel_rfl) ?_ _
 refine NoPanic.normal ?_
 generalize hW6 : World.setCell w5 _ _ = w6
 have R5 := HRa.out.grow (.wl t l0) ⟨.slice (some ⟨g, 0, none⟩) (nn + 1) cap, (sl1 (.wl t l0)).n + 1, (sl1 (.wl t l0)).xs ++ [.int .i32 (i : Int), .int .i32 (l1 : Int)]⟩ (by rw [← HVV.out]; exact HG5) (by rw [← HNN.out]; exact hown) (fun k hk => by
  have e : g = k := by simpa [Value.ownBlock] using hk
  rcases hat with h | h
  ·exact .inl (by rw [← HVV.out, h, e])
  ·simp at h; exact .inr (by omega))
 have e0 : setS sl1 (.wl t l0) ⟨.slice (some ⟨g, 0, none⟩) (nn + 1) cap, (sl1 (.wl t l0)).n + 1, (sl1 (.wl t l0)).xs ++ [.int .i32 (i : Int), .int .i32 (l1 : Int)]⟩ (.row t) = sl1 (.row t) := setS_other _ _ (by intro e; cases e)
 have R6 := R5.setR (.row t) (g := rb) (cap := rcap) (by rw [e0]; exact HRV.out) l0 (.slice (some ⟨g, 0, none⟩) (nn + 1) cap)
 rw [e0, hW6, ← fields_addW sl1 st1 t l0 (i, l1) ⟨.slice (some ⟨g, 0, none⟩) (nn + 1) cap, (sl1 (.wl t l0)).n + 1, (sl1 (.wl t l0)).xs ++ [.int .i32 (i : Int), .int .i32 (l1 : Int)]⟩ (sl1 (.row t)).n ((sl1 (.row t)).xs.set l0 (.slice (some ⟨g, 0, none⟩) (nn + 1) cap))] at R6
 have L6 := HL1.out.addW t l0 ht h0V1 (i, l1) (.slice (some ⟨g, 0, none⟩) (nn + 1) cap)
 have B6 : Below B w w6 := by
  rw [← hW6]
  exact setTo (HBa.out.trans (HRa.out.below (.wl t l0) (by rw [← HVV.out]; exact HG5))) hrB R5.size
 obtain ⟨sl2, HSL2⟩ : ∃ s : Site → Slot, Hid (s = setS (setS sl1 (.wl t l0) ⟨.slice (some ⟨g, 0, none⟩) (nn + 1) cap, (sl1 (.wl t l0)).n + 1, (sl1 (.wl t l0)).xs ++ [Value.int .i32 (i : Int), Value.int .i32 (l1 : Int)]⟩) (.row t) ⟨(sl1 (.row t)).v, (sl1 (.row t)).n, (sl1 (.row t)).xs.set l0 (.slice (some ⟨g, 0, none⟩) (nn + 1) cap)⟩) := ⟨_, rfl⟩
 have L6' : Link sl2 (st1.addW t l0 (i, l1)) := by rw [HSL2.out]; exact L6
 rw [← HSL2.out] at R6
 obtain ⟨st2, HST2⟩ : ∃ s, Hid (s = st1.addW t l0 (i, l1)) := ⟨_, rfl⟩
 rw [← HST2.out] at R6 L6'
 have HRb := hidden R6
 have HLb := hidden L6'
 have HBb := hidden B6
 have h1V2 : l1 < 2 * st2.V := by rw [HST2.out]; show l1 < 2 * st1.V; rw [HV1.out]; exact h1V
 have hWa2 : (st2.W t l1).length ≤ 67108864 := by
  rw [HST2.out]
  simp only [St.addW, addW]
  rw [if_neg (fun e => hne e.2.symm), HW1.out]; exact hW1
 have HRV2 : Hid ((sl2 (.row t)).v = .slice (some ⟨rb, 0, none⟩) (sl2 (.row t)).n rcap) := by rw [HSL2.out, setS_same]; exact HRV.out
 have HLV2 : Hid ((sl2 (.lits i)).v = .slice (some ⟨lb, 0, none⟩) (sl2 (.lits i)).n lcap) := by rw [HSL2.out, setS_other _ _ (by intro e; cases e), setS_other _ _ (by intro e; cases e)]; exact HLV.out
 have hX2 : sl2 (.lits st2.cls.length) = X := by
  rw [HSL2.out, HST2.out, setS_other _ _ (by intro e; cases e), setS_other _ _ (by intro e; cases e)]; exact hX1
 have hCV2 : (sl2 .clauses).v = CV := by
  rw [HSL2.out, setS_other _ _ (by intro e; cases e), setS_other _ _ (by intro e; cases e)]; exact hCV1
 have gb0 : w6.cell? ⟨lb, 0, none⟩ = some (.int .i32 (l0 : Int)) := by rw [← hW6]; exact (KSS.out _ _ (KT.out w5 HG5)).1
 have gb1 : w6.cell? ⟨lb, 1, none⟩ = some (.int .i32 (l1 : Int)) := by rw [← hW6]; exact (KSS.out _ _ (KT.out w5 HG5)).2
 clear hW6 R5 e0 R6 L6 L6' B6 KL KT KSS KP huA hm1 hm2 hm3 HOW hra hzr farR farL hown hgrow hat hlt5 hc5 hf5 HG5 HVV HNN g0 g1 hrbl
 have g0 := gb0
 have g1 := gb1
 clear gb0 gb1
 go_upto_region 3 with fail
 obtain ⟨v, HVV⟩ : ∃ v, Hid (v = (sl2 (.wl t l1)).v) := ⟨_, rfl⟩
 obtain ⟨nn, HNN⟩ : ∃ n, Hid (n = (sl2 (.wl t l1)).n) := ⟨_, rfl⟩
 have HOW : Hid (w6.ownsRow B 118 2 v nn (sl2 (.wl t l1)).xs) := by rw [HVV.out, HNN.out]; exact HRb.out.rows (.wl t l1)
 have hnn : nn ≤ 67108864 := by rw [HNN.out, (HLb.out.wl t l1 ht h1V2).1]; exact hWa2
 have hrowl := HLb.out.row t ht
 obtain ⟨rb', rcap', hrv', _, hrbl, _, hrcell, hrfz'⟩ := HRb.out.form (.row t) (by rw [hrowl.1]; have := h1V2; omega)
 rw [HRV2.out] at hrv'
 simp only [Value.slice.injEq, Option.some.injEq, Addr.mk.injEq, and_true, true_and] at hrv'
 obtain ⟨rfl, rfl⟩ := hrv'
 have hra : w6.cell? ⟨rb, l1, none⟩ = some v := by
  rw [hrcell l1 (by rw [hrowl.1]; simp [Site.sz]; have := h1V2; omega), HVV.out]; exact hrowl.2 l1 h1V2
 have hzr := hrfz' l1
 have farR : some rb ≠ v.ownBlock := fun e => by
  have := HRb.out.sep (.row t) (.wl t l1) rb (by rw [HRV2.out]; rfl) (by rw [← HVV.out]; exact e.symm)
  cases this
 have farL : some lb ≠ v.ownBlock := fun e => by
  have := HRb.out.sep (.lits i) (.wl t l1) lb (by rw [HLV2.out]; rfl) (by rw [← HVV.out]; exact e.symm)
  cases this
 have KL : Hid ((fun w' => w'.cell? ⟨lb, 0, none⟩ = some (.int .i32 (l0 : Int)) ∧ w'.cell? ⟨lb, 1, none⟩ = some (.int .i32 (l1 : Int))) w6.drew) := ⟨g0, g1⟩
 have KT : Hid (∀ w', w6.grownBy w' v.ownBlock → (fun w' => w'.cell? ⟨lb, 0, none⟩ = some (.int .i32 (l0 : Int)) ∧ w'.cell? ⟨lb, 1, none⟩ = some (.int .i32 (l1 : Int))) w') := fun w' hg => ⟨hg.cell g0 farL, hg.cell g1 farL⟩
 have KSS : Hid (∀ (w' : World) (xv : Value), (fun w' => w'.cell? ⟨lb, 0, none⟩ = some (.int .i32 (l0 : Int)) ∧ w'.cell? ⟨lb, 1, none⟩ = some (.int .i32 (l1 : Int))) w' → (fun w' => w'.cell? ⟨lb, 0, none⟩ = some (.int .i32 (l0 : Int)) ∧ w'.cell? ⟨lb, 1, none⟩ = some (.int .i32 (l1 : Int))) (w'.setCell ⟨rb, l1, none⟩ xv)) := fun w' xv hh => ⟨(World.cell?_setCell_other (h := fun e => hlr (by cases e; rfl)) ..).trans hh.1, (World.cell?_setCell_other (h := fun e => hlr (by cases e; rfl)) ..).trans hh.2⟩
 have KP : Hid (∀ w', w6.grownBy w' v.ownBlock → w'.cell? ⟨rb, l1, none⟩ = some v ∧ w'.frozen? ⟨rb, l1, none⟩ = false) := fun w' hg => ⟨hg.cell hra farR, (World.frozen?_of_block (a := ⟨rb, l1, none⟩) (hg.block rb hrbl farR)).trans hzr⟩
 have huA := (KP.out _ (World.grownBy_alloc w6 (.cells #[.int .i32 (i : Int), .int .i32 (l0 : Int)] 118) _)).1
 have hm1 : nn + 1 ≤ maxLen := by simp only [maxLen]; omega
 have hm2 : (nn + 1) * 8 ≤ 140737488355328 := by omega
 have hm3 : B ≤ ((w6.alloc (.cells #[.int .i32 (i : Int), .int .i32 (l0 : Int)] 118)).drew).heap.size := by have := HRb.out.size; simp; omega
 clear hrcell hrfz' hrowl hnn
 refine wp_region_noPanic ?_
 refine wp_region_held_drew (S := (fun w' => w'.cell? ⟨lb, 0, none⟩ = some (.int .i32 (l0 : Int)) ∧ w'.cell? ⟨lb, 1, none⟩ = some (.int .i32 (l1 : Int)))) (by kernel_rfl) (by (first | assumption | exact KL.out | exact KT.out _ (grown_refl' _ _) | exact KT.out _ (grown_ad _ _ _) | exact KT.out _ (by assumption) | exact KSS.out _ _ (by assumption))) (fun hHeld => ?_)
 refine tk 0 ?_
 refine tk 1 ?_
 refine tk 2 ?_
 refine tk 3 ?_
 refine tk 4 ?_
 refine tk 5 ?_
 refine tk 6 ?_
 refine tk 7 ?_
 refine tk 8 ?_
 refine tk 10 ?_
 refine tk 11 ?_
 refine tk 12 ?_
 refine tk 13 ?_
 refine tk 14 ?_
 refine wpAnyH_ready (rs := [9, 15]) (by kernel_rfl) (by simp) ?_
 refine AllReadyH.cons (o := _) rfl (fun K hK => ?_) ?_
 ·(try simp only [gA, gB, gC])
  go_simp
  refine hK.out _ _ (by (first | assumption | exact KL.out | exact KT.out _ (grown_refl' _ _) | exact KT.out _ (grown_ad _ _ _) | exact KT.out _ (by assumption) | exact KSS.out _ _ (by assumption))) (fun hHeld9 => ?_)
  clear hK K
  (try simp only [Act.put]); (try simp only [sA]); (try simp only [sB, sC])
  refine wpAnyH_ready (rs := [15]) (by kernel_rfl) (by simp) ?_
  refine AllReadyH.cons (o := _) rfl (fun K hK => ?_) AllReadyH.nil
  (try simp only [gA, gB, gC])
  go_simp
  refine hK.out _ _ (by (first | assumption | exact KL.out | exact KT.out _ (grown_refl' _ _) | exact KT.out _ (grown_ad _ _ _) | exact KT.out _ (by assumption) | exact KSS.out _ _ (by assumption))) (fun hHeld15 => ?_)
  clear hK K
  (try simp only [Act.put]); (try simp only [sA]); (try simp only [sB, sC])
  refine wpAnyH_ready (rs := [16]) (by kernel_rfl) (by simp) ?_
  refine AllReadyH.cons (o := _) rfl (fun K hK => ?_) AllReadyH.nil
  refine step_append_lies _ rfl (.tmp 57) (.tmp 63) 86 rfl B 118 iw _ 2 8 Try.underlying86 HI.out HZ.out HS.out HY.out rfl (by decide) v nn _ rfl (HOW.out.alloc _).drew ⟨w6.heap.size, 0, none⟩ 1 1 [.int .i32 (i : Int), .int .i32 (l0 : Int)] rfl rfl (World.news_of_block (heap_new _ _)) (by simp [Value.oneCell']) (by decide) hm1 hm2 hm3 _ rfl ?_
  intro g cap w5 hown hgrow hat hlt5
  have HG5 := grown_trn (grown_ad _ _ _) hgrow
  have hc5 := (KP.out w5 HG5).1
  have hf5 := (KP.out w5 HG5).2
  refine hK.out _ _ (by (first | assumption | exact KL.out | exact KT.out _ (grown_refl' _ _) | exact KT.out _ (grown_ad _ _ _) | exact KT.out _ (by assumption) | exact KSS.out _ _ (by assumption))) (fun hHeldp => ?_)
  clear hK K
  (try simp only [Act.put]); (try simp only [sA]); (try simp only [sB, sC])
  refine tk 17 ?_
  refine wpAnyH_ready (rs := [18]) (by kernel_rfl) (by simp) ?_
  refine AllReadyH.cons (o := _) rfl (fun K hK => ?_) AllReadyH.nil
  (try simp only [gA, gB, gC])
  go_simp
  refine hK.out _ _ (by (first | assumption | exact KL.out | exact KT.out _ (grown_refl' _ _) | exact KT.out _ (grown_ad _ _ _) | exact KT.out _ (by assumption) | exact KSS.out _ _ (by assumption))) (fun hHeld18 => ?_)
  clear hK K
  (try simp only [Act.put]); (try simp only [sA]); (try simp only [sB, sC])
  refine wpAnyH_done (by kernel_rfl) ?_ _
  refine NoPanic.normal ?_
  generalize hW6 : World.setCell w5 _ _ = w6
  have R5 := HRb.out.grow (.wl t l1) ⟨.slice (some ⟨g, 0, none⟩) (nn + 1) cap, (sl2 (.wl t l1)).n + 1, (sl2 (.wl t l1)).xs ++ [.int .i32 (i : Int), .int .i32 (l0 : Int)]⟩ (by rw [← HVV.out]; exact HG5) (by rw [← HNN.out]; exact hown) (fun k hk => by
   have e : g = k := by simpa [Value.ownBlock] using hk
   rcases hat with h | h
   ·exact .inl (by rw [← HVV.out, h, e])
   ·simp at h; exact .inr (by omega))
  have e0 : setS sl2 (.wl t l1) ⟨.slice (some ⟨g, 0, none⟩) (nn + 1) cap, (sl2 (.wl t l1)).n + 1, (sl2 (.wl t l1)).xs ++ [.int .i32 (i : Int), .int .i32 (l0 : Int)]⟩ (.row t) = sl2 (.row t) := setS_other _ _ (by intro e; cases e)
  have R6 := R5.setR (.row t) (g := rb) (cap := rcap) (by rw [e0]; exact HRV2.out) l1 (.slice (some ⟨g, 0, none⟩) (nn + 1) cap)
  rw [e0, hW6, ← fields_addW sl2 st2 t l1 (i, l0) ⟨.slice (some ⟨g, 0, none⟩) (nn + 1) cap, (sl2 (.wl t l1)).n + 1, (sl2 (.wl t l1)).xs ++ [.int .i32 (i : Int), .int .i32 (l0 : Int)]⟩ (sl2 (.row t)).n ((sl2 (.row t)).xs.set l1 (.slice (some ⟨g, 0, none⟩) (nn + 1) cap))] at R6
  have L6 := HLb.out.addW t l1 ht h1V2 (i, l0) (.slice (some ⟨g, 0, none⟩) (nn + 1) cap)
  have B6 : Below B w w6 := by
   rw [← hW6]
   exact setTo (HBb.out.trans (HRb.out.below (.wl t l1) (by rw [← HVV.out]; exact HG5))) hrB R5.size
  rw [HST2.out, HST1.out] at R6 L6
  clear KL KT KSS KP huA HOW hra hzr farR farL hown hgrow hat hlt5 hc5 hf5
  go_wp2
  go_end0
  refine ⟨rfl, ⟨_, R6, L6, ?_, ?_⟩, B6⟩
  rotate_left
  ·rw [setS_other _ _ (by intro e; cases e), setS_other _ _ (by intro e; cases e)]; exact hCV2
  rw [setS_other _ _ (by intro e; cases e), setS_other _ _ (by intro e; cases e)]
  rw [HST2.out, HST1.out] at hX2
  exact hX2
 refine AllReadyH.cons (o := _) rfl (fun K hK => ?_) AllReadyH.nil
 (try simp only [gA, gB, gC])
 go_simp
 refine hK.out _ _ (by (first | assumption | exact KL.out | exact KT.out _ (grown_refl' _ _) | exact KT.out _ (grown_ad _ _ _) | exact KT.out _ (by assumption) | exact KSS.out _ _ (by assumption))) (fun hHeld15 => ?_)
 clear hK K
 (try simp only [Act.put]); (try simp only [sA]); (try simp only [sB, sC])
 refine wpAnyH_ready (rs := [9]) (by kernel_rfl) (by simp) ?_
 refine AllReadyH.cons (o := _) rfl (fun K hK => ?_) AllReadyH.nil
 (try simp only [gA, gB, gC])
 go_simp
 refine hK.out _ _ (by (first | assumption | exact KL.out | exact KT.out _ (grown_refl' _ _) | exact KT.out _ (grown_ad _ _ _) | exact KT.out _ (by assumption) | exact KSS.out _ _ (by assumption))) (fun hHeld9 => ?_)
 clear hK K
 (try simp only [Act.put]); (try simp only [sA]); (try simp only [sB, sC])
 refine wpAnyH_ready (rs := [16]) (by kernel_rfl) (by simp) ?_
 refine AllReadyH.cons (o := _) rfl (fun K hK => ?_) AllReadyH.nil
 refine step_append_lies _ rfl (.tmp 57) (.tmp 63) 86 rfl B 118 iw _ 2 8 Try.underlying86 HI.out HZ.out HS.out HY.out rfl (by decide) v nn _ rfl (HOW.out.alloc _).drew ⟨w6.heap.size, 0, none⟩ 1 1 [.int .i32 (i : Int), .int .i32 (l0 : Int)] rfl rfl (World.news_of_block (heap_new _ _)) (by simp [Value.oneCell']) (by decide) hm1 hm2 hm3 _ rfl ?_
 intro g cap w5 hown hgrow hat hlt5
 have HG5 := grown_trn (grown_ad _ _ _) hgrow
 have hc5 := (KP.out w5 HG5).1
 have hf5 := (KP.out w5 HG5).2
 refine hK.out _ _ (by (first | assumption | exact KL.out | exact KT.out _ (grown_refl' _ _) | exact KT.out _ (grown_ad _ _ _) | exact KT.out _ (by assumption) | exact KSS.out _ _ (by assumption))) (fun hHeldp => ?_)
 clear hK K
 (try simp only [Act.put]); (try simp only [sA]); (try simp only [sB, sC])
 refine tk 17 ?_
 refine wpAnyH_ready (rs := [18]) (by kernel_rfl) (by simp) ?_
 refine AllReadyH.cons (o := _) rfl (fun K hK => ?_) AllReadyH.nil
 (try simp only [gA, gB, gC])
 go_simp
 refine hK.out _ _ (by (first | assumption | exact KL.out | exact KT.out _ (grown_refl' _ _) | exact KT.out _ (grown_ad _ _ _) | exact KT.out _ (by assumption) | exact KSS.out _ _ (by assumption))) (fun hHeld18 => ?_)
 clear hK K
 (try simp only [Act.put]); (try simp only [sA]); (try simp only [sB, sC])
 refine wpAnyH_done (by kernel_rfl) ?_ _
 refine NoPanic.normal ?_
 generalize hW6 : World.setCell w5 _ _ = w6
 have R5 := HRb.out.grow (.wl t l1) ⟨.slice (some ⟨g, 0, none⟩) (nn + 1) cap, (sl2 (.wl t l1)).n + 1, (sl2 (.wl t l1)).xs ++ [.int .i32 (i : Int), .int .i32 (l0 : Int)]⟩ (by rw [← HVV.out]; exact HG5) (by rw [← HNN.out]; exact hown) (fun k hk => by
  have e : g = k := by simpa [Value.ownBlock] using hk
  rcases hat with h | h
  ·exact .inl (by rw [← HVV.out, h, e])
  ·simp at h; exact .inr (by omega))
 have e0 : setS sl2 (.wl t l1) ⟨.slice (some ⟨g, 0, none⟩) (nn + 1) cap, (sl2 (.wl t l1)).n + 1, (sl2 (.wl t l1)).xs ++ [.int .i32 (i : Int), .int .i32 (l0 : Int)]⟩ (.row t) = sl2 (.row t) := setS_other _ _ (by intro e; cases e)
 have R6 := R5.setR (.row t) (g := rb) (cap := rcap) (by rw [e0]; exact HRV2.out) l1 (.slice (some ⟨g, 0, none⟩) (nn + 1) cap)
 rw [e0, hW6, ← fields_addW sl2 st2 t l1 (i, l0) ⟨.slice (some ⟨g, 0, none⟩) (nn + 1) cap, (sl2 (.wl t l1)).n + 1, (sl2 (.wl t l1)).xs ++ [.int .i32 (i : Int), .int .i32 (l0 : Int)]⟩ (sl2 (.row t)).n ((sl2 (.row t)).xs.set l1 (.slice (some ⟨g, 0, none⟩) (nn + 1) cap))] at R6
 have L6 := HLb.out.addW t l1 ht h1V2 (i, l0) (.slice (some ⟨g, 0, none⟩) (nn + 1) cap)
 have B6 : Below B w w6 := by
  rw [← hW6]
  exact setTo (HBb.out.trans (HRb.out.below (.wl t l1) (by rw [← HVV.out]; exact HG5))) hrB R5.size
 rw [HST2.out, HST1.out] at R6 L6
 clear KL KT KSS KP huA HOW hra hzr farR farL hown hgrow hat hlt5 hc5 hf5
 go_wp2
 go_end0
 refine ⟨rfl, ⟨_, R6, L6, ?_, ?_⟩, B6⟩
 rotate_left
 ·rw [setS_other _ _ (by intro e; cases e), setS_other _ _ (by intro e; cases e)]; exact hCV2
 rw [setS_other _ _ (by intro e; cases e), setS_other _ _ (by intro e; cases e)]
 rw [HST2.out, HST1.out] at hX2
 exact hX2
end Go.Proofs.Ytefjicdhccfieaa
