import Derived.Test.YtllaedigdjhkjaaRgH
namespace Go.Proofs.Ytllaedigdjhkjaa
open Go.RowKit

set_option maxRecDepth 100000 in
set_option maxHeartbeats 8000000 in
theorem use_any (B : Nat) (w : World) (bb : Nat) (st : St) (h : BD B w bb st) (hwd : Wd st.V st.cls st.W) (i : Nat) (c : BC) (hc : st.cls[i]? = some c) (hncl : st.cls.length ≤ 16777216) :
    Calls Try.prog 73 #[.pointer (some ⟨bb, 0, none⟩), .int .i32 (i : Int)] w fun e w' => e = .returned (.tuple #[]) ∧ ∃ st', BD B w' bb st' ∧ UseR st st' ∧ Below B w w' := by
  obtain ⟨X, CV, hb0⟩ := h.bd
  have hV : st.V ≤ 100000 := by
    obtain ⟨_, _, L⟩ := h
    exact L.hV
  have hil : i < st.cls.length := (List.getElem?_eq_some_iff.1 hc).1
  obtain ⟨q1, q2, hlits, q4, q5, q6⟩ := hwd.two i c hc
  have hclen : c.l.length ≤ 200000 := by have := hwd.clen hc; omega
  obtain ⟨cb, ccap, lb0, lcap0, hCVE, hcB, hcbl, hlb0, f0, fl0, ft, fro, hcfz, hlc⟩ := hb0.clause hc (by omega)
  have HCVE := hidden hCVE
  obtain ⟨l0, hl0⟩ := getElem_lt (show 0 < c.l.length by omega)
  obtain ⟨l1, hl1⟩ := getElem_lt (show 1 < c.l.length by omega)
  have hne : l0 ≠ l1 := fun e => by subst e; have := nodup_get q2 hl0 hl1; omega
  have hV0 : 0 < st.V := by have := hlits l0 (List.mem_of_getElem? hl0); omega
  obtain ⟨cn, HCN⟩ : ∃ n, Hid (n = st.cls.length) := ⟨_, rfl⟩
  have f0' : w.cell? ⟨bb, 0, none⟩ = some (.slice (some ⟨cb, 0, none⟩) cn ccap) := by rw [f0, hCVE, HCN.out]
  have f10 : w.cell? ⟨bb, 10, none⟩ = some (.int .i64 (st.round : Int)) := by
    obtain ⟨sl, R, L, _⟩ := hb0
    exact R.field 10
  obtain ⟨rd, HRD⟩ : ∃ n, Hid (n = st.round) := ⟨_, rfl⟩
  rw [← HRD.out] at f10
  have z3 := hcfz (i * 4 + 3)
  have hiI : (i : Int) < (cn : Int) := by have := HCN.out; omega
  have HRND := hidden (hb0.roundAt i st.round cb st.cls.length ccap hCVE)
  rw [← HRD.out] at HRND
  have ct2 : (w.setCell ⟨cb, i * 4 + 3, none⟩ (.int .i64 (rd : Int))).cell? ⟨cb, i * 4 + 2, none⟩ = some (.int .i64 (c.tier : Int)) := (World.cell?_setCell_other (h := fun e => by injection e; omega) ..).trans ft
  obtain ⟨ct, HCT⟩ : ∃ n, Hid (n = c.tier) := ⟨_, rfl⟩
  rw [← HCT.out] at ct2
  have HHC := hidden hc
  have HL0 := hidden hl0
  have HL1 := hidden hl1
  have HWD := hidden hwd
  clear f0 fl0 ft hcfz hlc hCVE hc hl0 hl1 hwd h hb0
  go_enter Try.func73, Try.ntmps73
  go_upto_region 2 with fail
  generalize hW1 : World.setCell w _ _ = w1
  rw [hW1] at HRND ct2
  clear hW1 f0' f10 fro z3
  have HBD1 := hidden HRND.out.1
  have HBB1 := hidden HRND.out.2
  rw [HRD.out] at HBD1
  have hc1 : (st.roundAt i st.round).cls[i]? = some { c with round := st.round } := mod_same HHC.out
  by_cases htier : ct = 1
  · subst htier
    have HWC : Hid (∀ w', Bd B w' bb (st.roundAt i st.round) X CV → Calls Try.prog 41 #[.pointer (some ⟨bb, 0, none⟩), .int .i32 (i : Int), .int .i64 ((0 : Nat) : Int)] w' fun e w'' => e = .returned (.tuple #[]) ∧ Bd B w'' bb ((((st.roundAt i st.round).tierAt i 0).addW 0 l0 (i, l1)).addW 0 l1 (i, l0)) X CV ∧ Below B w' w'') := fun w' hb' => by
      have hw1 := (UseR.roundAt st i).wd HWD.out
      exact watch_any B w' bb (st.roundAt i st.round) X CV hb' i 0 _ hc1 (by decide) l0 l1 HL0.out HL1.out (hlits l0 (List.mem_of_getElem? HL0.out)) (hlits l1 (List.mem_of_getElem? HL1.out)) hne (by simp [St.roundAt]; omega) (by have := hw1.len 0 l0; simp [St.roundAt] at this ⊢; omega) (by have := hw1.len 0 l1; simp [St.roundAt] at this ⊢; omega)
    have HURN : Hid (UseR st ((((st.roundAt i st.round).tierAt i 0).addW 0 l0 (i, l1)).addW 0 l1 (i, l0))) := (UseR.roundAt st i).trans (UseR.near hc1 HCT.out.symm HL0.out HL1.out hne)
    have hc2 : ((((st.roundAt i st.round).tierAt i 0).addW 0 l0 (i, l1)).addW 0 l1 (i, l0)).cls[i]? = some { c with round := st.round, tier := 0 } := mod_same hc1
    have HC2' := hidden hc2
    clear hc1 hc2
    go_wp2_with fail
    go_at_call 41
    refine (HWC.out _ (by first | exact HBD1.out)).mono ?_
    rintro e w2 ⟨rfl, hb2, hbb2⟩
    obtain ⟨st2, HST2⟩ : ∃ s, Hid (s = (((st.roundAt i st.round).tierAt i 0).addW 0 l0 (i, l1)).addW 0 l1 (i, l0)) := ⟨_, rfl⟩
    rw [← HST2.out] at hb2 HURN HC2'
    have HBD2 := hidden hb2
    have HUR2 := HURN
    have HBB2 : Hid (Below B w w2) := HBB1.out.trans hbb2
    obtain ⟨c2, HC2E⟩ : ∃ x : BC, Hid (x = { c with round := st.round, tier := 0 }) := ⟨_, rfl⟩
    have HC2 : Hid (st2.cls[i]? = some c2) := by rw [HC2E.out]; exact HC2'.out
    have HCL2 : Hid (c2.l = c.l) := by rw [HC2E.out]; rfl
    have HV2 : Hid (st2.V = st.V) := HURN.out.V
    have HLEN2 : Hid (st2.cls.length = st.cls.length) := HURN.out.len
    clear hb2 hbb2 HWC ct2
    obtain ⟨sl, R, L, hX2, hCV2⟩ := HBD2.out
    have HR2 := hidden R
    have HL2 := hidden L
    obtain ⟨p1, p2⟩ := L.lits i c2 HC2.out
    obtain ⟨q0, -, -, -⟩ := L.cls i c2 HC2.out
    obtain ⟨lb, lcap, hlv, -, hlb, -, hlcell, -⟩ := R.form (.lits i) (by rw [p1, HCL2.out]; omega)
    obtain ⟨cb', ccap', hcv', -, -, -, hccell, -⟩ := R.form .clauses (by rw [L.clsN, HLEN2.out]; omega)
    have ecb : cb' = cb := by
      rw [hCV2, HCVE.out] at hcv'
      have e9 := congrArg Value.ownBlock hcv'
      simp [Value.ownBlock] at e9
      omega
    subst ecb
    obtain ⟨ln, HLN⟩ : ∃ n, Hid (n = c.l.length) := ⟨_, rfl⟩
    have fl : w2.cell? ⟨cb', i * 4, none⟩ = some (.slice (some ⟨lb, 0, none⟩) ln lcap) := by
      rw [hccell (i * 4) (by rw [L.clsN, HLEN2.out]; simp [Site.sz]; omega), Nat.mul_comm, q0, hlv, p1, HCL2.out, HLN.out]
    have HLV := hidden hlv
    obtain ⟨ub, uc, huv, huB, hul, -, -, -⟩ := R.form .used (by rw [L.used.1, HV2.out]; omega)
    have HUV := hidden huv
    obtain ⟨VV, HVV⟩ : ∃ n, Hid (n = st.V) := ⟨_, rfl⟩
    have hub : ub ≠ bb := fun e => R.nb .used (by rw [huv, e]; rfl)
    have HUN : Hid ((sl .used).n = VV) := by show _ = _; rw [L.used.1, HV2.out, HVV.out]
    have HF5 : Hid ((fields sl st2)[5]? = some (.slice (some ⟨ub, 0, none⟩) VV uc)) := by show _ = _; rw [show (fields sl st2)[5]? = some (sl .used).v from rfl, huv, HUN.out]
    have HP2L : Hid ((sl (.lits i)).xs = litV c.l ∧ (sl (.lits i)).n = c.l.length) := ⟨by rw [p2, HCL2.out], by rw [p1, HCL2.out]⟩
    have hln : ln ≤ 200000 := by have := hclen; have := HLN.out; omega
    have HUL : Hid (st2.used.length = st.V) := by show _ = _; rw [L.usedL, HV2.out]
    clear p1 p2 q0 hlv hlcell hccell huv hX2 hCV2 hcv' R L
    go_wp2_with fail
    clear fl
    try clear htI
    try clear htier
    try clear ct2
    go_loopw [33] (fun i' w' => ∃ (k : Nat), k ≤ ln ∧ i' = .int .i64 k ∧ Hid (Rows' B w' bb (fields sl st2) (setS sl .used ⟨(sl .used).v, (sl .used).n, boolV (st2.useL (c.l.take k)).used⟩)) ∧ Hid (Below B w w')) (fun i' _ => ln - (intOf i').toNat)
    case atStart =>
      refine ⟨0, Nat.zero_le _, rfl, ?_, HBB2.out⟩
      show Rows' _ _ _ _ _
      rw [List.take_zero]
      have e : (⟨(sl .used).v, (sl .used).n, boolV (st2.useL []).used⟩ : Slot) = sl .used := by
        have : boolV (st2.useL []).used = (sl .used).xs := by rw [HL2.out.used.2]; rfl
        rw [this]
      rw [e, setS_self]; exact HR2.out
    case round =>
      obtain ⟨k, hk, rfl, HRk, HBk⟩ := hrel
      by_cases hlt : k < ln
      · obtain ⟨x, hx⟩ := getElem_lt (show k < c.l.length by have := HLN.out; omega)
        have hxV : x < 2 * st.V := hlits x (List.mem_of_getElem? hx)
        have hRk := HRk.out
        obtain ⟨lb', lcap', hlv', -, -, -, hlcell', -⟩ := hRk.form (.lits i) (by rw [setS_other _ _ (by intro e; cases e), HP2L.out.2]; omega)
        rw [setS_other _ _ (by intro e; cases e)] at hlv' hlcell'
        have elb : lb' = lb := by rw [HLV.out] at hlv'; cases hlv'; rfl
        subst elb
        have cx : wr.cell? ⟨lb', k, none⟩ = some (.int .i32 (x : Int)) := by
          rw [hlcell' k (by rw [HP2L.out.2]; simp [Site.sz]; have := HLN.out; omega), HP2L.out.1]; exact litV_get _ _ _ hx
        have hru := hRk.rows .used
        rw [setS_same] at hru
        dsimp only at hru
        rw [HUV.out, HUN.out] at hru
        obtain ⟨u, hu⟩ := getElem_lt (show x / 2 < (boolV (st2.useL (c.l.take k)).used).length by simp only [boolV, List.length_map]; rw [useL_len, HUL.out]; omega)
        have cu := (hru.cellAt (x / 2) (by simp [Site.sz]; have := HVV.out; omega)).trans hu
        have zu := hru.frozenAt (x / 2)
        have f5 : wr.cell? ⟨bb, 5, none⟩ = some (.slice (some ⟨ub, 0, none⟩) VV uc) := by rw [hRk.field 5]; exact HF5.out
        have RS : Hid (∀ w', Below wr.heap.size wr w' → Rows' B (w'.setCell ⟨ub, x / 2, none⟩ (.bool true)) bb (fields sl st2) (setS sl .used ⟨(sl .used).v, (sl .used).n, boolV (st2.useL (c.l.take (k + 1))).used⟩) ∧ Below B w (w'.setCell ⟨ub, x / 2, none⟩ (.bool true))) := fun w' hb' => by
          have R1 := HRk.out.rest hb'
          have R2 := R1.setR .used (g := ub) (cap := uc) (by rw [setS_same]; exact HUV.out) (x / 2) (.bool true)
          simp only [setS_same, setS_twice] at R2
          have e1 : boolV (st2.useL (c.l.take (k + 1))).used = (boolV (st2.useL (c.l.take k)).used).set (x / 2) (.bool true) := by
            rw [useL_next _ _ _ _ hx, ← boolV_set]; rfl
          rw [← e1] at R2
          exact ⟨R2, setTo (HBk.out.trans (hb'.mono HRk.out.size)) huB R1.size⟩
        have VAR := fun w' => variable_any w' x (by omega)
        obtain ⟨xh, HXH⟩ : ∃ h, Hid (h = x / 2) := ⟨_, rfl⟩
        rw [← HXH.out] at cu zu RS VAR
        have hxI : (xh : Int) < (VV : Int) := by have := HXH.out; have := HVV.out; omega
        have hkI : (k : Int) < (ln : Int) := by omega
        have e3 : IntKind.i64.wrap ((k : Int) + 1) = (k : Int) + 1 := wrapI _ (by omega) (by omega)
        have KB : Hid ((fun w' => w'.cell? ⟨bb, 5, none⟩ = some (.slice (some ⟨ub, 0, none⟩) VV uc)) wr) := f5
        have KS : Hid (∀ (w' : World) (xv : Value) (j : Nat), (fun w' => w'.cell? ⟨bb, 5, none⟩ = some (.slice (some ⟨ub, 0, none⟩) VV uc)) w' → (fun w' => w'.cell? ⟨bb, 5, none⟩ = some (.slice (some ⟨ub, 0, none⟩) VV uc)) (w'.setCell ⟨ub, j, none⟩ xv)) := fun w' xv j hh => (World.cell?_setCell_other (h := fun e => hub (by cases e; rfl)) ..).trans hh
        clear hru hu hlcell' hlv' hx hRk
        go_upto_region 7 with fail
        refine wp_region_noPanic ?_
        refine wp_region_held_drew (S := (fun w' => w'.cell? ⟨bb, 5, none⟩ = some (.slice (some ⟨ub, 0, none⟩) VV uc))) (by kernel_rfl) (by first | exact KB.out | exact KS.out _ _ _ (by first | assumption | exact KB.out)) (fun hHeld => ?_)
        refine wpAnyH_take (i := 0) (oi := _) (v := ?_) rfl (by kernel_rfl) (by kernel_rfl) (by kernel_rfl) (fun _ _ _ h => h) (Or.inl ⟨by rfl, ?_⟩) (by assumption) ?_
        rotate_left
        · (intro w0 hSw; (try dsimp only at hSw); (try simp only [List.getElem_toArray, List.getElem_cons_zero]); go_simp; try (with_reducible rfl))
        try simp only [Act.put, List.getElem_toArray, List.getElem_cons_zero, List.setIfInBounds_toArray, List.set_cons_zero, List.set_cons_succ]
        refine wpAnyH_take (i := 1) (oi := _) (v := ?_) rfl (by kernel_rfl) (by kernel_rfl) (by kernel_rfl) (fun _ _ _ h => h) (Or.inl ⟨by rfl, ?_⟩) (by assumption) ?_
        rotate_left
        · (intro w0 hSw; (try dsimp only at hSw); (try simp only [List.getElem_toArray, List.getElem_cons_zero, List.getElem_cons_succ]); go_simp; try (with_reducible rfl))
        try simp only [Act.put, List.getElem_toArray, List.getElem_cons_zero, List.getElem_cons_succ, List.setIfInBounds_toArray, List.set_cons_zero, List.set_cons_succ]
        refine wpAnyH_take (i := 2) (oi := _) (v := ?_) rfl (by kernel_rfl) (by kernel_rfl) (by kernel_rfl) (fun _ _ _ h => h) (Or.inl ⟨by rfl, ?_⟩) (by assumption) ?_
        rotate_left
        · (intro w0 hSw; (try dsimp only at hSw); (try simp only [List.getElem_toArray, List.getElem_cons_zero, List.getElem_cons_succ]); go_simp; try (with_reducible rfl))
        try simp only [Act.put, List.getElem_toArray, List.getElem_cons_zero, List.getElem_cons_succ, List.setIfInBounds_toArray, List.set_cons_zero, List.set_cons_succ]
        refine wpAnyH_take (i := 3) (oi := _) (v := ?_) rfl (by kernel_rfl) (by kernel_rfl) (by kernel_rfl) (fun _ _ _ h => h) (Or.inl ⟨by rfl, ?_⟩) (by assumption) ?_
        rotate_left
        · (intro w0 hSw; (try dsimp only at hSw); (try simp only [List.getElem_toArray, List.getElem_cons_zero, List.getElem_cons_succ]); go_simp; try (with_reducible rfl))
        try simp only [Act.put, List.getElem_toArray, List.getElem_cons_zero, List.getElem_cons_succ, List.setIfInBounds_toArray, List.set_cons_zero, List.set_cons_succ]
        refine wpAnyH_take (i := 4) (oi := _) (v := ?_) rfl (by kernel_rfl) (by kernel_rfl) (by kernel_rfl) (fun _ _ _ h => h) (Or.inl ⟨by rfl, ?_⟩) (by assumption) ?_
        rotate_left
        · (intro w0 hSw; (try dsimp only at hSw); (try simp only [List.getElem_toArray, List.getElem_cons_zero, List.getElem_cons_succ]); go_simp; try (with_reducible rfl))
        try simp only [Act.put, List.getElem_toArray, List.getElem_cons_zero, List.getElem_cons_succ, List.setIfInBounds_toArray, List.set_cons_zero, List.set_cons_succ]
        refine wpAnyH_ready (rs := [5]) (by kernel_rfl) (by simp) ?_
        refine AllReadyH.cons (o := _) rfl (fun K hK => ?_) AllReadyH.nil
        (try simp only [List.getElem_toArray, List.getElem_cons_zero, List.getElem_cons_succ])
        go_simp
        go_at_call 71
        refine (VAR _).mono ?_
        rintro e w9 ⟨rfl, rfl⟩
        go_wp2_with fail
        refine hK.out _ _ (by first | exact KB.out | exact KS.out _ _ _ (by first | assumption | exact KB.out)) (fun hHeld5 => ?_)
        clear hK K
        (try simp only [Act.put]); (try simp only [List.setIfInBounds_toArray]); (try simp only [List.set_cons_zero, List.set_cons_succ])
        refine wpAnyH_take (i := 6) (oi := _) (v := ?_) rfl (by kernel_rfl) (by kernel_rfl) (by kernel_rfl) (fun _ _ _ h => h) (Or.inl ⟨by rfl, ?_⟩) (by assumption) ?_
        rotate_left
        · (intro w0 hSw; (try dsimp only at hSw); (try simp only [List.getElem_toArray, List.getElem_cons_zero, List.getElem_cons_succ]); go_simp; try (with_reducible rfl))
        try simp only [Act.put, List.getElem_toArray, List.getElem_cons_zero, List.getElem_cons_succ, List.setIfInBounds_toArray, List.set_cons_zero, List.set_cons_succ]
        refine wpAnyH_ready (rs := [7]) (by kernel_rfl) (by simp) ?_
        refine AllReadyH.cons (o := _) rfl (fun K hK => ?_) AllReadyH.nil
        (try simp only [List.getElem_toArray, List.getElem_cons_zero, List.getElem_cons_succ])
        go_simp
        refine hK.out _ _ (by first | exact KB.out | exact KS.out _ _ _ (by first | assumption | exact KB.out)) (fun hHeld7 => ?_)
        clear hK K
        (try simp only [Act.put]); (try simp only [List.setIfInBounds_toArray]); (try simp only [List.set_cons_zero, List.set_cons_succ])
        refine wpAnyH_done (by kernel_rfl) ?_ _
        refine NoPanic.normal ?_
        generalize hW1 : World.setCell _ _ _ = w1
        obtain ⟨R1, B1⟩ := RS.out _ (by first | exact Below.refl _ _ | exact Below.drew (Below.refl _ _) | exact Below.drew (Below.drew (Below.refl _ _)))
        rw [hW1] at R1 B1
        have HR1 := hidden R1
        have HB1 := hidden B1
        clear hW1 RS KB KS f5 cu zu cx VAR R1 B1
        go_wp2
        go_roundw
        case measure => simp [intOf]; omega
        case rel => exact ⟨k + 1, by omega, by simp, HR1.out.rest (Below.drew (Below.refl _ _)), Below.drew HB1.out⟩
      · have hge : ¬ ((k : Int) < (ln : Int)) := by omega
        have HX : Hid (∃ st', BD B wr bb st' ∧ UseR st st' ∧ Below B w wr) := by
          have hR := HRk.out
          have ek : c.l.take k = c.l := List.take_of_length_le (by rw [← HLN.out]; omega)
          rw [ek] at hR
          refine ⟨st2.useL c.l, ⟨_, ?_, by rw [useL_eq]; exact HL2.out.usedTo _ (useL_len _ _)⟩, HUR2.out.trans (by rw [useL_eq]; exact UseR.used _ _), HBk.out⟩
          have ef : fields (setS sl .used ⟨(sl .used).v, (sl .used).n, boolV (st2.useL c.l).used⟩) (st2.useL c.l) = fields sl st2 := by rw [useL_eq]; simp [fields, setS]
          rw [ef]; exact hR
        clear HRk HBk
        go_wp2
        go_end0
        exact ⟨rfl, HX.out⟩
  · have ht0 : ct = 0 := by have := HCT.out; omega
    subst ht0
    obtain ⟨w2, HW2⟩ : ∃ x, Hid (x = w1) := ⟨_, rfl⟩
    rw [← HW2.out] at ct2 ⊢
    obtain ⟨st2, HST2⟩ : ∃ s, Hid (s = st.roundAt i st.round) := ⟨_, rfl⟩
    have HBD2 : Hid (Bd B w2 bb st2 X CV) := by rw [HST2.out, HW2.out]; exact HBD1.out
    have HUR2 : Hid (UseR st st2) := by rw [HST2.out]; exact UseR.roundAt st i
    have HBB2 : Hid (Below B w w2) := by rw [HW2.out]; exact HBB1.out
    obtain ⟨c2, HC2E⟩ : ∃ x : BC, Hid (x = { c with round := st.round }) := ⟨_, rfl⟩
    have HC2 : Hid (st2.cls[i]? = some c2) := by rw [HC2E.out, HST2.out]; exact hc1
    have HCL2 : Hid (c2.l = c.l) := by rw [HC2E.out]; rfl
    have HV2 : Hid (st2.V = st.V) := HUR2.out.V
    have HLEN2 : Hid (st2.cls.length = st.cls.length) := HUR2.out.len
    clear hc1
    obtain ⟨sl, R, L, hX2, hCV2⟩ := HBD2.out
    have HR2 := hidden R
    have HL2 := hidden L
    obtain ⟨p1, p2⟩ := L.lits i c2 HC2.out
    obtain ⟨q0, -, -, -⟩ := L.cls i c2 HC2.out
    obtain ⟨lb, lcap, hlv, -, hlb, -, hlcell, -⟩ := R.form (.lits i) (by rw [p1, HCL2.out]; omega)
    obtain ⟨cb', ccap', hcv', -, -, -, hccell, -⟩ := R.form .clauses (by rw [L.clsN, HLEN2.out]; omega)
    have ecb : cb' = cb := by
      rw [hCV2, HCVE.out] at hcv'
      have e9 := congrArg Value.ownBlock hcv'
      simp [Value.ownBlock] at e9
      omega
    subst ecb
    obtain ⟨ln, HLN⟩ : ∃ n, Hid (n = c.l.length) := ⟨_, rfl⟩
    have fl : w2.cell? ⟨cb', i * 4, none⟩ = some (.slice (some ⟨lb, 0, none⟩) ln lcap) := by
      rw [hccell (i * 4) (by rw [L.clsN, HLEN2.out]; simp [Site.sz]; omega), Nat.mul_comm, q0, hlv, p1, HCL2.out, HLN.out]
    have HLV := hidden hlv
    obtain ⟨ub, uc, huv, huB, hul, -, -, -⟩ := R.form .used (by rw [L.used.1, HV2.out]; omega)
    have HUV := hidden huv
    obtain ⟨VV, HVV⟩ : ∃ n, Hid (n = st.V) := ⟨_, rfl⟩
    have hub : ub ≠ bb := fun e => R.nb .used (by rw [huv, e]; rfl)
    have HUN : Hid ((sl .used).n = VV) := by show _ = _; rw [L.used.1, HV2.out, HVV.out]
    have HF5 : Hid ((fields sl st2)[5]? = some (.slice (some ⟨ub, 0, none⟩) VV uc)) := by show _ = _; rw [show (fields sl st2)[5]? = some (sl .used).v from rfl, huv, HUN.out]
    have HP2L : Hid ((sl (.lits i)).xs = litV c.l ∧ (sl (.lits i)).n = c.l.length) := ⟨by rw [p2, HCL2.out], by rw [p1, HCL2.out]⟩
    have hln : ln ≤ 200000 := by have := hclen; have := HLN.out; omega
    have HUL : Hid (st2.used.length = st.V) := by show _ = _; rw [L.usedL, HV2.out]
    clear p1 p2 q0 hlv hlcell hccell huv hX2 hCV2 hcv' R L
    go_wp2_with fail
    clear fl
    try clear htI
    try clear htier
    try clear ct2
    go_loopw [33] (fun i' w' => ∃ (k : Nat), k ≤ ln ∧ i' = .int .i64 k ∧ Hid (Rows' B w' bb (fields sl st2) (setS sl .used ⟨(sl .used).v, (sl .used).n, boolV (st2.useL (c.l.take k)).used⟩)) ∧ Hid (Below B w w')) (fun i' _ => ln - (intOf i').toNat)
    case atStart =>
      refine ⟨0, Nat.zero_le _, rfl, ?_, HBB2.out⟩
      show Rows' _ _ _ _ _
      rw [List.take_zero]
      have e : (⟨(sl .used).v, (sl .used).n, boolV (st2.useL []).used⟩ : Slot) = sl .used := by
        have : boolV (st2.useL []).used = (sl .used).xs := by rw [HL2.out.used.2]; rfl
        rw [this]
      rw [e, setS_self]; exact HR2.out
    case round =>
      obtain ⟨k, hk, rfl, HRk, HBk⟩ := hrel
      by_cases hlt : k < ln
      · obtain ⟨x, hx⟩ := getElem_lt (show k < c.l.length by have := HLN.out; omega)
        have hxV : x < 2 * st.V := hlits x (List.mem_of_getElem? hx)
        have hRk := HRk.out
        obtain ⟨lb', lcap', hlv', -, -, -, hlcell', -⟩ := hRk.form (.lits i) (by rw [setS_other _ _ (by intro e; cases e), HP2L.out.2]; omega)
        rw [setS_other _ _ (by intro e; cases e)] at hlv' hlcell'
        have elb : lb' = lb := by rw [HLV.out] at hlv'; cases hlv'; rfl
        subst elb
        have cx : wr.cell? ⟨lb', k, none⟩ = some (.int .i32 (x : Int)) := by
          rw [hlcell' k (by rw [HP2L.out.2]; simp [Site.sz]; have := HLN.out; omega), HP2L.out.1]; exact litV_get _ _ _ hx
        have hru := hRk.rows .used
        rw [setS_same] at hru
        dsimp only at hru
        rw [HUV.out, HUN.out] at hru
        obtain ⟨u, hu⟩ := getElem_lt (show x / 2 < (boolV (st2.useL (c.l.take k)).used).length by simp only [boolV, List.length_map]; rw [useL_len, HUL.out]; omega)
        have cu := (hru.cellAt (x / 2) (by simp [Site.sz]; have := HVV.out; omega)).trans hu
        have zu := hru.frozenAt (x / 2)
        have f5 : wr.cell? ⟨bb, 5, none⟩ = some (.slice (some ⟨ub, 0, none⟩) VV uc) := by rw [hRk.field 5]; exact HF5.out
        have RS : Hid (∀ w', Below wr.heap.size wr w' → Rows' B (w'.setCell ⟨ub, x / 2, none⟩ (.bool true)) bb (fields sl st2) (setS sl .used ⟨(sl .used).v, (sl .used).n, boolV (st2.useL (c.l.take (k + 1))).used⟩) ∧ Below B w (w'.setCell ⟨ub, x / 2, none⟩ (.bool true))) := fun w' hb' => by
          have R1 := HRk.out.rest hb'
          have R2 := R1.setR .used (g := ub) (cap := uc) (by rw [setS_same]; exact HUV.out) (x / 2) (.bool true)
          simp only [setS_same, setS_twice] at R2
          have e1 : boolV (st2.useL (c.l.take (k + 1))).used = (boolV (st2.useL (c.l.take k)).used).set (x / 2) (.bool true) := by
            rw [useL_next _ _ _ _ hx, ← boolV_set]; rfl
          rw [← e1] at R2
          exact ⟨R2, setTo (HBk.out.trans (hb'.mono HRk.out.size)) huB R1.size⟩
        have VAR := fun w' => variable_any w' x (by omega)
        obtain ⟨xh, HXH⟩ : ∃ h, Hid (h = x / 2) := ⟨_, rfl⟩
        rw [← HXH.out] at cu zu RS VAR
        have hxI : (xh : Int) < (VV : Int) := by have := HXH.out; have := HVV.out; omega
        have hkI : (k : Int) < (ln : Int) := by omega
        have e3 : IntKind.i64.wrap ((k : Int) + 1) = (k : Int) + 1 := wrapI _ (by omega) (by omega)
        have KB : Hid ((fun w' => w'.cell? ⟨bb, 5, none⟩ = some (.slice (some ⟨ub, 0, none⟩) VV uc)) wr) := f5
        have KS : Hid (∀ (w' : World) (xv : Value) (j : Nat), (fun w' => w'.cell? ⟨bb, 5, none⟩ = some (.slice (some ⟨ub, 0, none⟩) VV uc)) w' → (fun w' => w'.cell? ⟨bb, 5, none⟩ = some (.slice (some ⟨ub, 0, none⟩) VV uc)) (w'.setCell ⟨ub, j, none⟩ xv)) := fun w' xv j hh => (World.cell?_setCell_other (h := fun e => hub (by cases e; rfl)) ..).trans hh
        clear hru hu hlcell' hlv' hx hRk
        go_upto_region 7 with fail
        refine wp_region_noPanic ?_
        refine wp_region_held_drew (S := (fun w' => w'.cell? ⟨bb, 5, none⟩ = some (.slice (some ⟨ub, 0, none⟩) VV uc))) (by kernel_rfl) (by first | exact KB.out | exact KS.out _ _ _ (by first | assumption | exact KB.out)) (fun hHeld => ?_)
        refine wpAnyH_take (i := 0) (oi := _) (v := ?_) rfl (by kernel_rfl) (by kernel_rfl) (by kernel_rfl) (fun _ _ _ h => h) (Or.inl ⟨by rfl, ?_⟩) (by assumption) ?_
        rotate_left
        · (intro w0 hSw; (try dsimp only at hSw); (try simp only [List.getElem_toArray, List.getElem_cons_zero]); go_simp; try (with_reducible rfl))
        try simp only [Act.put, List.getElem_toArray, List.getElem_cons_zero, List.setIfInBounds_toArray, List.set_cons_zero, List.set_cons_succ]
        refine wpAnyH_take (i := 1) (oi := _) (v := ?_) rfl (by kernel_rfl) (by kernel_rfl) (by kernel_rfl) (fun _ _ _ h => h) (Or.inl ⟨by rfl, ?_⟩) (by assumption) ?_
        rotate_left
        · (intro w0 hSw; (try dsimp only at hSw); (try simp only [List.getElem_toArray, List.getElem_cons_zero, List.getElem_cons_succ]); go_simp; try (with_reducible rfl))
        try simp only [Act.put, List.getElem_toArray, List.getElem_cons_zero, List.getElem_cons_succ, List.setIfInBounds_toArray, List.set_cons_zero, List.set_cons_succ]
        refine wpAnyH_take (i := 2) (oi := _) (v := ?_) rfl (by kernel_rfl) (by kernel_rfl) (by kernel_rfl) (fun _ _ _ h => h) (Or.inl ⟨by rfl, ?_⟩) (by assumption) ?_
        rotate_left
        · (intro w0 hSw; (try dsimp only at hSw); (try simp only [List.getElem_toArray, List.getElem_cons_zero, List.getElem_cons_succ]); go_simp; try (with_reducible rfl))
        try simp only [Act.put, List.getElem_toArray, List.getElem_cons_zero, List.getElem_cons_succ, List.setIfInBounds_toArray, List.set_cons_zero, List.set_cons_succ]
        refine wpAnyH_take (i := 3) (oi := _) (v := ?_) rfl (by kernel_rfl) (by kernel_rfl) (by kernel_rfl) (fun _ _ _ h => h) (Or.inl ⟨by rfl, ?_⟩) (by assumption) ?_
        rotate_left
        · (intro w0 hSw; (try dsimp only at hSw); (try simp only [List.getElem_toArray, List.getElem_cons_zero, List.getElem_cons_succ]); go_simp; try (with_reducible rfl))
        try simp only [Act.put, List.getElem_toArray, List.getElem_cons_zero, List.getElem_cons_succ, List.setIfInBounds_toArray, List.set_cons_zero, List.set_cons_succ]
        refine wpAnyH_take (i := 4) (oi := _) (v := ?_) rfl (by kernel_rfl) (by kernel_rfl) (by kernel_rfl) (fun _ _ _ h => h) (Or.inl ⟨by rfl, ?_⟩) (by assumption) ?_
        rotate_left
        · (intro w0 hSw; (try dsimp only at hSw); (try simp only [List.getElem_toArray, List.getElem_cons_zero, List.getElem_cons_succ]); go_simp; try (with_reducible rfl))
        try simp only [Act.put, List.getElem_toArray, List.getElem_cons_zero, List.getElem_cons_succ, List.setIfInBounds_toArray, List.set_cons_zero, List.set_cons_succ]
        refine wpAnyH_ready (rs := [5]) (by kernel_rfl) (by simp) ?_
        refine AllReadyH.cons (o := _) rfl (fun K hK => ?_) AllReadyH.nil
        (try simp only [List.getElem_toArray, List.getElem_cons_zero, List.getElem_cons_succ])
        go_simp
        go_at_call 71
        refine (VAR _).mono ?_
        rintro e w9 ⟨rfl, rfl⟩
        go_wp2_with fail
        refine hK.out _ _ (by first | exact KB.out | exact KS.out _ _ _ (by first | assumption | exact KB.out)) (fun hHeld5 => ?_)
        clear hK K
        (try simp only [Act.put]); (try simp only [List.setIfInBounds_toArray]); (try simp only [List.set_cons_zero, List.set_cons_succ])
        refine wpAnyH_take (i := 6) (oi := _) (v := ?_) rfl (by kernel_rfl) (by kernel_rfl) (by kernel_rfl) (fun _ _ _ h => h) (Or.inl ⟨by rfl, ?_⟩) (by assumption) ?_
        rotate_left
        · (intro w0 hSw; (try dsimp only at hSw); (try simp only [List.getElem_toArray, List.getElem_cons_zero, List.getElem_cons_succ]); go_simp; try (with_reducible rfl))
        try simp only [Act.put, List.getElem_toArray, List.getElem_cons_zero, List.getElem_cons_succ, List.setIfInBounds_toArray, List.set_cons_zero, List.set_cons_succ]
        refine wpAnyH_ready (rs := [7]) (by kernel_rfl) (by simp) ?_
        refine AllReadyH.cons (o := _) rfl (fun K hK => ?_) AllReadyH.nil
        (try simp only [List.getElem_toArray, List.getElem_cons_zero, List.getElem_cons_succ])
        go_simp
        refine hK.out _ _ (by first | exact KB.out | exact KS.out _ _ _ (by first | assumption | exact KB.out)) (fun hHeld7 => ?_)
        clear hK K
        (try simp only [Act.put]); (try simp only [List.setIfInBounds_toArray]); (try simp only [List.set_cons_zero, List.set_cons_succ])
        refine wpAnyH_done (by kernel_rfl) ?_ _
        refine NoPanic.normal ?_
        generalize hW1 : World.setCell _ _ _ = w1
        obtain ⟨R1, B1⟩ := RS.out _ (by first | exact Below.refl _ _ | exact Below.drew (Below.refl _ _) | exact Below.drew (Below.drew (Below.refl _ _)))
        rw [hW1] at R1 B1
        have HR1 := hidden R1
        have HB1 := hidden B1
        clear hW1 RS KB KS f5 cu zu cx VAR R1 B1
        go_wp2
        go_roundw
        case measure => simp [intOf]; omega
        case rel => exact ⟨k + 1, by omega, by simp, HR1.out.rest (Below.drew (Below.refl _ _)), Below.drew HB1.out⟩
      · have hge : ¬ ((k : Int) < (ln : Int)) := by omega
        have HX : Hid (∃ st', BD B wr bb st' ∧ UseR st st' ∧ Below B w wr) := by
          have hR := HRk.out
          have ek : c.l.take k = c.l := List.take_of_length_le (by rw [← HLN.out]; omega)
          rw [ek] at hR
          refine ⟨st2.useL c.l, ⟨_, ?_, by rw [useL_eq]; exact HL2.out.usedTo _ (useL_len _ _)⟩, HUR2.out.trans (by rw [useL_eq]; exact UseR.used _ _), HBk.out⟩
          have ef : fields (setS sl .used ⟨(sl .used).v, (sl .used).n, boolV (st2.useL c.l).used⟩) (st2.useL c.l) = fields sl st2 := by rw [useL_eq]; simp [fields, setS]
          rw [ef]; exact hR
        clear HRk HBk
        go_wp2
        go_end0
        exact ⟨rfl, HX.out⟩

end Go.Proofs.Ytllaedigdjhkjaa
