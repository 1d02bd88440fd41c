import Derived.Test.YtdbkomgfcgideaaSvN
namespace Go.Proofs.Ytdbkomgfcgideaa
open Go.RowKit Go.Shelf
attribute [local go_sem] Oper.semAt_some wide_fn wide_depth

set_option maxRecDepth 100000 in
set_option maxHeartbeats 16000000 in
theorem valid_shape (B : Nat) (w : World) (S : CnS) (N : CnD) (hs : N.sh.ok = false) (h : CnAt B w S N) (hB : B ≤ w.heap.size) :
    Calls Try.prog 4 #[.agg (S.cells N)] w fun e w' => e = .returned (.bool false) ∧ Below w.heap.size w w' := by
  have IS : Hid (∀ w, Calls Try.prog 7 #[.agg #[.int .i64 N.sh.ins, .int .i64 N.sh.outs, .int .i64 N.sh.regs, .int .i64 N.sh.rows, .int .i64 N.sh.cols]] w fun e w' => e = .returned (.bool false) ∧ Below w.heap.size w w') := fun w => by rw [← hs]; exact isShape_any w N.sh
  unfold CnS.cells
  refine (callsIn_wide (n := 0)).1 ?_
  refine callsIn_of_wp_marks Try.func4 rfl trivial ?_ rfl
  simp only [Try.ntmps4, List.size_toArray, List.length_cons, List.length_nil, Nat.reduceAdd, Nat.reduceSub, Array.replicate_succ, Array.replicate_zero, List.push_toArray, List.append_toArray, List.nil_append, List.cons_append]
  obtain ⟨W0, hW0⟩ : ∃ W0, (w.alloc (.cells #[.int .i64 N.sh.ins, .int .i64 N.sh.outs, .int .i64 N.sh.regs, .int .i64 N.sh.rows, .int .i64 N.sh.cols, .slice S.a1 N.cols.length S.c1, .slice S.a2 N.regs.length S.c2, .slice S.a3 N.outs.length S.c3] 28)).alloc (.cells #[.bool false] 4) = W0 := ⟨_, rfl⟩
  have HW0 := hidden hW0
  have hX0 : BoxAt W0 w.heap.size S N := by rw [← hW0]; exact (BoxAt.new w S N).to (by simp) ((Below.refl _ _).alloc (Nat.le_refl _) _)
  have HB0 : Hid (Below w.heap.size w W0) := by rw [← hW0]; exact ((Below.refl _ _).alloc (Nat.le_refl _) _).alloc (by simp) _
  have HR0 : Hid (W0.cell? ⟨w.heap.size + 1, 0, none⟩ = some (.bool false)) := by show _ = _; rw [← hW0]; simp
  have HRf : Hid (W0.frozen? ⟨w.heap.size + 1, 0, none⟩ = false) := by show _ = _; rw [← hW0]; simp
  have hRs : w.heap.size + 1 < W0.heap.size := by rw [← hW0]; simp
  have HA0 : Hid (CnAt B W0 S N) := h.to (HB0.out.mono hB)
  have HX0 := hidden hX0
  have hwR : w.heap.size < w.heap.size + 1 := by omega
  clear hX0 hW0
  gi_wp2_with (gi_at_call 7; rw [HW0.out]; refine (callsIn_wide.2 (IS.out _)).mono ?_; rintro e v1 ⟨rfl, hb1⟩; have cR := (hb1.cell (p := ⟨w.heap.size + 1, 0, none⟩) hRs).trans HR0.out; have fR := (hb1.frozen (p := ⟨w.heap.size + 1, 0, none⟩) hRs).trans HRf.out)
  have cR' : (v1.setCell ⟨w.heap.size + 1, 0, none⟩ (.bool false)).cell? ⟨w.heap.size + 1, 0, none⟩ = some (.bool false) := World.cell?_setCell_same' _ _ _ (by rw [cR]; rfl)
  refine ⟨.bool false, ?_, rfl, (HB0.out.trans (hb1.mono HB0.out.size)).setCell (p := ⟨w.heap.size + 1, 0, none⟩) (Nat.le_of_lt hwR) _⟩
  simp [results, Try.f4, go_sem, cR']

set_option maxRecDepth 100000 in
set_option maxHeartbeats 16000000 in
theorem valid_comp (B : Nat) (w : World) (S : CnS) (N : CnD) (hs : N.sh.ok = true) (hcp : compOk N = false) (h : CnAt B w S N) (hB : B ≤ w.heap.size) :
    Calls Try.prog 4 #[.agg (S.cells N)] w fun e w' => e = .returned (.bool false) ∧ Below w.heap.size w w' := by
  have IS : Hid (∀ w, Calls Try.prog 7 #[.agg #[.int .i64 N.sh.ins, .int .i64 N.sh.outs, .int .i64 N.sh.regs, .int .i64 N.sh.rows, .int .i64 N.sh.cols]] w fun e w' => e = .returned (.bool true) ∧ Below w.heap.size w w') := fun w => by rw [← hs]; exact isShape_any w N.sh
  unfold CnS.cells
  refine (callsIn_wide (n := 0)).1 ?_
  refine callsIn_of_wp_marks Try.func4 rfl trivial ?_ rfl
  simp only [Try.ntmps4, List.size_toArray, List.length_cons, List.length_nil, Nat.reduceAdd, Nat.reduceSub, Array.replicate_succ, Array.replicate_zero, List.push_toArray, List.append_toArray, List.nil_append, List.cons_append]
  obtain ⟨W0, hW0⟩ : ∃ W0, (w.alloc (.cells #[.int .i64 N.sh.ins, .int .i64 N.sh.outs, .int .i64 N.sh.regs, .int .i64 N.sh.rows, .int .i64 N.sh.cols, .slice S.a1 N.cols.length S.c1, .slice S.a2 N.regs.length S.c2, .slice S.a3 N.outs.length S.c3] 28)).alloc (.cells #[.bool false] 4) = W0 := ⟨_, rfl⟩
  have HW0 := hidden hW0
  have hX0 : BoxAt W0 w.heap.size S N := by rw [← hW0]; exact (BoxAt.new w S N).to (by simp) ((Below.refl _ _).alloc (Nat.le_refl _) _)
  have HB0 : Hid (Below w.heap.size w W0) := by rw [← hW0]; exact ((Below.refl _ _).alloc (Nat.le_refl _) _).alloc (by simp) _
  have HR0 : Hid (W0.cell? ⟨w.heap.size + 1, 0, none⟩ = some (.bool false)) := by show _ = _; rw [← hW0]; simp
  have HRf : Hid (W0.frozen? ⟨w.heap.size + 1, 0, none⟩ = false) := by show _ = _; rw [← hW0]; simp
  have hRs : w.heap.size + 1 < W0.heap.size := by rw [← hW0]; simp
  have HA0 : Hid (CnAt B W0 S N) := h.to (HB0.out.mono hB)
  have HX0 := hidden hX0
  have hwR : w.heap.size < w.heap.size + 1 := by omega
  clear hX0 hW0
  have IC : Hid (∀ v, Below W0.heap.size W0 v → Calls Try.prog 8 #[.pointer (some ⟨w.heap.size, 0, none⟩)] v fun e w' => e = .returned (.bool false) ∧ Below v.heap.size v w') := fun v hv => by
    rw [← hcp]; exact isComplete_any B v S N _ (HA0.out.to (hv.mono (Nat.le_trans hB HB0.out.size))) (HX0.out.to HX0.out.lt hv)
  gi_wp2_with (first | (gi_at_call 7; rw [HW0.out]; refine (callsIn_wide.2 (IS.out _)).mono ?_; rintro e v1 ⟨rfl, hb1⟩; have HB1 := hidden hb1; clear hb1) | (gi_at_call 8; refine (callsIn_wide.2 (IC.out _ HB1.out)).mono ?_; rintro e v2 ⟨rfl, hb2⟩; have HB2 : Hid (Below W0.heap.size W0 v2) := HB1.out.trans (hb2.mono HB1.out.size); clear hb2; have cR := (HB2.out.cell (p := ⟨w.heap.size + 1, 0, none⟩) hRs).trans HR0.out; have fR := (HB2.out.frozen (p := ⟨w.heap.size + 1, 0, none⟩) hRs).trans HRf.out))
  have cR' : (v2.setCell ⟨w.heap.size + 1, 0, none⟩ (.bool false)).cell? ⟨w.heap.size + 1, 0, none⟩ = some (.bool false) := World.cell?_setCell_same' _ _ _ (by rw [cR]; rfl)
  refine ⟨.bool false, ?_, rfl, (HB0.out.trans (HB2.out.mono HB0.out.size)).setCell (p := ⟨w.heap.size + 1, 0, none⟩) (Nat.le_of_lt hwR) _⟩
  simp [results, Try.f4, go_sem, cR']

set_option maxRecDepth 100000 in
set_option maxHeartbeats 16000000 in
theorem valid_rest (B : Nat) (w : World) (S : CnS) (N : CnD) (hs : N.sh.ok = true) (hcp : compOk N = true) (h : CnAt B w S N) (hB : B ≤ w.heap.size) :
    Calls Try.prog 4 #[.agg (S.cells N)] w fun e w' => e = .returned (.bool (okPs (fieldsL N))) ∧ Below w.heap.size w w' := by
  have IS : Hid (∀ w, Calls Try.prog 7 #[.agg #[.int .i64 N.sh.ins, .int .i64 N.sh.outs, .int .i64 N.sh.regs, .int .i64 N.sh.rows, .int .i64 N.sh.cols]] w fun e w' => e = .returned (.bool true) ∧ Below w.heap.size w w') := fun w => by rw [← hs]; exact isShape_any w N.sh
  unfold CnS.cells
  refine (callsIn_wide (n := 0)).1 ?_
  refine callsIn_of_wp_marks Try.func4 rfl trivial ?_ rfl
  simp only [Try.ntmps4, List.size_toArray, List.length_cons, List.length_nil, Nat.reduceAdd, Nat.reduceSub, Array.replicate_succ, Array.replicate_zero, List.push_toArray, List.append_toArray, List.nil_append, List.cons_append]
  obtain ⟨W0, hW0⟩ : ∃ W0, (w.alloc (.cells #[.int .i64 N.sh.ins, .int .i64 N.sh.outs, .int .i64 N.sh.regs, .int .i64 N.sh.rows, .int .i64 N.sh.cols, .slice S.a1 N.cols.length S.c1, .slice S.a2 N.regs.length S.c2, .slice S.a3 N.outs.length S.c3] 28)).alloc (.cells #[.bool false] 4) = W0 := ⟨_, rfl⟩
  have HW0 := hidden hW0
  have hX0 : BoxAt W0 w.heap.size S N := by rw [← hW0]; exact (BoxAt.new w S N).to (by simp) ((Below.refl _ _).alloc (Nat.le_refl _) _)
  have HB0 : Hid (Below w.heap.size w W0) := by rw [← hW0]; exact ((Below.refl _ _).alloc (Nat.le_refl _) _).alloc (by simp) _
  have HR0 : Hid (W0.cell? ⟨w.heap.size + 1, 0, none⟩ = some (.bool false)) := by show _ = _; rw [← hW0]; simp
  have HRf : Hid (W0.frozen? ⟨w.heap.size + 1, 0, none⟩ = false) := by show _ = _; rw [← hW0]; simp
  have hRs : w.heap.size + 1 < W0.heap.size := by rw [← hW0]; simp
  have HA0 : Hid (CnAt B W0 S N) := h.to (HB0.out.mono hB)
  have HX0 := hidden hX0
  have hwR : w.heap.size < w.heap.size + 1 := by omega
  clear hX0 hW0
  have IC : Hid (∀ v, Below W0.heap.size W0 v → Calls Try.prog 8 #[.pointer (some ⟨w.heap.size, 0, none⟩)] v fun e w' => e = .returned (.bool true) ∧ Below v.heap.size v w') := fun v hv => by
    rw [← hcp]; exact isComplete_any B v S N _ (HA0.out.to (hv.mono (Nat.le_trans hB HB0.out.size))) (HX0.out.to HX0.out.lt hv)
  gi_wp2_with (first | (gi_at_call 7; rw [HW0.out]; refine (callsIn_wide.2 (IS.out _)).mono ?_; rintro e v1 ⟨rfl, hb1⟩; have HB1 := hidden hb1; clear hb1) | (gi_at_call 8; refine (callsIn_wide.2 (IC.out _ HB1.out)).mono ?_; rintro e v2 ⟨rfl, hb2⟩; have HB2 : Hid (Below W0.heap.size W0 v2) := HB1.out.trans (hb2.mono HB1.out.size); clear hb2) | (gi_at_call 9; refine (callsIn_wide.2 (maker_fields _ _)).mono ?_; rintro e v3 ⟨rfl, h3⟩; have HV3 := hidden h3; clear h3))
  have hb3 : Below W0.heap.size W0 v3 := by rw [HV3.out]; exact HB2.out.alloc HB2.out.size _
  have hfb : v2.heap.size < v3.heap.size := by rw [HV3.out]; simp
  have c3 : v3.cell? ⟨v2.heap.size, 0, none⟩ = some (.pointer (some ⟨w.heap.size, 0, none⟩)) := by rw [HV3.out]; simp
  have hw3 : w.heap.size ≤ v3.heap.size := Nat.le_trans HB0.out.size hb3.size
  have hR3 : w.heap.size + 1 < v3.heap.size := Nat.lt_of_lt_of_le hRs hb3.size
  have HIT := hidden (fields_it B v3 S N v2.heap.size w.heap.size hfb (Nat.le_trans hB hw3) (HA0.out.to (hb3.mono (Nat.le_trans hB HB0.out.size))) (ShD.fits_of hs) (HX0.out.to HX0.out.lt hb3) c3)
  have HB3 : Hid (Below w.heap.size w v3) := HB0.out.trans (hb3.mono HB0.out.size)
  have HC3 : Hid (v3.cell? ⟨w.heap.size + 1, 0, none⟩ = some (.bool false)) := (hb3.cell (p := ⟨w.heap.size + 1, 0, none⟩) hRs).trans HR0.out
  have HF3 : Hid (v3.frozen? ⟨w.heap.size + 1, 0, none⟩ = false) := (hb3.frozen (p := ⟨w.heap.size + 1, 0, none⟩) hRs).trans HRf.out
  clear hb3 c3 hfb HB2 HB1 HV3 HB0 HR0 HRf hRs HA0 HX0 HW0 IC IS h hs hcp hB
  generalize v2.heap.size = fb at *
  obtain ⟨pg, hpg⟩ : ∃ x, x = w.heap.size := ⟨_, rfl⟩
  obtain ⟨R, hR⟩ : ∃ x, x = w.heap.size + 1 := ⟨_, rfl⟩
  have HRW := hidden (show w.heap.size ≤ R by omega)
  rw [← hR] at HC3 HF3 hR3 ⊢
  rw [← hpg]
  clear hR hpg hwR hw3
  have hset : ∀ (V : World) (k : Nat), v3.heap.size ≤ k → (V.setCell ⟨R, 0, none⟩ (.bool false)).heap[k]? = V.heap[k]? := fun V k hk => Below.heap_setCell V ⟨R, 0, none⟩ _ k (by show k ≠ R; omega)
  refine rangeV (gf := 13) (lb := #[.pointer (some ⟨fb, 0, none⟩)]) rfl (enters_of Try.func13 (by kernel_rfl) rfl) rfl (fieldsL N) HIT.out (fun V => V.setCell ⟨R, 0, none⟩ (.bool false)) (fun V _ => by simp [World.setCell]) (fun V _ k hk => hset V k hk) (fun n c => { tmps := #[.agg #[.int .i64 N.sh.ins, .int .i64 N.sh.outs, .int .i64 N.sh.regs, .int .i64 N.sh.rows, .int .i64 N.sh.cols, .slice S.a1 N.cols.length S.c1, .slice S.a2 N.regs.length S.c2, .slice S.a3 N.outs.length S.c3], .pointer (some ⟨pg, 0, none⟩), .pointer (some ⟨R, 0, none⟩), .int .i64 n, .int .i64 c, .pointer (some ⟨pg, 0, none⟩), .agg #[.int .i64 N.sh.ins, .int .i64 N.sh.outs, .int .i64 N.sh.regs, .int .i64 N.sh.rows, .int .i64 N.sh.cols], .bool true, .bool false, .bool false, .bool true, .bool false, .bool false, .func (.func 13) #[] #[.pointer (some ⟨fb, 0, none⟩)], .int .i64 n, .int .i64 c, undef, undef, undef, undef, undef, undef, undef], defers := [] }) ?assign ?go ?no ?done ?stop
  case assign =>
    intro l n c W m K hK
    gi_wp2
    exact hK
  case go =>
    intro l n c W m hW ho
    have ho' : 0 ≤ n ∧ n < c := by simpa [okP] using ho
    have o1 : decide (n < 0) = false := decide_eq_false (by omega)
    have o2 : decide (c ≤ n) = false := decide_eq_false (by omega)
    clear ho ho' hset
    gi_wp2
  case no =>
    intro l n c W m hW ho
    have cW : W.cell? ⟨R, 0, none⟩ = some (.bool false) := (hW.cell (p := ⟨R, 0, none⟩) hR3).trans HC3.out
    have fW : W.frozen? ⟨R, 0, none⟩ = false := (hW.frozen (p := ⟨R, 0, none⟩) hR3).trans HF3.out
    clear hset hW
    by_cases o0 : n < 0
    · gi_wp2
    · have o1 : decide (n < 0) = false := decide_eq_false o0
      have o2 : c ≤ n := by
        by_cases o : n < c
        · simp [okP, o, Int.not_lt.1 o0] at ho
        · omega
      gi_wp2
  case done =>
    intro ho W hW hD
    have cW : W.cell? ⟨R, 0, none⟩ = some (.bool false) := (hW.cell (p := ⟨R, 0, none⟩) hR3).trans HC3.out
    have fW : W.frozen? ⟨R, 0, none⟩ = false := (hW.frozen (p := ⟨R, 0, none⟩) hR3).trans HF3.out
    have hD' : (W.setCell ⟨R, 0, none⟩ (.bool true)).heap[v3.heap.size]? = some (.deferred (some [])) := (Below.heap_setCell W ⟨R, 0, none⟩ _ _ (by show v3.heap.size ≠ R; omega)).trans hD
    have cR' : ((W.setCell ⟨R, 0, none⟩ (.bool true)).putObj v3.heap.size (.deferred none)).cell? ⟨R, 0, none⟩ = some (.bool true) :=
      ((putObj_below (B := v3.heap.size) (Below.refl _ _) (Nat.le_refl _) _).cell (p := ⟨R, 0, none⟩) hR3).trans (World.cell?_setCell_same' _ _ _ (by rw [cW]; rfl))
    have HBE : Hid (Below w.heap.size w ((W.setCell ⟨R, 0, none⟩ (.bool true)).putObj v3.heap.size (.deferred none))) :=
      putObj_below ((HB3.out.trans (hW.mono HB3.out.size)).setCell (p := ⟨R, 0, none⟩) HRW.out _) HB3.out.size _
    have HD' := hidden hD'
    have HCR := hidden cR'
    clear hset hW hD hD' cR'
    gi_wp2
    refine ⟨by simp, .inl ⟨_, _, rfl, run_takeDeferred HD'.out, .bool true, ?_, by rw [ho], HBE.out⟩⟩
    simp [results, Try.f4, go_sem, HCR.out]
  case stop =>
    intro ho U W hU hW hD
    have cU : U.cell? ⟨R, 0, none⟩ = some (.bool false) := (hU.cell (p := ⟨R, 0, none⟩) hR3).trans HC3.out
    have cW : W.cell? ⟨R, 0, none⟩ = some (.bool false) := (hW.cell (p := ⟨R, 0, none⟩) hR3).trans (World.cell?_setCell_same' _ _ _ (by rw [cU]; rfl))
    have cR' : (W.putObj v3.heap.size (.deferred none)).cell? ⟨R, 0, none⟩ = some (.bool false) :=
      ((putObj_below (B := v3.heap.size) (Below.refl _ _) (Nat.le_refl _) _).cell (p := ⟨R, 0, none⟩) hR3).trans cW
    have HBE : Hid (Below w.heap.size w (W.putObj v3.heap.size (.deferred none))) :=
      putObj_below (((HB3.out.trans (hU.mono HB3.out.size)).setCell (p := ⟨R, 0, none⟩) HRW.out _).trans (hW.mono HB3.out.size)) HB3.out.size _
    have HD := hidden hD
    have HCR := hidden cR'
    clear hset hW hD cR' cW cU hU
    gi_wp2
    refine ⟨by simp, .inl ⟨_, _, rfl, run_takeDeferred HD.out, .bool false, ?_, by rw [ho], HBE.out⟩⟩
    simp [results, Try.f4, go_sem, HCR.out]

end Go.Proofs.Ytdbkomgfcgideaa
