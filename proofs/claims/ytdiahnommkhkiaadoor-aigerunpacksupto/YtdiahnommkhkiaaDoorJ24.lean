import Derived.Test.YtdiahnommkhkiaaDoorJ23
namespace Go.Proofs.YtdiahnommkhkiaaDoor
open Go.RowKit

theorem word_by (w : World) : Calls Tryd.prog 54 #[.int .i64 1] w fun e w' => e = .returned (.string ⟨#[97, 105, 103]⟩) ∧ w' = w := by
  go_enter Tryd.func54, Tryd.ntmps54
  go_wp2
  go_ret
  exact ⟨rfl, rfl⟩
/-- the first line, of bytes -/
def HeadLB (a : List UInt8) (h : Int × Int × Int × Int × Int) : Prop := (Lib.cut a [32]).1 = [97, 105, 103] ∧ (pcs 32 (Lib.cut a [32]).2.1).all numOk = true ∧ (pcs 32 (Lib.cut a [32]).2.1).map numV = [h.1, h.2.1, h.2.2.1, h.2.2.2.1, h.2.2.2.2] ∧ rightH h
theorem headB_not {T : List UInt8} {a : List UInt8} (hL : lineAt T 0 = some a) (hn : ¬ ∃ h, HeadLB a h) : ¬ ∃ a h, lineAt T 0 = some a ∧ HeadLB a h := by
  rintro ⟨b, h, h1, h2⟩
  rw [hL] at h1; cases h1
  exact hn ⟨h, h2⟩
theorem headB_none {T : List UInt8} (hL : lineAt T 0 = none) : ¬ ∃ a h, lineAt T 0 = some a ∧ HeadLB a h := by
  rintro ⟨b, h, h1, h2⟩
  rw [hL] at h1; cases h1
set_option maxRecDepth 100000 in
set_option maxHeartbeats 4000000 in
theorem readHead_by (r : Nat) (T : List UInt8) (hz : Int × Int × Int × Int × Int) (w : World) (x : ByAt w r T 0 hz) (hv : Vars w) (hr2 : 2 ≤ r) :
    Calls Tryd.prog 39 #[.pointer (some ⟨r, 0, none⟩)] w fun e w' =>
      (∃ a h, lineAt T 0 = some a ∧ HeadLB a h ∧ e = .returned (.tuple #[]) ∧ ByAt w' r T (a.length + 1) h ∧ w.grownBy w' (some r)) ∨ ((¬ ∃ a h, lineAt T 0 = some a ∧ HeadLB a h) ∧ Thr w r 0 e w') := by
  have hlt : r < w.heap.size := x.lt
  have HLN : Hid (T.length ≤ 1048576) := x.len
  have HV := hidden hv
  have H2 : Hid (2 ≤ w.heap.size) := by show _ ≤ _; omega
  have B0 := hidden (begin_by r T 0 hz w x)
  clear x hv
  go_enter Tryd.func39, Tryd.ntmps39
  go_wp2_with fail
  go_at_call 50
  refine B0.out.mono ?_
  rintro e w1 ⟨rfl, hr1, hg1⟩
  have HG1 := hidden hg1
  have L1 := hidden (line_by r T 0 hz _ w1 hr1 (Nat.zero_le _) HLN.out (HV.out.grown hg1 hr2 H2.out))
  clear hr1 hg1 B0
  go_wp2_with fail
  go_at_call 52
  refine L1.out.mono ?_
  rintro e w2 (⟨a, q1, rfl, q3, q3l, q4⟩ | ⟨q1, p0, rfl, hp1, hp2, hp3⟩)
  · have HL := hidden q1
    obtain ⟨ln, hln, q3⟩ := q3
    have HLN2 := hidden hln
    have HR2 := hidden q3
    clear hln
    have HG2 : Hid (w.grownBy w2 (some r)) := grown_trans HG1.out q4
    have hal : a.length ≤ 1048576 := by have h3 := HLN.out; omega
    have HLE := hidden q3l
    have CU := hidden (cut_any a 32 (by omega) w2 (HV.out.grown HG2.out hr2 H2.out))
    have hcl := cut_len a 32
    have HHL : Hid (∀ h, HeadLB a h ↔ ((Lib.cut a [32]).1 = [97, 105, 103] ∧ (pcs 32 (Lib.cut a [32]).2.1).all numOk = true ∧ (pcs 32 (Lib.cut a [32]).2.1).map numV = [h.1, h.2.1, h.2.2.1, h.2.2.2.1, h.2.2.2.2] ∧ rightH h)) := fun h => Iff.rfl
    generalize (Lib.cut a [32]).1 = t1 at *
    generalize (Lib.cut a [32]).2.1 = t2 at *
    generalize (Lib.cut a [32]).2.2 = t3 at *
    clear q1 q3 q3l q4 L1
    generalize bs a = sa at *
    go_wp2_with fail
    go_at_call 51
    refine CU.out.mono ?_
    rintro e w3 ⟨rfl, hb3⟩
    have HR3 := hidden (HR2.out.to hb3)
    have HG3 : Hid (w.grownBy w3 (some r)) := grown_trans HG2.out (gbel hb3 _)
    have HV3 := hidden (HV.out.grown HG3.out hr2 H2.out)
    obtain ⟨R3, hR3⟩ : ∃ R3 : RdS, R3 = ⟨1, hz.1, hz.2.1, hz.2.2.1, hz.2.2.2.1, hz.2.2.2.2, T, ((0 + a.length + 1 : Nat) : Int), (ln : Int), ((0 : Nat) : Int)⟩ := ⟨_, rfl⟩
    rw [← hR3] at HR3
    have HBG : Hid (R3.bg = 0) := by rw [hR3]; rfl
    have HRT : Hid (∀ x0 x1 x2 x3 x4, ({ R3 with h0 := x0, h1 := x1, h2 := x2, h3 := x3, h4 := x4 } : RdS) = ⟨1, x0, x1, x2, x3, x4, T, ((0 + a.length + 1 : Nat) : Int), (ln : Int), ((0 : Nat) : Int)⟩) := fun x0 x1 x2 x3 x4 => by rw [hR3]
    have hL0 : R3.lay = 1 := by rw [hR3]
    have c0 : w3.cell? ⟨r, 0, none⟩ = some (.int .i64 1) := by have := HR3.out.cell 0; rw [← hL0]; exact this
    have WD := hidden (word_by w3)
    have hce : ((bs t1).toList == [97, 105, 103]) = decide (t1 = [97, 105, 103]) := by rw [bs_toList]; by_cases hx : t1 = [97, 105, 103] <;> simp [hx]
    have MU := hidden (must_any r _ (decide (t1 = [97, 105, 103])) w3 HR3.out)
    have NO := hidden (fun w' (hb : Below w3.heap.size w3 w') => numbersOf_any r _ t2 5 5 w' (HR3.out.to hb) (HV3.out.to hb (by have := HG3.out.size; have := H2.out; omega)) (by omega) (by decide))
    clear hb3 CU HR2
    generalize bs t1 = s1 at *
    generalize bs t2 = s2 at *
    by_cases hw : t1 = [97, 105, 103]
    · have hd : decide (t1 = [97, 105, 103]) = true := by simp [hw]
      rw [hd] at MU hce
      go_wp2_with fail
      go_at_call 54
      refine WD.out.mono ?_
      rintro e w3' ⟨rfl, rfl⟩
      go_wp2_with fail
      go_at_call 53
      refine MU.out.mono ?_
      rintro e w3'' hc
      obtain ⟨he3, hw3⟩ : e = .returned (.tuple #[]) ∧ w3'' = w3' := by
        rcases hc with ⟨-, h1, h2⟩ | ⟨hf, -⟩
        · exact ⟨h1, h2⟩
        · cases hf
      subst he3
      subst hw3
      clear hc MU WD c0
      by_cases hno : NumsOk t2 5 5
      · obtain ⟨x0, x1, x2, x3, x4, hxs⟩ : ∃ x0 x1 x2 x3 x4, (pcs 32 t2).map numV = [x0, x1, x2, x3, x4] := by
          have h5 : ((pcs 32 t2).map numV).length = 5 := by have := hno.1; have := hno.2.1; simp; omega
          match hh : (pcs 32 t2).map numV, h5 with
          | [x0, x1, x2, x3, x4], _ => exact ⟨x0, x1, x2, x3, x4, rfl⟩
        have HXS := hidden hxs
        have hsmall : smallH (x0, x1, x2, x3, x4) := by
          have hb : ∀ x, x ∈ [x0, x1, x2, x3, x4] → 0 ≤ x ∧ x < 1000000000 := fun x hx => by
            rw [← hxs] at hx
            exact val_bound hno.2.2 x hx
          exact ⟨hb _ (by simp), hb _ (by simp), hb _ (by simp), hb _ (by simp), hb _ (by simp)⟩
        have HSM := hidden hsmall
        have HYOK : Hid (∀ e w4, ((NumsOk t2 5 5 ∧ ∃ v, e = .returned v ∧ w4.ownsRow w3''.drew.heap.size 3 1 v (pcs 32 t2).length ((pcs 32 t2).map nV) ∧ Below w3''.drew.heap.size w3''.drew w4) ∨ (¬ NumsOk t2 5 5 ∧ Thr w3''.drew r R3.bg e w4)) → ∃ lb lc, e = .returned (.slice (some ⟨lb, 0, none⟩) 5 lc) ∧ lb < w4.heap.size ∧ (∀ (j : Nat) (v : Value), [iV x0, iV x1, iV x2, iV x3, iV x4][j]? = some v → w4.cell? ((⟨lb, 0, none⟩ : Addr).add j) = some v) ∧ Below w3''.heap.size w3'' w4) := fun e w4 hc => by
          rcases hc with ⟨_, v, rfl, ho, hb⟩ | ⟨hf, _⟩
          · have ho2 : w4.ownsRow w3''.drew.heap.size 3 1 v 5 ([x0, x1, x2, x3, x4].map iV) := by
              rw [← hxs, List.map_map]
              have h5 : (pcs 32 t2).length = 5 := by have := hno.1; have := hno.2.1; omega
              rw [h5] at ho
              exact ho
            obtain ⟨lb, lc, rfl, -, hlb2, -, hel⟩ := row_els ho2 (by simp)
            refine ⟨lb, lc, rfl, hlb2, fun j v hj => ?_, (Below.drew (Below.refl w3''.heap.size w3'')).trans hb⟩
            rw [add0]
            obtain ⟨y, hy, rfl⟩ : ∃ y, [x0, x1, x2, x3, x4][j]? = some y ∧ v = iV y := by
              have : ([x0, x1, x2, x3, x4].map iV)[j]? = some v := hj
              rw [List.getElem?_map] at this
              cases hq : [x0, x1, x2, x3, x4][j]? with
              | none => rw [hq] at this; simp at this
              | some y => rw [hq] at this; simp at this; exact ⟨y, rfl, this.symm⟩
            exact hel j y hy
          · exact absurd hno hf
        go_wp2_with fail
        (
        refine wp_region_held_drew (S := (fun _ => True)) (by kernel_rfl) (by trivial) (fun hHeld => ?_)
        refine wpAnyH_take (i := 0) (oi := _) (v := ?_) rfl (by kernel_rfl) (by kernel_rfl) (by kernel_rfl) (fun _ _ _ h => h) (Or.inl ⟨by rfl, ?_⟩) (by assumption) ?_
        rotate_left
        · (intro w0 hSw; (try dsimp only at hSw); (try simp only [List.getElem_toArray, List.getElem_cons_zero]); go_simp; try (with_reducible rfl))
        try simp only [Act.put, List.getElem_toArray, List.getElem_cons_zero, List.setIfInBounds_toArray, List.set_cons_zero, List.set_cons_succ]
        refine wpAnyH_take (i := 1) (oi := _) (v := ?_) rfl (by kernel_rfl) (by kernel_rfl) (by kernel_rfl) (fun _ _ _ h => h) (Or.inl ⟨by rfl, ?_⟩) (by assumption) ?_
        rotate_left
        · (intro w0 hSw; (try dsimp only at hSw); (try simp only [List.getElem_toArray, List.getElem_cons_zero, List.getElem_cons_succ]); go_simp; try (with_reducible rfl))
        try simp only [Act.put, List.getElem_toArray, List.getElem_cons_zero, List.getElem_cons_succ, List.setIfInBounds_toArray, List.set_cons_zero, List.set_cons_succ]
        refine wpAnyH_take (i := 2) (oi := _) (v := ?_) rfl (by kernel_rfl) (by kernel_rfl) (by kernel_rfl) (fun _ _ _ h => h) (Or.inl ⟨by rfl, ?_⟩) (by assumption) ?_
        rotate_left
        · (intro w0 hSw; (try dsimp only at hSw); (try simp only [List.getElem_toArray, List.getElem_cons_zero, List.getElem_cons_succ]); go_simp; try (with_reducible rfl))
        try simp only [Act.put, List.getElem_toArray, List.getElem_cons_zero, List.getElem_cons_succ, List.setIfInBounds_toArray, List.set_cons_zero, List.set_cons_succ]
        refine wpAnyH_take (i := 3) (oi := _) (v := ?_) rfl (by kernel_rfl) (by kernel_rfl) (by kernel_rfl) (fun _ _ _ h => h) (Or.inl ⟨by rfl, ?_⟩) (by assumption) ?_
        rotate_left
        · (intro w0 hSw; (try dsimp only at hSw); (try simp only [List.getElem_toArray, List.getElem_cons_zero, List.getElem_cons_succ]); go_simp; try (with_reducible rfl))
        try simp only [Act.put, List.getElem_toArray, List.getElem_cons_zero, List.getElem_cons_succ, List.setIfInBounds_toArray, List.set_cons_zero, List.set_cons_succ]
        refine wpAnyH_take (i := 4) (oi := _) (v := ?_) rfl (by kernel_rfl) (by kernel_rfl) (by kernel_rfl) (fun _ _ _ h => h) (Or.inl ⟨by rfl, ?_⟩) (by assumption) ?_
        rotate_left
        · (intro w0 hSw; (try dsimp only at hSw); (try simp only [List.getElem_toArray, List.getElem_cons_zero, List.getElem_cons_succ]); go_simp; try (with_reducible rfl))
        try simp only [Act.put, List.getElem_toArray, List.getElem_cons_zero, List.getElem_cons_succ, List.setIfInBounds_toArray, List.set_cons_zero, List.set_cons_succ]
        refine wpAnyH_take (i := 5) (oi := _) (v := ?_) rfl (by kernel_rfl) (by kernel_rfl) (by kernel_rfl) (fun _ _ _ h => h) (Or.inl ⟨by rfl, ?_⟩) (by assumption) ?_
        rotate_left
        · (intro w0 hSw; (try dsimp only at hSw); (try simp only [List.getElem_toArray, List.getElem_cons_zero, List.getElem_cons_succ]); go_simp; try (with_reducible rfl))
        try simp only [Act.put, List.getElem_toArray, List.getElem_cons_zero, List.getElem_cons_succ, List.setIfInBounds_toArray, List.set_cons_zero, List.set_cons_succ]
        refine wpAnyH_ready (rs := [6]) (by kernel_rfl) (by simp) ?_
        refine AllReadyH.cons (o := _) rfl (fun K hK => ?_) AllReadyH.nil
        (try simp only [List.getElem_toArray, List.getElem_cons_zero, List.getElem_cons_succ])
        go_simp
        go_at_call 55
        refine (NO.out _ (Below.drew (Below.refl _ _))).mono ?_
        rintro e w4 hc
        obtain ⟨lb, lc, rfl, hlb2, hel, hb4⟩ := HYOK.out e w4 hc
        have HB4 := hidden hb4
        go_wp2_with fail
        refine hK.out _ _ (by trivial) (fun hHeld1 => ?_)
        clear hK K
        try simp only [Act.put, List.setIfInBounds_toArray, List.set_cons_zero, List.set_cons_succ]
        refine wpAnyH_ready (rs := [7]) (by kernel_rfl) (by simp) ?_
        refine AllReadyH.cons (o := _) rfl (fun K hK => ?_) AllReadyH.nil
        refine step_copy_grown rfl (.tmp 26) (.tmp 29) 26 26 rfl 3 Tryd.underlying26 int_size _ _ _ _ _ _ rfl rfl r 1 (RdS.cells R3).toList 81 (HR3.out.to hb4).list [iV x0, iV x1, iV x2, iV x3, iV x4] rfl (fun _ => ⟨rfl, _, rfl, hel⟩) (by simp [RdS.cells]) (by simp [iV, Value.oneCell']) ?_
        intro w5 hg5 hr5
        refine hK.out _ _ (by trivial) (fun hHeld2 => ?_)
        clear hK K
        try simp only [Act.put, List.setIfInBounds_toArray]
        refine wpAnyH_done (by kernel_rfl) ?_ _
        )
        have HR5 : Hid (RdAt w5 r { R3 with h0 := x0, h1 := x1, h2 := x2, h3 := x3, h4 := x4 }) := by
          have := hg5.out
          unfold RdAt
          rw [this]
          rfl
        have HG5 : Hid (w.grownBy w5 (some r)) := grown_trans HG3.out (grown_trans (gbel HB4.out _) hr5)
        have IR := hidden (isRight_any r 1 (x0, x1, x2, x3, x4) w5 HR5.out.head HSM.out)
        obtain ⟨gr, HGR⟩ : ∃ g, Hid (decide (rightH (x0, x1, x2, x3, x4)) = g) := ⟨_, rfl⟩
        rw [HGR.out] at IR
        have HB45 := hidden hb4
        clear hg5 hr5 hb4 hel NO HYOK
        try clear hHeld
        try clear hHeld1
        try clear hHeld2
        go_wp2_with fail
        go_at_call 56
        refine IR.out.mono ?_
        rintro e w6 ⟨rfl, hb6⟩
        have HR6 := hidden (HR5.out.to hb6)
        have HG6 : Hid (w.grownBy w6 (some r)) := grown_trans HG5.out (gbel hb6 _)
        have MU2 := hidden (must_any r _ gr w6 HR6.out)
        clear hb6 IR
        go_wp2_with fail
        go_at_call 53
        refine MU2.out.mono ?_
        rintro e w7 hc
        cases gr
        · obtain ⟨p0, rfl, hp1, hp2, hp3⟩ : Thr w6 r 0 e w7 := by
            rcases hc with ⟨hf, -⟩ | ⟨-, hc⟩
            · cases hf
            · have h2 : Thr w6 r R3.bg e w7 := hc
              rw [HBG.out] at h2
              exact h2
          have H1 := hidden hp1
          have H2' := hidden hp2
          have H3 := hidden hp3
          have HNO : Hid (¬ ∃ a h, lineAt T 0 = some a ∧ HeadLB a h) := by
            refine headB_not HL.out ?_
            rintro ⟨h, hh⟩
            rw [HHL.out] at hh
            have h1 := hh.2.2.1
            rw [HXS.out] at h1
            simp at h1
            obtain ⟨e0, e1, e2, e3, e4⟩ := h1
            have hr := hh.2.2.2
            rw [show h = (x0, x1, x2, x3, x4) by rw [e0, e1, e2, e3, e4]] at hr
            have := HGR.out
            simp at this
            exact this hr
          clear hp1 hp2 hp3 MU2
          unfold thrown
          go_wp2
          have hTh : Thr w r 0 (thrown p0) w7 := ⟨p0, rfl, H1.out, Nat.le_trans HG6.out.size H2'.out, grown_trans HG6.out H3.out⟩
          first | exact ⟨rfl, Or.inr ⟨HNO.out, hTh⟩⟩ | exact Or.inr ⟨HNO.out, hTh⟩
        · obtain ⟨he7, hw7⟩ : e = .returned (.tuple #[]) ∧ w7 = w6 := by
            rcases hc with ⟨-, h1, h2⟩ | ⟨hf, -⟩
            · exact ⟨h1, h2⟩
            · cases hf
          subst he7
          subst hw7
          have HHD : Hid (HeadLB a (x0, x1, x2, x3, x4)) := by
            show HeadLB _ _
            rw [HHL.out]
            exact ⟨hw, hno.2.2, HXS.out, by have := HGR.out; simpa using this⟩
          have HT7 : Hid (ByAt w7 r T (a.length + 1) (x0, x1, x2, x3, x4)) := ⟨⟨_, ln, by have := HLN2.out; omega, by have := HR6.out; rw [HRT.out, Nat.zero_add] at this; exact this⟩, by have := HLE.out; omega, HLN.out⟩
          clear hc MU2
          go_wp2
          go_end0
          exact Or.inl ⟨a, _, HL.out, HHD.out, rfl, HT7.out, HG6.out⟩
      · have HNOK : Hid (∀ e w4, ((NumsOk t2 5 5 ∧ ∃ v, e = .returned v ∧ w4.ownsRow w3''.drew.heap.size 3 1 v (pcs 32 t2).length ((pcs 32 t2).map nV) ∧ Below w3''.drew.heap.size w3''.drew w4) ∨ (¬ NumsOk t2 5 5 ∧ Thr w3''.drew r R3.bg e w4)) → Thr w3'' r 0 e w4) := fun e w4 hc => by
          rcases hc with ⟨hf, _⟩ | ⟨_, hth⟩
          · exact absurd hf hno
          · rw [HBG.out] at hth
            obtain ⟨p, h1, h2, h3, h4⟩ := hth
            exact ⟨p, h1, h2, h3, grown_of_drew h4⟩
        have HNO : Hid (¬ ∃ a h, lineAt T 0 = some a ∧ HeadLB a h) := by
          refine headB_not HL.out ?_
          rintro ⟨h, hh⟩
          rw [HHL.out] at hh
          have h5 := congrArg List.length hh.2.2.1
          simp at h5
          exact hno ⟨by omega, by omega, hh.2.1⟩
        go_wp2_with fail
        (
        refine wp_region_held_drew (S := (fun _ => True)) (by kernel_rfl) (by trivial) (fun hHeld => ?_)
        refine wpAnyH_take (i := 0) (oi := _) (v := ?_) rfl (by kernel_rfl) (by kernel_rfl) (by kernel_rfl) (fun _ _ _ h => h) (Or.inl ⟨by rfl, ?_⟩) (by assumption) ?_
        rotate_left
        · (intro w0 hSw; (try dsimp only at hSw); (try simp only [List.getElem_toArray, List.getElem_cons_zero]); go_simp; try (with_reducible rfl))
        try simp only [Act.put, List.getElem_toArray, List.getElem_cons_zero, List.setIfInBounds_toArray, List.set_cons_zero, List.set_cons_succ]
        refine wpAnyH_take (i := 1) (oi := _) (v := ?_) rfl (by kernel_rfl) (by kernel_rfl) (by kernel_rfl) (fun _ _ _ h => h) (Or.inl ⟨by rfl, ?_⟩) (by assumption) ?_
        rotate_left
        · (intro w0 hSw; (try dsimp only at hSw); (try simp only [List.getElem_toArray, List.getElem_cons_zero, List.getElem_cons_succ]); go_simp; try (with_reducible rfl))
        try simp only [Act.put, List.getElem_toArray, List.getElem_cons_zero, List.getElem_cons_succ, List.setIfInBounds_toArray, List.set_cons_zero, List.set_cons_succ]
        refine wpAnyH_take (i := 2) (oi := _) (v := ?_) rfl (by kernel_rfl) (by kernel_rfl) (by kernel_rfl) (fun _ _ _ h => h) (Or.inl ⟨by rfl, ?_⟩) (by assumption) ?_
        rotate_left
        · (intro w0 hSw; (try dsimp only at hSw); (try simp only [List.getElem_toArray, List.getElem_cons_zero, List.getElem_cons_succ]); go_simp; try (with_reducible rfl))
        try simp only [Act.put, List.getElem_toArray, List.getElem_cons_zero, List.getElem_cons_succ, List.setIfInBounds_toArray, List.set_cons_zero, List.set_cons_succ]
        refine wpAnyH_take (i := 3) (oi := _) (v := ?_) rfl (by kernel_rfl) (by kernel_rfl) (by kernel_rfl) (fun _ _ _ h => h) (Or.inl ⟨by rfl, ?_⟩) (by assumption) ?_
        rotate_left
        · (intro w0 hSw; (try dsimp only at hSw); (try simp only [List.getElem_toArray, List.getElem_cons_zero, List.getElem_cons_succ]); go_simp; try (with_reducible rfl))
        try simp only [Act.put, List.getElem_toArray, List.getElem_cons_zero, List.getElem_cons_succ, List.setIfInBounds_toArray, List.set_cons_zero, List.set_cons_succ]
        refine wpAnyH_take (i := 4) (oi := _) (v := ?_) rfl (by kernel_rfl) (by kernel_rfl) (by kernel_rfl) (fun _ _ _ h => h) (Or.inl ⟨by rfl, ?_⟩) (by assumption) ?_
        rotate_left
        · (intro w0 hSw; (try dsimp only at hSw); (try simp only [List.getElem_toArray, List.getElem_cons_zero, List.getElem_cons_succ]); go_simp; try (with_reducible rfl))
        try simp only [Act.put, List.getElem_toArray, List.getElem_cons_zero, List.getElem_cons_succ, List.setIfInBounds_toArray, List.set_cons_zero, List.set_cons_succ]
        refine wpAnyH_take (i := 5) (oi := _) (v := ?_) rfl (by kernel_rfl) (by kernel_rfl) (by kernel_rfl) (fun _ _ _ h => h) (Or.inl ⟨by rfl, ?_⟩) (by assumption) ?_
        rotate_left
        · (intro w0 hSw; (try dsimp only at hSw); (try simp only [List.getElem_toArray, List.getElem_cons_zero, List.getElem_cons_succ]); go_simp; try (with_reducible rfl))
        try simp only [Act.put, List.getElem_toArray, List.getElem_cons_zero, List.getElem_cons_succ, List.setIfInBounds_toArray, List.set_cons_zero, List.set_cons_succ]
        refine wpAnyH_ready (rs := [6]) (by kernel_rfl) (by simp) ?_
        refine AllReadyH.cons (o := _) rfl (fun K hK => ?_) AllReadyH.nil
        (try simp only [List.getElem_toArray, List.getElem_cons_zero, List.getElem_cons_succ])
        go_simp
        go_at_call 55
        refine (NO.out _ (Below.drew (Below.refl _ _))).mono ?_
        rintro e w4 hc
        obtain ⟨p0, rfl, hp1, hp2, hp3⟩ : Thr w3'' r 0 e w4 := HNOK.out e w4 hc
        unfold thrown
        go_wp2
        )
        have H1 := hidden hp1
        have H2' := hidden hp2
        have H3 := hidden hp3
        have hTh : Thr w r 0 (thrown p0) w4 := ⟨p0, rfl, H1.out, Nat.le_trans HG3.out.size H2'.out, grown_trans HG3.out H3.out⟩
        first | exact ⟨rfl, Or.inr ⟨HNO.out, hTh⟩⟩ | exact Or.inr ⟨HNO.out, hTh⟩
    · have hd : decide (t1 = [97, 105, 103]) = false := by simp [hw]
      rw [hd] at MU hce
      have HNO : Hid (¬ ∃ a h, lineAt T 0 = some a ∧ HeadLB a h) := by
        refine headB_not HL.out ?_
        rintro ⟨h, hh⟩
        rw [HHL.out] at hh
        exact hw hh.1
      go_wp2_with fail
      go_at_call 54
      refine WD.out.mono ?_
      rintro e w3' ⟨rfl, rfl⟩
      go_wp2_with fail
      go_at_call 53
      refine MU.out.mono ?_
      rintro e w4 hc
      obtain ⟨p0, rfl, hp1, hp2, hp3⟩ : Thr w3' r 0 e w4 := by
        rcases hc with ⟨hf, -⟩ | ⟨-, hc⟩
        · cases hf
        · rw [HBG.out] at hc
          exact hc
      have H1 := hidden hp1
      have H2' := hidden hp2
      have H3 := hidden hp3
      clear hp1 hp2 hp3 MU
      unfold thrown
      go_wp2
      have hTh : Thr w r 0 (thrown p0) w4 := ⟨p0, rfl, H1.out, Nat.le_trans HG3.out.size H2'.out, grown_trans HG3.out H3.out⟩
      first | exact ⟨rfl, Or.inr ⟨HNO.out, hTh⟩⟩ | exact Or.inr ⟨HNO.out, hTh⟩
  · have H1 := hidden hp1
    have H2' := hidden hp2
    have H3 := hidden hp3
    have HNO := hidden (headB_none q1)
    clear hp1 hp2 hp3 L1 q1
    unfold thrown
    go_wp2
    have hTh : Thr w r 0 (thrown p0) w2 := ⟨p0, rfl, H1.out, Nat.le_trans HG1.out.size H2'.out, grown_trans HG1.out H3.out⟩
    first | exact ⟨rfl, Or.inr ⟨HNO.out, hTh⟩⟩ | exact Or.inr ⟨HNO.out, hTh⟩


end Go.Proofs.YtdiahnommkhkiaaDoor
