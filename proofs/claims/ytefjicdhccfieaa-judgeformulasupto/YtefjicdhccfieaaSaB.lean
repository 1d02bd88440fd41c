import Derived.Test.YtefjicdhccfieaaSaA
import Derived.Deep.RegionHeld3
import Derived.Deep.Cut
namespace Go.Proofs.Ytefjicdhccfieaa
open Go.RowKit

theorem cell_new {w : World} {cs : Array Value} {T : TypeId} {n : Nat} (h : n = w.heap.size) {j : Nat} : (w.alloc (.cells cs T)).cell? ⟨n, j, none⟩ = cs[j]? := by
  subst h; simp
set_option maxRecDepth 100000 in
set_option maxHeartbeats 4000000 in
theorem cnfValid_any (B : Nat) (w : World) (a : Option Addr) (c : Nat) (v : Int) (cls : List CL) (h : ClAt B w a cls) (hB : B ≤ w.heap.size) :
    Calls Try.prog 20 #[.agg #[.int .i64 v, .slice a cls.length c]] w fun e w' => e = .returned (.bool (FmOk v cls)) ∧ Below w.heap.size w w' := by
  have HAT := hidden h
  have hlen : cls.length ≤ 16777216 := Nat.le_trans (total_len cls) h.tot
  obtain ⟨r, HR⟩ : ∃ r, Hid (FmOk v cls = r) := ⟨_, rfl⟩
  have HRv : Hid (¬ (0 ≤ v ∧ v ≤ 100000) → r = false) := fun hn => by rw [← HR.out]; unfold FmOk; simp; intro h1 h2; exact absurd ⟨h1, h2⟩ hn
  have HRa : Hid (0 ≤ v ∧ v ≤ 100000 → r = cls.all fun t => t.l.all (litOk v)) := fun hn => by rw [← HR.out]; unfold FmOk; simp [hn]
  rw [HR.out]
  clear h HR
  go_enter Try.func20, Try.ntmps20
  go_upto_region 1 with fail
  generalize hW : World.alloc w _ = W
  obtain ⟨gx, hgx⟩ : ∃ x, x = w.heap.size := ⟨_, rfl⟩
  have HBW : Hid (Below w.heap.size w W) := by rw [← hW]; exact (Below.refl _ _).alloc (Nat.le_refl _) _
  have HG : Hid (∀ j, W.cell? ⟨gx, j, none⟩ = (#[.int .i64 v, .slice a cls.length c] : Array Value)[j]?) := by
    rw [← hW, hgx]; intro j; exact cell_new rfl
  have hgl : gx < W.heap.size := by rw [← hW, hgx]; simp
  have HATW : Hid (ClAt W.heap.size W a cls) := by
    rw [← hW]
    exact (HAT.out.to (((Below.refl _ _).alloc (Nat.le_refl _) _).mono hB)).mono (by simp; omega)
  rw [← hgx]
  clear hW hgx HAT
  have q0 := HG.out 0
  have q1 := HG.out 1
  simp at q0 q1
  by_cases hv0 : v < 0
  · obtain rfl := HRv.out (by omega)
    go_wp2
    go_ret
    exact ⟨rfl, HBW.out⟩
  by_cases hv1 : 100000 < v
  · obtain rfl := HRv.out (by omega)
    go_wp2
    go_ret
    exact ⟨rfl, HBW.out⟩
  have hra := HRa.out ⟨by omega, by omega⟩
  have HRR := hidden hra
  clear hra HRv HRa
  have K2 : Hid (∀ w', Below W.heap.size W w' → w'.cell? ⟨gx, 0, none⟩ = some (.int .i64 v) ∧ w'.cell? ⟨gx, 1, none⟩ = some (.slice a cls.length c)) := fun w' hb => ⟨(hb.cell (p := ⟨gx, 0, none⟩) hgl).trans q0, (hb.cell (p := ⟨gx, 1, none⟩) hgl).trans q1⟩
  go_wp2_with fail
  clear q0 q1
  go_loopw [3] (fun i' w' => ∃ (k : Nat), k ≤ cls.length ∧ i' = .int .i64 k ∧ Hid ((cls.take k).all (fun t => t.l.all (litOk v)) = true) ∧ Hid (Below W.heap.size W w')) (fun i' _ => cls.length - (intOf i').toNat)
  case atStart => exact ⟨0, Nat.zero_le _, rfl, by simp [Hid], Below.refl _ _⟩
  case round =>
    obtain ⟨k, hk, rfl, HA, HBr⟩ := hrel
    obtain ⟨q0, q1⟩ := K2.out _ HBr.out
    by_cases hlt : k < cls.length
    · obtain ⟨t, hz⟩ := getElem_lt hlt
      obtain ⟨tb, tz, ea, htb, htc⟩ := HATW.out.row.el hz
      subst ea
      have htm := List.mem_of_getElem? hz
      have HN := hidden (all_next (fun t : CL => t.l.all (litOk v)) cls k t hz)
      have HX : Hid (cls.all (fun t => t.l.all (litOk v)) = true → t.l.all (litOk v) = true) := fun h => List.all_eq_true.1 h t htm
      have htl := total_one cls k t hz
      have htt := HATW.out.tot
      have FO1 : Hid (∀ w', Below wr.heap.size wr w' → Calls Try.prog 21 #[.slice t.a t.l.length t.c, .int .i64 v] w' fun e w'' => e = .returned (.bool (t.l.all (litOk v))) ∧ Below w'.heap.size w' w'') := fun w' hw' =>
        formed_any w' t.a t.c t.l v (by omega) (by omega) (by omega) (((HATW.out.each t htm).to (HBr.out.trans (hw'.mono HBr.out.size))).mono (Nat.le_trans HBr.out.size hw'.size))
      have hltI : (k : Int) < (cls.length : Int) := by omega
      have e3 : IntKind.i64.wrap ((k : Int) + 1) = (k : Int) + 1 := wrapI _ (by omega) (by omega)
      have c0 : W.cell? ⟨tb, tz + k, none⟩ = some (.slice t.a t.l.length t.c) := by have := htc 0 _ rfl; simpa using this
      obtain ⟨tr, HTR⟩ : ∃ r, Hid (t.l.all (litOk v) = r) := ⟨_, rfl⟩
      rw [HTR.out] at FO1
      have HN2 : Hid ((cls.take (k + 1)).all (fun t => t.l.all (litOk v)) = tr) := by
        show _ = _
        rw [HN.out, HA.out, HTR.out]; rfl
      have HX2 : Hid (tr = false → r = false) := fun e => by
        rw [HRR.out, Bool.eq_false_iff]; intro h
        have := HX.out h
        rw [HTR.out, e] at this; cases this
      clear hz htc HTR HN HX HA htl htt htm
      generalize t.l.length = tl at *
      generalize t.a = tA at *
      generalize t.c = tC at *
      have FO : Hid (∀ w', Below wr.heap.size wr w' → Calls Try.prog 21 #[.slice tA tl tC, .int .i64 v] w' fun e w'' => e = .returned (.bool tr) ∧ Below w'.heap.size w' w'') := FO1.out
      have K3 : Hid (∀ w', Below wr.heap.size wr w' → w'.cell? ⟨gx, 0, none⟩ = some (.int .i64 v) ∧ w'.cell? ⟨gx, 1, none⟩ = some (.slice (some ⟨tb, tz, none⟩) cls.length c) ∧ w'.cell? ⟨tb, tz + k, none⟩ = some (.slice tA tl tC)) := fun w' hb => by
        have hb2 := HBr.out.trans (hb.mono HBr.out.size)
        exact ⟨(K2.out w' hb2).1, (K2.out w' hb2).2, (hb2.cell (p := ⟨tb, tz + k, none⟩) htb).trans c0⟩
      clear FO1 c0
      go_wp2_with fail
      clear q0 q1
      (
      refine wp_region_noPanic ?_
      refine wp_region_held_drew (S := (fun w' => w'.cell? ⟨gx, 0, none⟩ = some (.int .i64 v) ∧ w'.cell? ⟨gx, 1, none⟩ = some (.slice (some ⟨tb, tz, none⟩) cls.length c) ∧ w'.cell? ⟨tb, tz + k, none⟩ = some (.slice tA tl tC))) (by kernel_rfl) (by first | assumption | exact K3.out _ (by assumption) | exact K3.out _ (Below.refl _ _) | exact K3.out _ (Below.drew (Below.refl _ _))) (fun hHeld => ?_)
      refine wpAnyH_take (i := 0) (oi := _) (v := ?_) rfl (by kernel_rfl) (by kernel_rfl) (by kernel_rfl) (fun _ _ _ h => h) (Or.inl ⟨by rfl, ?_⟩) (by assumption) ?_
      rotate_left
      · (intro w0 hSw; (try dsimp only at hSw); (try simp only [List.getElem_toArray, List.getElem_cons_zero]); go_simp; try (with_reducible rfl))
      try simp only [Act.put, List.getElem_toArray, List.getElem_cons_zero, List.setIfInBounds_toArray, List.set_cons_zero, List.set_cons_succ]
      refine wpAnyH_take (i := 1) (oi := _) (v := ?_) rfl (by kernel_rfl) (by kernel_rfl) (by kernel_rfl) (fun _ _ _ h => h) (Or.inl ⟨by rfl, ?_⟩) (by assumption) ?_
      rotate_left
      · (intro w0 hSw; (try dsimp only at hSw); (try simp only [List.getElem_toArray, List.getElem_cons_zero, List.getElem_cons_succ]); go_simp; try (with_reducible rfl))
      try simp only [Act.put, List.getElem_toArray, List.getElem_cons_zero, List.getElem_cons_succ, List.setIfInBounds_toArray, List.set_cons_zero, List.set_cons_succ]
      refine wpAnyH_take (i := 2) (oi := _) (v := ?_) rfl (by kernel_rfl) (by kernel_rfl) (by kernel_rfl) (fun _ _ _ h => h) (Or.inl ⟨by rfl, ?_⟩) (by assumption) ?_
      rotate_left
      · (intro w0 hSw; (try dsimp only at hSw); (try simp only [List.getElem_toArray, List.getElem_cons_zero, List.getElem_cons_succ]); go_simp; try (with_reducible rfl))
      try simp only [Act.put, List.getElem_toArray, List.getElem_cons_zero, List.getElem_cons_succ, List.setIfInBounds_toArray, List.set_cons_zero, List.set_cons_succ]
      refine wpAnyH_take (i := 3) (oi := _) (v := ?_) rfl (by kernel_rfl) (by kernel_rfl) (by kernel_rfl) (fun _ _ _ h => h) (Or.inl ⟨by rfl, ?_⟩) (by assumption) ?_
      rotate_left
      · (intro w0 hSw; (try dsimp only at hSw); (try simp only [List.getElem_toArray, List.getElem_cons_zero, List.getElem_cons_succ]); go_simp; try (with_reducible rfl))
      try simp only [Act.put, List.getElem_toArray, List.getElem_cons_zero, List.getElem_cons_succ, List.setIfInBounds_toArray, List.set_cons_zero, List.set_cons_succ]
      refine wpAnyH_take (i := 4) (oi := _) (v := ?_) rfl (by kernel_rfl) (by kernel_rfl) (by kernel_rfl) (fun _ _ _ h => h) (Or.inl ⟨by rfl, ?_⟩) (by assumption) ?_
      rotate_left
      · (intro w0 hSw; (try dsimp only at hSw); (try simp only [List.getElem_toArray, List.getElem_cons_zero, List.getElem_cons_succ]); go_simp; try (with_reducible rfl))
      try simp only [Act.put, List.getElem_toArray, List.getElem_cons_zero, List.getElem_cons_succ, List.setIfInBounds_toArray, List.set_cons_zero, List.set_cons_succ]
      refine wpAnyH_take (i := 5) (oi := _) (v := ?_) rfl (by kernel_rfl) (by kernel_rfl) (by kernel_rfl) (fun _ _ _ h => h) (Or.inl ⟨by rfl, ?_⟩) (by assumption) ?_
      rotate_left
      · (intro w0 hSw; (try dsimp only at hSw); (try simp only [List.getElem_toArray, List.getElem_cons_zero, List.getElem_cons_succ]); go_simp; try (with_reducible rfl))
      try simp only [Act.put, List.getElem_toArray, List.getElem_cons_zero, List.getElem_cons_succ, List.setIfInBounds_toArray, List.set_cons_zero, List.set_cons_succ]
      refine wpAnyH_take (i := 6) (oi := _) (v := ?_) rfl (by kernel_rfl) (by kernel_rfl) (by kernel_rfl) (fun _ _ _ h => h) (Or.inl ⟨by rfl, ?_⟩) (by assumption) ?_
      rotate_left
      · (intro w0 hSw; (try dsimp only at hSw); (try simp only [List.getElem_toArray, List.getElem_cons_zero, List.getElem_cons_succ]); go_simp; try (with_reducible rfl))
      try simp only [Act.put, List.getElem_toArray, List.getElem_cons_zero, List.getElem_cons_succ, List.setIfInBounds_toArray, List.set_cons_zero, List.set_cons_succ]
      refine wpAnyH_ready (rs := [7]) (by kernel_rfl) (by simp) ?_
      refine AllReadyH.cons (o := _) rfl (fun K hK => ?_) AllReadyH.nil
      (try simp only [List.getElem_toArray, List.getElem_cons_zero, List.getElem_cons_succ])
      go_simp
      go_at_call 21
      refine (FO.out _ (Below.drew (Below.refl _ _))).mono ?_
      rintro e x9 ⟨rfl, hb9⟩
      replace hb9 : Below wr.heap.size wr x9 := (Below.drew (Below.refl wr.heap.size wr)).trans hb9
      go_wp2_with fail
      refine hK.out _ _ (by first | assumption | exact K3.out _ (by assumption) | exact K3.out _ (Below.refl _ _) | exact K3.out _ (Below.drew (Below.refl _ _))) (fun hHeld1 => ?_)
      clear hK K
      try simp only [Act.put, List.setIfInBounds_toArray, List.set_cons_zero, List.set_cons_succ]
      refine wpAnyH_take (i := 8) (oi := _) (v := ?_) rfl (by kernel_rfl) (by kernel_rfl) (by kernel_rfl) (fun _ _ _ h => h) (Or.inl ⟨by rfl, ?_⟩) (by assumption) ?_
      rotate_left
      · (intro w0 hSw; (try dsimp only at hSw); (try simp only [List.getElem_toArray, List.getElem_cons_zero, List.getElem_cons_succ]); go_simp; try (with_reducible rfl))
      try simp only [Act.put, List.getElem_toArray, List.getElem_cons_zero, List.getElem_cons_succ, List.setIfInBounds_toArray, List.set_cons_zero, List.set_cons_succ]
      refine wpAnyH_done (by kernel_rfl) ?_ _
      refine NoPanic.normal ?_
      )
      have HB9 : Hid (Below W.heap.size W x9) := HBr.out.trans (hb9.mono HBr.out.size)
      clear hb9 FO K3
      try clear hHeld
      try clear hHeld1
      cases tr
      · obtain rfl := HX2.out rfl
        go_wp2
        go_ret
        exact ⟨rfl, HBW.out.trans (HB9.out.mono HBW.out.size)⟩
      · go_wp2
        go_roundw
        case measure => simp [intOf]; omega
        case rel => exact ⟨k + 1, by omega, by simp, HN2.out, HB9.out⟩
    · have hge : ¬ ((k : Int) < (cls.length : Int)) := by omega
      have HF : Hid (r = true) := by
        have := HA.out
        rw [List.take_of_length_le (by omega)] at this
        show _ = _
        rw [HRR.out]; exact this
      clear HA HRR
      go_wp2
      go_ret
      exact ⟨ret_bool HF.out.symm, HBW.out.trans (HBr.out.mono HBW.out.size)⟩

end Go.Proofs.Ytefjicdhccfieaa
