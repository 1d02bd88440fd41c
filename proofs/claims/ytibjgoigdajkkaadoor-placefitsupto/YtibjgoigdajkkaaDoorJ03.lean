import Derived.Test.YtibjgoigdajkkaaDoorJ02
namespace Go.Proofs.YtibjgoigdajkkaaDoor
open Go.RowKit

set_option maxRecDepth 100000 in
set_option maxHeartbeats 8000000 in
theorem valid_small (w : World) (S : NtS) (N : NtD) (hs : ¬ N.small) :
    Calls Tryd.prog 16 #[.agg (S.cells N)] w fun e w' => e = .returned (.bool false) ∧ Below w.heap.size w w' := by
  have hcs : N.ins < 0 ∨ (0 ≤ N.ins ∧ 60000 < N.ins) ∨ (0 ≤ N.ins ∧ N.ins ≤ 60000 ∧ 60000 < (N.outs.length : Int)) ∨ (0 ≤ N.ins ∧ N.ins ≤ 60000 ∧ (N.outs.length : Int) ≤ 60000 ∧ (N.next.length : Int) ≠ (N.init.length : Int)) := by
    unfold NtD.small at hs; omega
  clear hs
  unfold NtS.cells at *
  rcases hcs with g1 | ⟨g0, g1⟩ | ⟨g0, g1, g2⟩ | ⟨g0, g1, g2, g3⟩
  rotate_left 3
  have g4 : (((N.next.length : Nat) : Int) != ((N.init.length : Nat) : Int)) = true := bne_iff_ne.2 g3
  all_goals
    go_enter Tryd.func16, Tryd.ntmps16
    go_wp2
    go_ret
    exact ⟨rfl, (Below.refl _ _).alloc (Nat.le_refl _) _⟩
set_option maxRecDepth 100000 in
set_option maxHeartbeats 8000000 in
theorem valid_rest (B : Nat) (w : World) (S : NtS) (N : NtD) (h : NtAt B w S N) (hB : B ≤ w.heap.size) (hs : N.small) (r : Bool) (HR : Hid (r = ((List.range N.tabs.length).all (tabOk N) && N.next.all (sigOk N.sigs) && N.outs.all (sigOk N.sigs)))) :
    Calls Tryd.prog 16 #[.agg (S.cells N)] w fun e w' => e = .returned (.bool r) ∧ Below w.heap.size w w' := by
  obtain ⟨g0, g1, g2', g3'⟩ := hs
  have g2 : (N.outs.length : Int) ≤ 60000 := by omega
  have g3 : (((N.next.length : Nat) : Int) != ((N.init.length : Nat) : Int)) = false := by rw [g3']; exact bne_self_eq_false _
  have l1 := h.li
  have l2 := h.lt
  have l3 := h.ln
  have FA : Hid (∀ w p, BoxAt w p S N → Calls Tryd.prog 31 #[.pointer (some ⟨p, 0, none⟩)] w fun e w' => e = .returned (.int .i64 N.first) ∧ ∃ n, w' = w.drewN n) := fun w p hb => firstTable_any w p S N hb g0 g1 h.li
  have SA : Hid (∀ w p, BoxAt w p S N → Calls Tryd.prog 33 #[.pointer (some ⟨p, 0, none⟩)] w fun e w' => e = .returned (.int .i64 N.sigs) ∧ ∃ n, w' = w.drewN n) := fun w p hb => signals_any w p S N hb g0 g1 h.li h.lt
  have HTO : Hid (∀ k d, N.tabs[k]? = some d → tabOk N k = d.ok (N.first + k)) := fun k d hd => tabOk_of hd
  have hnf : 0 ≤ N.first ∧ N.first ≤ 300000000000000 := by
    have : N.first = 2 + N.ins + N.init.length := rfl
    simp only [huge] at l1; omega
  simp only [big, huge] at l1 l2 l3
  generalize N.sigs = n at *
  generalize N.first = F at *
  unfold NtS.cells at *
  clear g2' g3'
  go_enter Tryd.func16, Tryd.ntmps16
  go_upto_region 1 with fail
  generalize hW : World.alloc w _ = W
  obtain ⟨pg, hpg⟩ : ∃ x, x = w.heap.size := ⟨_, rfl⟩
  have HB1 : Hid (Below w.heap.size w W) := by rw [← hW]; exact (Below.refl _ _).alloc (Nat.le_refl _) _
  have HX : Hid (BoxAt W pg S N) := by rw [← hW, hpg]; exact BoxAt.new w S N
  rw [← hpg]
  have hwW : w.heap.size ≤ W.heap.size := HB1.out.size
  have HAW : Hid (NtAt B W S N) := h.to (HB1.out.mono hB)
  have hBW : B ≤ W.heap.size := Nat.le_trans hB hwW
  clear hW hpg h
  have q0 := HX.out.c0
  have q1 := HX.out.c1
  have q2 := HX.out.c2
  have q3 := HX.out.c3
  have q4 := HX.out.c4
  go_wp2_with fail
  clear q0 q1 q2 q3 q4
  go_loopw [33] (fun i' w' => ∃ (k : Nat), k ≤ N.tabs.length ∧ i' = .int .i64 k ∧ Hid ((List.range k).all (tabOk N) = true) ∧ Hid (Below W.heap.size W w')) (fun i' _ => N.tabs.length - (intOf i').toNat)
  case atStart => exact ⟨0, Nat.zero_le _, rfl, rfl, Below.refl _ _⟩
  case round =>
    obtain ⟨k, hk, rfl, HA, HBE⟩ := hrel
    have HXr : Hid (BoxAt wr pg S N) := HX.out.to HX.out.lt HBE.out
    by_cases hlt : k < N.tabs.length
    · obtain ⟨d, hd⟩ := getElem_lt hlt
      obtain ⟨b, o, ea, hlb, hc⟩ := HAW.out.t.el hd
      have hbW : b < W.heap.size := Nat.lt_of_lt_of_le hlb hBW
      have HAK := hidden (HTO.out k d hd)
      have IT : Hid (∀ m, Calls Tryd.prog 30 #[.pointer (some ⟨b, o + k * 2, none⟩), .int .i64 (F + (k : Int))] (wr.drewN m) fun e w' => e = .returned (.bool (d.ok (F + k))) ∧ ∃ n, w' = (wr.drewN m).drewN n) := fun m => by
        have hbm : Below W.heap.size W (wr.drewN m) := Below.drewN HBE.out m
        exact isTable_any B (wr.drewN m) b (o + k * 2) d (F + k) ((HAW.out.ti d (List.mem_of_getElem? hd)).to (hbm.mono hBW)) (HAW.out.lti d (List.mem_of_getElem? hd)) ((hbm.cell (p := ⟨b, o + k * 2, none⟩) hbW).trans (hc 0 _ rfl)) ((hbm.cell (p := ⟨b, o + k * 2 + 1, none⟩) hbW).trans (hc 1 _ rfl))
      have hltI : (k : Int) < (N.tabs.length : Int) := by omega
      have e2 : IntKind.i64.wrap ((k : Int) + 1) = (k : Int) + 1 := wrapI _ (by omega) (by omega)
      have e3 : IntKind.i64.wrap (F + (k : Int)) = F + (k : Int) := wrapI _ (by omega) (by omega)
      have q2 : wr.cell? ⟨pg, 2, none⟩ = some (.slice S.a2 N.tabs.length S.c2) := HXr.out.c2
      rw [ea] at q2
      clear hd hc ea hlb
      generalize d.ok (F + k) = bx at *
      cases bx
      · have HF : Hid (r = false) := by
          show _ = _
          rw [HR.out, range_false hlt HAK.out]; rfl
        clear HR HA HAK
        go_wp2_with fail
        go_quiet (first | (go_at_call 31; exact Calls.quiet_of (FA.out _ _ (HXr.out.to HXr.out.lt (Below.drewN (Below.refl _ _) _)))) | (go_at_call 30; exact Calls.quiet_of (IT.out _)))
        go_wp2
        go_ret
        exact ⟨ret_bool HF.out.symm, HB1.out.trans ((Below.drewN HBE.out _).mono hwW)⟩
      · have HN1 : Hid ((List.range (k + 1)).all (tabOk N) = true) := by
          show _ = _
          rw [range_next, HA.out, HAK.out]; rfl
        clear HR HA HAK
        go_wp2_with fail
        go_quiet (first | (go_at_call 31; exact Calls.quiet_of (FA.out _ _ (HXr.out.to HXr.out.lt (Below.drewN (Below.refl _ _) _)))) | (go_at_call 30; exact Calls.quiet_of (IT.out _)))
        go_wp2
        go_roundw
        case measure => simp [intOf]; omega
        case rel => exact ⟨k + 1, by omega, by simp, HN1.out, Below.drewN HBE.out _⟩
    · have hge : ¬ ((k : Int) < (N.tabs.length : Int)) := by omega
      have HA' : Hid ((List.range N.tabs.length).all (tabOk N) = true) := by
        have := HA.out
        rwa [show k = N.tabs.length by omega] at this
      clear HA
      have q3 := HXr.out.c3
      have q4 := HXr.out.c4
      have AN : Hid (∀ m, Calls Tryd.prog 32 #[.slice S.a3 N.next.length S.c3, .int .i64 n] (wr.drewN m) fun e w' => e = .returned (.bool (N.next.all (sigOk n))) ∧ w' = wr.drewN m) := fun m => areSignals_any B (wr.drewN m) S.a3 S.c3 N.next n (HAW.out.n.to ((Below.drewN HBE.out m).mono hBW)) HAW.out.ln
      have AO : Hid (∀ m, Calls Tryd.prog 32 #[.slice S.a4 N.outs.length S.c4, .int .i64 n] (wr.drewN m) fun e w' => e = .returned (.bool (N.outs.all (sigOk n))) ∧ w' = wr.drewN m) := fun m => areSignals_any B (wr.drewN m) S.a4 S.c4 N.outs n (HAW.out.o.to ((Below.drewN HBE.out m).mono hBW)) HAW.out.lo
      rw [HA'.out, Bool.true_and] at HR
      have AN2 : Hid (∀ w', Below W.heap.size W w' → Calls Tryd.prog 32 #[.slice S.a3 N.next.length S.c3, .int .i64 n] w' fun e w'' => e = .returned (.bool (N.next.all (sigOk n))) ∧ w'' = w') := fun w' hb => areSignals_any B w' S.a3 S.c3 N.next n (HAW.out.n.to (hb.mono hBW)) HAW.out.ln
      have AO2 : Hid (∀ w', Below W.heap.size W w' → Calls Tryd.prog 32 #[.slice S.a4 N.outs.length S.c4, .int .i64 n] w' fun e w'' => e = .returned (.bool (N.outs.all (sigOk n))) ∧ w'' = w') := fun w' hb => areSignals_any B w' S.a4 S.c4 N.outs n (HAW.out.o.to (hb.mono hBW)) HAW.out.lo
      generalize N.next.all (sigOk n) = bn at *
      generalize N.outs.all (sigOk n) = bo at *
      clear HTO HA'
      cases bn
      · have HF : Hid (r = false) := HR.out
        clear HR
        go_wp2_with fail
        go_quiet (first | (go_at_call 33; exact Calls.quiet_of (SA.out _ _ (HXr.out.to HXr.out.lt (Below.drewN (Below.refl _ _) _)))) | (go_at_call 32; exact Calls.quiet_of_same (AN.out _)))
        go_wp2
        go_ret
        exact ⟨ret_bool HF.out.symm, HB1.out.trans ((Below.drewN HBE.out _).mono hwW)⟩
      · have HF : Hid (r = bo) := HR.out
        clear HR AN AO
        go_upto_region 10 with fail
        clear q3 q4
        have hb0 : Below W.heap.size W wr.drew := Below.drew HBE.out
        have K1 : Hid (∀ w', Below W.heap.size W w' → (fun w' => w'.cell? ⟨pg, 3, none⟩ = some (.slice S.a3 N.next.length S.c3) ∧ w'.cell? ⟨pg, 4, none⟩ = some (.slice S.a4 N.outs.length S.c4)) w') := fun w' hb => ⟨(HX.out.to HX.out.lt hb).c3, (HX.out.to HX.out.lt hb).c4⟩
        refine wp_region_noPanic ?_
        refine wp_region_held_drew (S := (fun w' => w'.cell? ⟨pg, 3, none⟩ = some (.slice S.a3 N.next.length S.c3) ∧ w'.cell? ⟨pg, 4, none⟩ = some (.slice S.a4 N.outs.length S.c4))) (by kernel_rfl) (by first | assumption | exact K1.out _ (by assumption)) (fun hHeld => ?_)
        refine wpAnyH_take (i := 0) (oi := _) (v := ?_) rfl (by kernel_rfl) (by kernel_rfl) (by kernel_rfl) (fun _ _ _ h => h) (Or.inl ⟨by rfl, ?_⟩) (by assumption) ?_
        rotate_left
        · (intro w0 hSw; (try dsimp only at hSw); (try simp only [List.getElem_toArray, List.getElem_cons_zero]); go_simp; try (with_reducible rfl))
        try simp only [Act.put, List.getElem_toArray, List.getElem_cons_zero, List.setIfInBounds_toArray, List.set_cons_zero, List.set_cons_succ]
        refine wpAnyH_take (i := 1) (oi := _) (v := ?_) rfl (by kernel_rfl) (by kernel_rfl) (by kernel_rfl) (fun _ _ _ h => h) (Or.inl ⟨by rfl, ?_⟩) (by assumption) ?_
        rotate_left
        · (intro w0 hSw; (try dsimp only at hSw); (try simp only [List.getElem_toArray, List.getElem_cons_zero, List.getElem_cons_succ]); go_simp; try (with_reducible rfl))
        try simp only [Act.put, List.getElem_toArray, List.getElem_cons_zero, List.getElem_cons_succ, List.setIfInBounds_toArray, List.set_cons_zero, List.set_cons_succ]
        refine wpAnyH_ready (rs := [2]) (by kernel_rfl) (by simp) ?_
        refine AllReadyH.cons (o := _) rfl (fun K hK => ?_) AllReadyH.nil
        (try simp only [List.getElem_toArray, List.getElem_cons_zero, List.getElem_cons_succ])
        go_simp
        go_at_call 33
        refine (SA.out _ _ (HX.out.to HX.out.lt hb0)).mono ?_
        rintro e v1 ⟨rfl, n1, hv1⟩
        have hb1 : Below W.heap.size W v1 := by rw [hv1]; exact Below.drewN hb0 _
        clear hv1
        go_wp2_with fail
        refine hK.out _ _ (by first | assumption | exact K1.out _ (by assumption)) (fun hHeld1 => ?_)
        clear hK K
        try simp only [Act.put, List.setIfInBounds_toArray, List.set_cons_zero, List.set_cons_succ]
        refine wpAnyH_ready (rs := [3]) (by kernel_rfl) (by simp) ?_
        refine AllReadyH.cons (o := _) rfl (fun K hK => ?_) AllReadyH.nil
        (try simp only [List.getElem_toArray, List.getElem_cons_zero, List.getElem_cons_succ])
        go_simp
        go_at_call 32
        refine (AN2.out _ hb1).mono ?_
        rintro e v2 ⟨rfl, hv2⟩
        have hb2 : Below W.heap.size W v2 := by rw [hv2]; exact hb1
        clear hv2
        go_wp2_with fail
        refine hK.out _ _ (by first | assumption | exact K1.out _ (by assumption)) (fun hHeld2 => ?_)
        clear hK K
        try simp only [Act.put, List.setIfInBounds_toArray, List.set_cons_zero, List.set_cons_succ]
        refine wpAnyH_take (i := 4) (oi := _) (v := ?_) rfl (by kernel_rfl) (by kernel_rfl) (by kernel_rfl) (fun _ _ _ h => h) (Or.inl ⟨by rfl, ?_⟩) (by assumption) ?_
        rotate_left
        · (intro w0 hSw; (try dsimp only at hSw); (try simp only [List.getElem_toArray, List.getElem_cons_zero, List.getElem_cons_succ]); go_simp; try (with_reducible rfl))
        try simp only [Act.put, List.getElem_toArray, List.getElem_cons_zero, List.getElem_cons_succ, List.setIfInBounds_toArray, List.set_cons_zero, List.set_cons_succ]
        refine wpAnyH_take (i := 5) (oi := _) (v := ?_) rfl (by kernel_rfl) (by kernel_rfl) (by kernel_rfl) (fun _ _ _ h => h) (Or.inl ⟨by rfl, ?_⟩) (by assumption) ?_
        rotate_left
        · (intro w0 hSw; (try dsimp only at hSw); (try simp only [List.getElem_toArray, List.getElem_cons_zero, List.getElem_cons_succ]); go_simp; try (with_reducible rfl))
        try simp only [Act.put, List.getElem_toArray, List.getElem_cons_zero, List.getElem_cons_succ, List.setIfInBounds_toArray, List.set_cons_zero, List.set_cons_succ]
        refine wpAnyH_take (i := 6) (oi := _) (v := ?_) rfl (by kernel_rfl) (by kernel_rfl) (by kernel_rfl) (fun _ _ _ h => h) (Or.inl ⟨by rfl, ?_⟩) (by assumption) ?_
        rotate_left
        · (intro w0 hSw; (try dsimp only at hSw); (try simp only [List.getElem_toArray, List.getElem_cons_zero, List.getElem_cons_succ]); go_simp; try (with_reducible rfl))
        try simp only [Act.put, List.getElem_toArray, List.getElem_cons_zero, List.getElem_cons_succ, List.setIfInBounds_toArray, List.set_cons_zero, List.set_cons_succ]
        refine wpAnyH_ready (rs := [7]) (by kernel_rfl) (by simp) ?_
        refine AllReadyH.cons (o := _) rfl (fun K hK => ?_) AllReadyH.nil
        (try simp only [List.getElem_toArray, List.getElem_cons_zero, List.getElem_cons_succ])
        go_simp
        go_at_call 33
        refine (SA.out _ _ (HX.out.to HX.out.lt hb2)).mono ?_
        rintro e v3 ⟨rfl, n3, hv3⟩
        have hb3 : Below W.heap.size W v3 := by rw [hv3]; exact Below.drewN hb2 _
        clear hv3
        go_wp2_with fail
        refine hK.out _ _ (by first | assumption | exact K1.out _ (by assumption)) (fun hHeld3 => ?_)
        clear hK K
        try simp only [Act.put, List.setIfInBounds_toArray, List.set_cons_zero, List.set_cons_succ]
        refine wpAnyH_ready (rs := [8]) (by kernel_rfl) (by simp) ?_
        refine AllReadyH.cons (o := _) rfl (fun K hK => ?_) AllReadyH.nil
        (try simp only [List.getElem_toArray, List.getElem_cons_zero, List.getElem_cons_succ])
        go_simp
        go_at_call 32
        refine (AO2.out _ hb3).mono ?_
        rintro e v4 ⟨rfl, hv4⟩
        have hb4 : Below W.heap.size W v4 := by rw [hv4]; exact hb3
        clear hv4
        go_wp2_with fail
        refine hK.out _ _ (by first | assumption | exact K1.out _ (by assumption)) (fun hHeld4 => ?_)
        clear hK K
        try simp only [Act.put, List.setIfInBounds_toArray, List.set_cons_zero, List.set_cons_succ]
        refine wpAnyH_take (i := 9) (oi := _) (v := ?_) rfl (by kernel_rfl) (by kernel_rfl) (by kernel_rfl) (fun _ _ _ h => h) (Or.inl ⟨by rfl, ?_⟩) (by assumption) ?_
        rotate_left
        · (intro w0 hSw; (try dsimp only at hSw); (try simp only [List.getElem_toArray, List.getElem_cons_zero, List.getElem_cons_succ]); go_simp; try (with_reducible rfl))
        try simp only [Act.put, List.getElem_toArray, List.getElem_cons_zero, List.getElem_cons_succ, List.setIfInBounds_toArray, List.set_cons_zero, List.set_cons_succ]
        refine wpAnyH_take (i := 10) (oi := _) (v := ?_) rfl (by kernel_rfl) (by kernel_rfl) (by kernel_rfl) (fun _ _ _ h => h) (Or.inl ⟨by rfl, ?_⟩) (by assumption) ?_
        rotate_left
        · (intro w0 hSw; (try dsimp only at hSw); (try simp only [List.getElem_toArray, List.getElem_cons_zero, List.getElem_cons_succ]); go_simp; try (with_reducible rfl))
        try simp only [Act.put, List.getElem_toArray, List.getElem_cons_zero, List.getElem_cons_succ, List.setIfInBounds_toArray, List.set_cons_zero, List.set_cons_succ]
        refine wpAnyH_done (by kernel_rfl) ?_ _
        refine NoPanic.normal ?_
        go_wp2
        go_ret
        exact ⟨ret_bool HF.out.symm, HB1.out.trans (hb4.mono hwW)⟩
theorem valid_any (B : Nat) (w : World) (S : NtS) (N : NtD) (h : NtAt B w S N) (hB : B ≤ w.heap.size) :
    Calls Tryd.prog 16 #[.agg (S.cells N)] w fun e w' => e = .returned (.bool (NtOk N)) ∧ Below w.heap.size w w' := by
  by_cases hs : N.small
  · refine valid_rest B w S N h hB hs _ ?_
    show _ = _
    unfold NtOk; rw [decide_eq_true hs, Bool.true_and]
  · have e : NtOk N = false := by unfold NtOk; rw [decide_eq_false hs]; rfl
    rw [e]; exact valid_small w S N hs


end Go.Proofs.YtibjgoigdajkkaaDoor
