import Derived.Test.YtmifbcpinhpnnaaDoorAsE
namespace Go.Proofs.YtmifbcpinhpnnaaDoor
open Go.RowKit

set_option maxRecDepth 100000 in
set_option maxHeartbeats 8000000 in
theorem packed_any (D : Nat) (w : World) (S : GrS) (G : GrD) (h : GrAt D w S G) (hD : D ≤ w.heap.size) (ht : Tens w) (hG : Tryd.prog.globals.size ≤ w.heap.size) :
    Calls Tryd.prog 7 #[.agg (S.cells G)] w fun e w' => e = .returned (.bool true) ∧ Below w.heap.size w w' := by
  obtain ⟨r, HR⟩ : ∃ r, Hid (GrOk G = r) := ⟨_, rfl⟩
  have VL : Hid (∀ w', Below w.heap.size w w' → Calls Tryd.prog 8 #[.agg (S.cells G)] w' fun e w'' => e = .returned (.bool r) ∧ Below w'.heap.size w' w'') := fun w' hw' => by
    have := graphValid_any D w' S G (h.to (hw'.mono hD)) (Nat.le_trans hD hw'.size)
    rw [HR.out] at this
    exact this
  obtain ⟨tt, HTT⟩ : ∃ tt, Hid (packT G = tt) := ⟨_, rfl⟩
  have hpos : Hid (0 < tt.length) := by show _ < _; rw [← HTT.out]; unfold packT headT; simp
  have PR : Hid (r = true → ∀ w', Below w.heap.size w w' → Calls Tryd.prog 11 #[.agg (S.cells G)] w' fun e w'' => (∃ v B', e = .returned v ∧ w'.heap.size ≤ B' ∧ Txt B' w'' v tt) ∧ Below w'.heap.size w' w'') := fun hr w' hw' => by
    rw [← HTT.out]
    exact pack_any D w' S G (h.to (hw'.mono hD)) (Nat.le_trans hD hw'.size) (HR.out.trans hr) (ht.to hw' hG) (Nat.le_trans hG hw'.size)
  have TX : Hid (r = true → ∀ w', Below w.heap.size w w' → Calls Tryd.prog 12 #[.agg (S.cells G)] w' fun e w'' => (∃ v B', e = .returned v ∧ w'.heap.size ≤ B' ∧ Txt B' w'' v tt) ∧ Below w'.heap.size w' w'') := fun hr w' hw' => by
    rw [← HTT.out]
    exact aigPack_any D w' S G (h.to (hw'.mono hD)) (Nat.le_trans hD hw'.size) (HR.out.trans hr)
  have hcs : S.cells G = #[.int .i64 G.ins, .slice S.a1 G.lats.length S.c1, .slice S.a2 G.ands.length S.c2, .slice S.a3 G.outs.length S.c3] := rfl
  rw [hcs] at VL PR TX ⊢
  clear h HR HTT ht hcs
  go_enter Tryd.func7, Tryd.ntmps7
  go_upto_region 1 with fail
  generalize hW : World.alloc w _ = W0
  obtain ⟨gx, hgx⟩ : ∃ x, x = w.heap.size := ⟨_, rfl⟩
  have HB0 : Hid (Below w.heap.size w W0) := by rw [← hW]; exact (Below.refl _ _).alloc (Nat.le_refl _) _
  have HX : Hid (BoxAt W0 gx S G) := by
    rw [← hW, hgx]
    exact ⟨by simp, by simp, by simp, by simp, by simp⟩
  rw [← hgx]
  clear hW hgx
  have q0 := HX.out.c0
  have q1 := HX.out.c1
  have q2 := HX.out.c2
  have q3 := HX.out.c3
  go_wp2_with fail
  go_at_call 8
  refine (VL.out _ HB0.out).mono ?_
  rintro e w1 ⟨rfl, hb1⟩
  have HX1 := hidden (HX.out.to HX.out.lt hb1)
  have HBw1 : Hid (Below w.heap.size w w1) := HB0.out.trans (hb1.mono HB0.out.size)
  clear q0 q1 q2 q3 hb1 HX VL
  cases r
  · clear PR TX
    go_wp2
    go_ret
    exact ⟨rfl, HBw1.out⟩
  · have PR' := hidden (PR.out rfl w1 HBw1.out)
    have TX0 := hidden (TX.out rfl)
    clear PR TX
    have q0 := HX1.out.c0
    have q1 := HX1.out.c1
    have q2 := HX1.out.c2
    have q3 := HX1.out.c3
    go_wp2_with fail
    go_at_call 11
    refine PR'.out.mono ?_
    rintro e w2 ⟨⟨v2, B2, rfl, hB2, hT2⟩, hb2⟩
    have HX2 := hidden (HX1.out.to HX1.out.lt hb2)
    have HBw2 : Hid (Below w.heap.size w w2) := HBw1.out.trans (hb2.mono HBw1.out.size)
    have TX' := TX0
    have HT2 := hidden hT2
    have hcv := txt_string hT2 hpos.out
    clear q0 q1 q2 q3 hb2 PR' HX1 hT2 TX0
    have q0 := HX2.out.c0
    have q1 := HX2.out.c1
    have q2 := HX2.out.c2
    have q3 := HX2.out.c3
    have hgl := HX2.out.lt
    have K9 : Hid (∀ w', Below w2.heap.size w2 w' → (convert 33 9 v2).run Tryd.prog w' = .ok (.string (bs tt)) w' ∧ w'.cell? ⟨gx, 0, none⟩ = some (.int .i64 G.ins) ∧ w'.cell? ⟨gx, 1, none⟩ = some (.slice S.a1 G.lats.length S.c1) ∧ w'.cell? ⟨gx, 2, none⟩ = some (.slice S.a2 G.ands.length S.c2) ∧ w'.cell? ⟨gx, 3, none⟩ = some (.slice S.a3 G.outs.length S.c3)) := fun w' hb => ⟨txt_string (HT2.out.to hb) hpos.out, (hb.cell (p := ⟨gx, 0, none⟩) hgl).trans q0, (hb.cell (p := ⟨gx, 1, none⟩) hgl).trans q1, (hb.cell (p := ⟨gx, 2, none⟩) hgl).trans q2, (hb.cell (p := ⟨gx, 3, none⟩) hgl).trans q3⟩
    have hcvd : (convert 33 9 v2).run Tryd.prog w2.drew = .ok (.string (bs tt)) w2.drew := (K9.out _ (Below.drew (Below.refl _ _))).1
    go_upto_region 5 with fail
    (
    refine wp_region_noPanic ?_
    refine wp_region_held_drew (S := (fun w' => (convert 33 9 v2).run Tryd.prog w' = .ok (.string (bs tt)) w' ∧ w'.cell? ⟨gx, 0, none⟩ = some (.int .i64 G.ins) ∧ w'.cell? ⟨gx, 1, none⟩ = some (.slice S.a1 G.lats.length S.c1) ∧ w'.cell? ⟨gx, 2, none⟩ = some (.slice S.a2 G.ands.length S.c2) ∧ w'.cell? ⟨gx, 3, none⟩ = some (.slice S.a3 G.outs.length S.c3))) (by kernel_rfl) (by (first | assumption | exact ⟨hcvd, q0, q1, q2, q3⟩ | exact K9.out _ (by assumption))) (fun hHeld => ?_)
    refine wpAnyH_take (i := 0) (oi := _) (v := ?_) rfl (by kernel_rfl) (by kernel_rfl) (by kernel_rfl) (fun _ _ _ h => h) (Or.inl ⟨by rfl, ?_⟩) (by assumption) ?_
    rotate_left
    · (intro w0 hSw; (try dsimp only at hSw); (try simp only [List.getElem_toArray, List.getElem_cons_zero]); go_simp; try (with_reducible rfl))
    try simp only [Act.put, List.getElem_toArray, List.getElem_cons_zero, List.setIfInBounds_toArray, List.set_cons_zero, List.set_cons_succ]
    refine wpAnyH_take (i := 1) (oi := _) (v := ?_) rfl (by kernel_rfl) (by kernel_rfl) (by kernel_rfl) (fun _ _ _ h => h) (Or.inl ⟨by rfl, ?_⟩) (by assumption) ?_
    rotate_left
    · (intro w0 hSw; (try dsimp only at hSw); (try simp only [List.getElem_toArray, List.getElem_cons_zero, List.getElem_cons_succ]); go_simp; try (with_reducible rfl))
    try simp only [Act.put, List.getElem_toArray, List.getElem_cons_zero, List.getElem_cons_succ, List.setIfInBounds_toArray, List.set_cons_zero, List.set_cons_succ]
    refine wpAnyH_take (i := 2) (oi := _) (v := ?_) rfl (by kernel_rfl) (by kernel_rfl) (by kernel_rfl) (fun _ _ _ h => h) (Or.inl ⟨by rfl, ?_⟩) (by assumption) ?_
    rotate_left
    · (intro w0 hSw; (try dsimp only at hSw); (try simp only [List.getElem_toArray, List.getElem_cons_zero, List.getElem_cons_succ]); go_simp; try (with_reducible rfl))
    try simp only [Act.put, List.getElem_toArray, List.getElem_cons_zero, List.getElem_cons_succ, List.setIfInBounds_toArray, List.set_cons_zero, List.set_cons_succ]
    refine wpAnyH_ready (rs := [3]) (by kernel_rfl) (by simp) ?_
    refine AllReadyH.cons (o := _) rfl (fun K hK => ?_) AllReadyH.nil
    (try simp only [List.getElem_toArray, List.getElem_cons_zero, List.getElem_cons_succ])
    go_simp
    go_at_call 12
    refine (TX'.out _ (Below.drew HBw2.out)).mono ?_
    rintro e w3 ⟨⟨v3, B3, rfl, hB3, hT3⟩, hb3⟩
    replace hb3 : Below w2.heap.size w2 w3 := (Below.drew (Below.refl w2.heap.size w2)).trans hb3
    have hcv3 := txt_string hT3 hpos.out
    go_wp2_with fail
    refine hK.out _ _ (by (first | assumption | exact ⟨hcvd, q0, q1, q2, q3⟩ | exact K9.out _ (by assumption))) (fun hHeld3 => ?_)
    clear hK K
    (try simp only [Act.put]); (try simp only [List.setIfInBounds_toArray]); (try simp only [List.set_cons_zero, List.set_cons_succ])
    refine wpAnyH_ready (rs := [4]) (by kernel_rfl) (by simp) ?_
    refine AllReadyH.cons (o := _) rfl (fun K hK => ?_) AllReadyH.nil
    (try simp only [List.getElem_toArray, List.getElem_cons_zero, List.getElem_cons_succ])
    go_simp
    refine hK.out _ _ (by (first | assumption | exact ⟨hcvd, q0, q1, q2, q3⟩ | exact K9.out _ (by assumption))) (fun hHeld4 => ?_)
    clear hK K
    (try simp only [Act.put]); (try simp only [List.setIfInBounds_toArray]); (try simp only [List.set_cons_zero, List.set_cons_succ])
    refine wpAnyH_take (i := 5) (oi := _) (v := ?_) rfl (by kernel_rfl) (by kernel_rfl) (by kernel_rfl) (fun _ _ _ h => h) (Or.inl ⟨by rfl, ?_⟩) (by assumption) ?_
    rotate_left
    · (intro w0 hSw; (try dsimp only at hSw); (try simp only [List.getElem_toArray, List.getElem_cons_zero, List.getElem_cons_succ]); go_simp; try (with_reducible rfl))
    try simp only [Act.put, List.getElem_toArray, List.getElem_cons_zero, List.getElem_cons_succ, List.setIfInBounds_toArray, List.set_cons_zero, List.set_cons_succ]
    refine wpAnyH_take (i := 6) (oi := _) (v := ?_) rfl (by kernel_rfl) (by kernel_rfl) (by kernel_rfl) (fun _ _ _ h => h) (Or.inl ⟨by rfl, ?_⟩) (by assumption) ?_
    rotate_left
    · (intro w0 hSw; (try dsimp only at hSw); (try simp only [List.getElem_toArray, List.getElem_cons_zero, List.getElem_cons_succ]); go_simp; try (with_reducible rfl))
    try simp only [Act.put, List.getElem_toArray, List.getElem_cons_zero, List.getElem_cons_succ, List.setIfInBounds_toArray, List.set_cons_zero, List.set_cons_succ]
    refine wpAnyH_done (by kernel_rfl) ?_ _
    refine NoPanic.normal ?_
    skip
    )
    go_wp2
    go_ret
    refine ⟨ret_bool ?_, HBw2.out.trans (hb3.mono HBw2.out.size)⟩
    simp

set_option maxRecDepth 100000 in
set_option maxHeartbeats 8000000 in
theorem law_packs (D : Nat) (w : World) (S : GrS) (G : GrD) (h : GrAt D w S G) (hD : D ≤ w.heap.size) (ht : Tens w) (hG : Tryd.prog.globals.size ≤ w.heap.size) :
    Calls Tryd.prog 4 #[.agg (S.cells G)] w fun e w' => e = .returned (.bool true) ∧ Below w.heap.size w w' := by
  have SM : Hid (∀ w : World, Calls Tryd.prog 6 #[] w fun e w' => ∃ S, e = .returned (.agg (GrS.cells S tinyG)) ∧ GrAt w'.heap.size w' S tinyG ∧ Below w.heap.size w w') := tiny_any
  have RT : Hid (∀ (w' : World) S, Below w.heap.size w w' → GrAt w'.heap.size w' S tinyG → Calls Tryd.prog 7 #[.agg (GrS.cells S tinyG)] w' fun e w'' => e = .returned (.bool true) ∧ Below w'.heap.size w' w'') := fun w' S hw' hg => packed_any w'.heap.size w' S tinyG hg (Nat.le_refl _) (ht.to hw' hG) (Nat.le_trans hG hw'.size)
  have RG : Hid (∀ w', Below w.heap.size w w' → Calls Tryd.prog 7 #[.agg (S.cells G)] w' fun e w'' => e = .returned (.bool true) ∧ Below w'.heap.size w' w'') := fun w' hw' =>
    packed_any D w' S G (h.to (hw'.mono hD)) (Nat.le_trans hD hw'.size) (ht.to hw' hG) (Nat.le_trans hG hw'.size)
  clear h ht
  have hcs : S.cells G = #[.int .i64 G.ins, .slice S.a1 G.lats.length S.c1, .slice S.a2 G.ands.length S.c2, .slice S.a3 G.outs.length S.c3] := rfl
  rw [hcs] at RG ⊢
  clear hcs
  go_enter Tryd.func4, Tryd.ntmps4
  go_wp2_with fail
  generalize hW : World.alloc w _ = W
  have HB : Hid (Below w.heap.size w W) := by rw [← hW]; exact (Below.refl _ _).alloc (Nat.le_refl _) _
  have hN : w.heap.size < W.heap.size := by rw [← hW]; simp
  have HX : Hid (BoxAt W w.heap.size S G) := by
    rw [← hW]
    exact ⟨by simp, by simp, by simp, by simp, by simp⟩
  clear hW
  go_at_call 6
  refine (SM.out _).mono ?_
  rintro e w1 ⟨S1, rfl, hn1, hb1⟩
  have HB1 := hidden hb1
  have HR1 := hidden (RT.out w1 S1 (HB.out.trans (hb1.mono HB.out.size)) hn1)
  clear hb1 hn1 SM RT
  go_wp2_with fail
  go_at_call 7
  refine HR1.out.mono ?_
  rintro e w2 ⟨rfl, hb2⟩
  have HB2 : Hid (Below W.heap.size W w2) := HB1.out.trans (hb2.mono HB1.out.size)
  have HBw2 : Hid (Below w.heap.size w w2) := HB.out.trans (HB2.out.mono HB.out.size)
  have HX2 := hidden (HX.out.to hN HB2.out)
  have q0 := HX2.out.c0
  have q1 := HX2.out.c1
  have q2 := HX2.out.c2
  have q3 := HX2.out.c3
  clear hb2 HR1 HX HB1
  go_wp2_with fail
  go_at_call 7
  refine (RG.out _ HBw2.out).mono ?_
  rintro e w3 ⟨rfl, hb3⟩
  have HBw3 : Hid (Below w.heap.size w w3) := HBw2.out.trans (hb3.mono HBw2.out.size)
  clear hb3 RG
  go_wp2
  go_ret
  exact ⟨rfl, HBw3.out⟩

end Go.Proofs.YtmifbcpinhpnnaaDoor
