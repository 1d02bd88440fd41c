import Derived.Test.YtpipdmeibfkehaaAcB
import Derived.Test.YtpipdmeibfkehaaAcS
namespace Go.Proofs.Ytpipdmeibfkehaa
open Go.RowKit

set_option maxRecDepth 100000 in
set_option maxHeartbeats 8000000 in
theorem lawCleaned_any (B : Nat) (w : World) (S : GrS) (G : GrD) (h : GrAt B w S G) (hB : B ≤ w.heap.size) :
    Calls Try.prog 4 #[.agg (S.cells G)] w fun e w' => e = .returned (.bool true) ∧ Below w.heap.size w w' := by
  obtain ⟨r, HR⟩ : ∃ r, Hid (GrOk G = r) := ⟨_, rfl⟩
  have VL : Hid (∀ w', Below w.heap.size w w' → Calls Try.prog 6 #[.agg (S.cells G)] w' fun e w'' => e = .returned (.bool r) ∧ Below w'.heap.size w' w'') := fun w' hw' => by
    have := graphValid_any B w' S G (h.to (hw'.mono hB)) (Nat.le_trans hB hw'.size)
    rw [HR.out] at this
    exact this
  obtain ⟨H, HH⟩ : ∃ H, Hid (cleanOf G = H) := ⟨_, rfl⟩
  have CN : Hid (r = true → ∀ w', Below w.heap.size w w' → Calls Try.prog 7 #[.agg (S.cells G)] w' fun e w'' => (∃ T, e = .returned (.agg (T.cells H)) ∧ GrAt w''.heap.size w'' T H) ∧ Below w'.heap.size w' w'') := fun hr w' hw' => by
    rw [← HH.out]
    exact clean_any B w' S G (h.to (hw'.mono hB)) (Nat.le_trans hB hw'.size) (HR.out.trans hr)
  have CG0 : Hid (r = true → ∀ w', Below w.heap.size w w' → Calls Try.prog 9 #[.agg (S.cells G)] w' fun e w'' => (∃ T, e = .returned (.agg (T.cells H)) ∧ GrAt w''.heap.size w'' T H) ∧ Below w'.heap.size w' w'') := fun hr w' hw' => by
    rw [← HH.out]
    exact cleanGraph_any B w' S G (h.to (hw'.mono hB)) (Nat.le_trans hB hw'.size) (HR.out.trans hr)
  unfold GrS.cells at *
  clear h HR HH
  go_enter Try.func4, Try.ntmps4
  go_upto_region 1 with fail
  generalize hW : World.alloc w _ = W0
  obtain ⟨gx, hgx⟩ : ∃ x, x = w.heap.size := ⟨_, rfl⟩
  have HB0 : Hid (Below w.heap.size w W0) := by rw [← hW]; exact (Below.refl _ _).alloc (Nat.le_refl _) _
  have hN : gx < W0.heap.size := by rw [← hW, hgx]; simp
  have HX : Hid (BoxAt W0 gx S G) := by
    rw [← hW, hgx]
    exact ⟨by simp, by simp, by simp, by simp, by simp⟩
  rw [← hgx]
  have hgw : w.heap.size ≤ gx := by omega
  clear hW hgx
  have q0 := HX.out.c0
  have q1 := HX.out.c1
  have q2 := HX.out.c2
  have q3 := HX.out.c3
  go_wp2_with fail
  go_at_call 6
  refine (VL.out _ HB0.out).mono ?_
  rintro e w1 ⟨rfl, hb1⟩
  have HB1 := hidden hb1
  have HX1 := hidden (HX.out.to hN hb1)
  have hN1 : gx < w1.heap.size := HX1.out.lt
  have HBw1 : Hid (Below w.heap.size w w1) := HB0.out.trans (hb1.mono HB0.out.size)
  clear q0 q1 q2 q3 hb1 HX VL
  cases r
  · clear CN CG0
    go_wp2
    go_ret
    exact ⟨rfl, HBw1.out⟩
  · have CN' := hidden (CN.out rfl w1 HBw1.out)
    have CG1 := hidden (CG0.out rfl)
    have q0 := HX1.out.c0
    have q1 := HX1.out.c1
    have q2 := HX1.out.c2
    have q3 := HX1.out.c3
    clear CN CG0
    go_wp2_with fail
    go_at_call 7
    refine CN'.out.mono ?_
    rintro e w2 ⟨⟨T, rfl, hat2⟩, hb2⟩
    have HT2 := hidden hat2
    have HB2 := hidden hb2
    have HX2 := hidden (HX1.out.to hN1 hb2)
    clear q0 q1 q2 q3 hat2 hb2 CN'
    go_upto_region 5 with fail
    generalize hW : World.alloc w2 _ = W
    obtain ⟨hx, hhx⟩ : ∃ x, x = w2.heap.size := ⟨_, rfl⟩
    have HBW2 : Hid (Below w2.heap.size w2 W) := by rw [← hW]; exact (Below.refl _ _).alloc (Nat.le_refl _) _
    have HC : Hid (∀ j, W.cell? ⟨hx, j, none⟩ = (#[.int .i64 H.ins, .slice T.a1 H.lats.length T.c1, .slice T.a2 H.ands.length T.c2, .slice T.a3 H.outs.length T.c3] : Array Value)[j]?) := by
      rw [← hW, hhx]; intro j; exact cell_new rfl
    have hxl : hx < W.heap.size := by rw [← hW, hhx]; simp
    rw [← hhx]
    clear hW hhx
    have HXW := hidden (HX2.out.to HX2.out.lt HBW2.out)
    have hgl : gx < W.heap.size := HXW.out.lt
    have HAT2 : Hid (GrAt W.heap.size W T H) := (HT2.out.to HBW2.out).mono HBW2.out.size
    have HBW : Hid (Below w.heap.size w W) := (HBw1.out.trans (HB2.out.mono HBw1.out.size)).trans (HBW2.out.mono (by have := HBw1.out.size; have := HB2.out.size; omega))
    have CG : Hid (∀ w', Below w.heap.size w w' → Calls Try.prog 9 #[.agg #[.int .i64 G.ins, .slice S.a1 G.lats.length S.c1, .slice S.a2 G.ands.length S.c2, .slice S.a3 G.outs.length S.c3]] w' fun e w'' => (∃ T, e = .returned (.agg #[.int .i64 H.ins, .slice T.a1 H.lats.length T.c1, .slice T.a2 H.ands.length T.c2, .slice T.a3 H.outs.length T.c3]) ∧ GrAt w''.heap.size w'' T H) ∧ Below w'.heap.size w' w'') := CG1.out
    have h0 := HC.out 0
    have h1 := HC.out 1
    have h2 := HC.out 2
    have h3 := HC.out 3
    simp at h0 h1 h2 h3
    have q0 := HXW.out.c0
    have q1 := HXW.out.c1
    have q2 := HXW.out.c2
    have q3 := HXW.out.c3
    have K8 : Hid (∀ w', Below W.heap.size W w' → w'.cell? ⟨hx, 0, none⟩ = some (.int .i64 H.ins) ∧ w'.cell? ⟨hx, 1, none⟩ = some (.slice T.a1 H.lats.length T.c1) ∧ w'.cell? ⟨hx, 2, none⟩ = some (.slice T.a2 H.ands.length T.c2) ∧ w'.cell? ⟨hx, 3, none⟩ = some (.slice T.a3 H.outs.length T.c3) ∧ w'.cell? ⟨gx, 0, none⟩ = some (.int .i64 G.ins) ∧ w'.cell? ⟨gx, 1, none⟩ = some (.slice S.a1 G.lats.length S.c1) ∧ w'.cell? ⟨gx, 2, none⟩ = some (.slice S.a2 G.ands.length S.c2) ∧ w'.cell? ⟨gx, 3, none⟩ = some (.slice S.a3 G.outs.length S.c3)) := fun w' hb => ⟨(hb.cell (p := ⟨hx, 0, none⟩) hxl).trans h0, (hb.cell (p := ⟨hx, 1, none⟩) hxl).trans h1, (hb.cell (p := ⟨hx, 2, none⟩) hxl).trans h2, (hb.cell (p := ⟨hx, 3, none⟩) hxl).trans h3, (hb.cell (p := ⟨gx, 0, none⟩) hgl).trans q0, (hb.cell (p := ⟨gx, 1, none⟩) hgl).trans q1, (hb.cell (p := ⟨gx, 2, none⟩) hgl).trans q2, (hb.cell (p := ⟨gx, 3, none⟩) hgl).trans q3⟩
    clear HC HX2 HXW HT2 HBW2 HX1 CG1 HB1 HB2
    (
    refine wp_region_noPanic ?_
    refine wp_region_held_drew (S := (fun w' => w'.cell? ⟨hx, 0, none⟩ = some (.int .i64 H.ins) ∧ w'.cell? ⟨hx, 1, none⟩ = some (.slice T.a1 H.lats.length T.c1) ∧ w'.cell? ⟨hx, 2, none⟩ = some (.slice T.a2 H.ands.length T.c2) ∧ w'.cell? ⟨hx, 3, none⟩ = some (.slice T.a3 H.outs.length T.c3) ∧ w'.cell? ⟨gx, 0, none⟩ = some (.int .i64 G.ins) ∧ w'.cell? ⟨gx, 1, none⟩ = some (.slice S.a1 G.lats.length S.c1) ∧ w'.cell? ⟨gx, 2, none⟩ = some (.slice S.a2 G.ands.length S.c2) ∧ w'.cell? ⟨gx, 3, none⟩ = some (.slice S.a3 G.outs.length S.c3))) (by kernel_rfl) (by first | assumption | exact ⟨h0, h1, h2, h3, q0, q1, q2, q3⟩ | exact K8.out _ (by assumption)) (fun hHeld => ?_)
    refine wpAnyH_take (i := 0) (oi := _) (v := ?_) rfl (by kernel_rfl) (by kernel_rfl) (by kernel_rfl) (fun _ _ _ h => h) (Or.inl ⟨by rfl, ?_⟩) (by assumption) ?_
    rotate_left
    · (intro w0 hSw; (try dsimp only at hSw); (try simp only [List.getElem_toArray, List.getElem_cons_zero]); go_simp; try (with_reducible rfl))
    try simp only [Act.put, List.getElem_toArray, List.getElem_cons_zero, List.setIfInBounds_toArray, List.set_cons_zero, List.set_cons_succ]
    refine wpAnyH_take (i := 1) (oi := _) (v := ?_) rfl (by kernel_rfl) (by kernel_rfl) (by kernel_rfl) (fun _ _ _ h => h) (Or.inl ⟨by rfl, ?_⟩) (by assumption) ?_
    rotate_left
    · (intro w0 hSw; (try dsimp only at hSw); (try simp only [List.getElem_toArray, List.getElem_cons_zero, List.getElem_cons_succ]); go_simp; try (with_reducible rfl))
    try simp only [Act.put, List.getElem_toArray, List.getElem_cons_zero, List.getElem_cons_succ, List.setIfInBounds_toArray, List.set_cons_zero, List.set_cons_succ]
    refine wpAnyH_ready (rs := [2]) (by kernel_rfl) (by simp) ?_
    refine AllReadyH.cons (o := _) rfl (fun K hK => ?_) AllReadyH.nil
    (try simp only [List.getElem_toArray, List.getElem_cons_zero, List.getElem_cons_succ])
    go_simp
    go_at_call 9
    refine (CG.out _ (Below.drew HBW.out)).mono ?_
    rintro e w3 ⟨⟨T', rfl, hat3⟩, hb3⟩
    replace hb3 : Below W.heap.size W w3 := (Below.drew (Below.refl W.heap.size W)).trans hb3
    have hat3' := (HAT2.out.to hb3).mono hb3.size
    go_wp2_with fail
    refine hK.out _ _ (by first | assumption | exact ⟨h0, h1, h2, h3, q0, q1, q2, q3⟩ | exact K8.out _ (by assumption)) (fun hHeld1 => ?_)
    clear hK K
    try simp only [Act.put, List.setIfInBounds_toArray, List.set_cons_zero, List.set_cons_succ]
    refine wpAnyH_ready (rs := [3]) (by kernel_rfl) (by simp) ?_
    refine AllReadyH.cons (o := _) rfl (fun K hK => ?_) AllReadyH.nil
    (try simp only [List.getElem_toArray, List.getElem_cons_zero, List.getElem_cons_succ])
    go_simp
    go_at_call 8
    refine (sameGraph_any w3.heap.size w3 T T' H hat3' hat3 (Nat.le_refl _)).mono ?_
    rintro e w4 ⟨rfl, hb4⟩
    have hb34 : Below W.heap.size W w4 := hb3.trans (hb4.mono hb3.size)
    go_wp2_with fail
    refine hK.out _ _ (by first | assumption | exact ⟨h0, h1, h2, h3, q0, q1, q2, q3⟩ | exact K8.out _ (by assumption)) (fun hHeld2 => ?_)
    clear hK K
    try simp only [Act.put, List.setIfInBounds_toArray, List.set_cons_zero, List.set_cons_succ]
    refine wpAnyH_take (i := 4) (oi := _) (v := ?_) rfl (by kernel_rfl) (by kernel_rfl) (by kernel_rfl) (fun _ _ _ h => h) (Or.inl ⟨by rfl, ?_⟩) (by assumption) ?_
    rotate_left
    · (intro w0 hSw; (try dsimp only at hSw); (try simp only [List.getElem_toArray, List.getElem_cons_zero, List.getElem_cons_succ]); go_simp; try (with_reducible rfl))
    try simp only [Act.put, List.getElem_toArray, List.getElem_cons_zero, List.getElem_cons_succ, List.setIfInBounds_toArray, List.set_cons_zero, List.set_cons_succ]
    refine wpAnyH_done (by kernel_rfl) ?_ _
    refine NoPanic.normal ?_
    )
    go_wp2
    go_ret
    exact ⟨rfl, HBW.out.trans (hb34.mono HBW.out.size)⟩

set_option maxRecDepth 100000 in
set_option maxHeartbeats 8000000 in
theorem law_cleans (B : Nat) (w : World) (S : GrS) (G : GrD) (h : GrAt B w S G) (hB : B ≤ w.heap.size) :
    Calls Try.prog 3 #[.agg (S.cells G)] w fun e w' => e = .returned (.bool true) ∧ Below w.heap.size w w' := by
  have SM : Hid (∀ w : World, Calls Try.prog 5 #[] w fun e w' => ∃ S, e = .returned (.agg (GrS.cells S tinyG)) ∧ GrAt w'.heap.size w' S tinyG ∧ Below w.heap.size w w') := tiny_any
  have RT : Hid (∀ (w : World) S, GrAt w.heap.size w S tinyG → Calls Try.prog 4 #[.agg (GrS.cells S tinyG)] w fun e w' => e = .returned (.bool true) ∧ Below w.heap.size w w') := fun w S hg => lawCleaned_any w.heap.size w S tinyG hg (Nat.le_refl _)
  have RG : Hid (∀ w', Below w.heap.size w w' → Calls Try.prog 4 #[.agg (S.cells G)] w' fun e w'' => e = .returned (.bool true) ∧ Below w'.heap.size w' w'') := fun w' hw' =>
    lawCleaned_any B w' S G (h.to (hw'.mono hB)) (Nat.le_trans hB hw'.size)
  clear h
  generalize hcs : S.cells G = cs at *
  have hcs' : cs = #[.int .i64 G.ins, .slice S.a1 G.lats.length S.c1, .slice S.a2 G.ands.length S.c2, .slice S.a3 G.outs.length S.c3] := hcs.symm
  clear hcs
  subst hcs'
  go_enter Try.func3, Try.ntmps3
  go_wp2_with fail
  generalize hW : World.alloc w _ = W
  have HB : Hid (Below w.heap.size w W) := by rw [← hW]; exact (Below.refl _ _).alloc (Nat.le_refl _) _
  have hN : w.heap.size < W.heap.size := by rw [← hW]; simp
  have HX : Hid (BoxAt W w.heap.size S G) := by
    rw [← hW]
    exact ⟨by simp, by simp, by simp, by simp, by simp⟩
  clear hW
  go_at_call 5
  refine (SM.out _).mono ?_
  rintro e w1 ⟨S1, rfl, hn1, hb1⟩
  have HB1 := hidden hb1
  have HR1 := hidden (RT.out w1 S1 hn1)
  clear hb1 hn1 SM RT
  go_wp2_with fail
  go_at_call 4
  refine HR1.out.mono ?_
  rintro e w2 ⟨rfl, hb2⟩
  have HB2 : Hid (Below W.heap.size W w2) := HB1.out.trans (hb2.mono HB1.out.size)
  have HBw2 : Hid (Below w.heap.size w w2) := HB.out.trans (HB2.out.mono HB.out.size)
  have HX2 := hidden (HX.out.to hN HB2.out)
  have q0 := HX2.out.c0
  have q1 := HX2.out.c1
  have q2 := HX2.out.c2
  have q3 := HX2.out.c3
  clear hb2 HR1 HX HB1
  go_wp2_with fail
  go_at_call 4
  refine (RG.out _ HBw2.out).mono ?_
  rintro e w3 ⟨rfl, hb3⟩
  have HBw3 : Hid (Below w.heap.size w w3) := HBw2.out.trans (hb3.mono HBw2.out.size)
  clear hb3 RG
  go_wp2
  go_ret
  exact ⟨rfl, HBw3.out⟩

end Go.Proofs.Ytpipdmeibfkehaa
