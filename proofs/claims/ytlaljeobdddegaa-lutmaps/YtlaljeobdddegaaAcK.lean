import Derived.Test.YtlaljeobdddegaaAcJ
namespace Go.Proofs.Ytlaljeobdddegaa
open Go.RowKit

/-- what a variable that waited hangs on is needed -/
def lookC (G : GrD) (v : Nat) (s : List Bool × List Nat) : List Bool × List Nat :=
  if v < firstN G then
    match G.lats[v - 1 - G.ins.toNat]? with
    | some l => needC (l.next.toNat / 2) s
    | none => s
  else match G.ands[v - firstN G]? with
    | some d => needC (d.y.toNat / 2) (needC (d.x.toNat / 2) s)
    | none => s
theorem needC_wl {v m : Nat} {s : List Bool × List Nat} (h : s.2.length ≤ m) : (needC v s).2.length ≤ m + 1 := by
  unfold needC
  split
  · omega
  · simp; omega

set_option maxRecDepth 100000 in
set_option maxHeartbeats 8000000 in
theorem look_any (C B : Nat) (w : World) (sb gb g n ni : Nat) (S : GrS) (G : GrD) (hF : FineG G ni n) (s : List Bool × List Nat) (wv : Value) (h : SiAt C w sb gb g n s wv) (hC : C ≤ w.heap.size) (hbx : BoxAt w gb S G) (hgbC : gb < C) (hat : GrAt B w S G) (hBC : B ≤ C) (v : Nat) (hv0 : ni < v) (hvn : v < n) (hwl : s.2.length ≤ 59999) :
    Calls Try.prog 47 #[.pointer (some ⟨sb, 0, none⟩), .int .i64 (v : Int)] w fun e w' => (∃ x, e = .returned x) ∧ (∃ wv', SiAt C w' sb gb g n (lookC G v s) wv') ∧ Below C w w' := by
  have FG : Hid (∀ w', Below w.heap.size w w' → Calls Try.prog 30 #[.pointer (some ⟨gb, 0, none⟩)] w' fun e w'' => e = .returned (.int .i64 (firstN G : Nat)) ∧ ∃ k, w'' = w'.drewN k) := fun w' hw' => by
    have := firstGate_any w' gb S G (hbx.to hbx.lt hw') (by rw [hF.ins]; omega) (by have := hF.first; have := hF.le; have := hF.all; rw [hF.ins]; omega) hat.ll
    rw [show G.first = ((firstN G : Nat) : Int) by unfold GrD.first; rw [hF.ins]; have := hF.first; omega] at this
    exact this
  have HF := hidden hF
  have hf1 := hF.first
  have hf2 := hF.all
  have hf3 := hF.le
  have HIN := hidden hF.ins
  obtain ⟨first, hfd⟩ : ∃ f, f = firstN G := ⟨_, rfl⟩
  have HFD := hidden hfd
  rw [← hfd] at FG hf1 hf2
  have hf4 : ni + G.lats.length + 1 ≤ first := by omega
  have hf5 : first ≤ ni + G.lats.length + 1 := by omega
  have c0 := h.c0
  have HSI := hidden h
  have HBX := hidden hbx
  have HAT := hidden hat
  have hgl := hbx.lt
  clear h hbx hat hF hfd hf1
  go_enter Try.func47, Try.ntmps47
  go_wp2_with fail
  go_at_call 30
  refine (FG.out _ (Below.refl _ _)).mono ?_
  rintro e w0 ⟨rfl, dk, hw0⟩
  have HB0 : Hid (Below w.heap.size w w0) := by rw [hw0]; exact Below.drewN (Below.refl _ _) _
  have hs0 : w.heap.size ≤ w0.heap.size := HB0.out.size
  have HS0 : Hid (SiAt C w0 sb gb g n s wv) := HSI.out.to HB0.out
  have HX0 : Hid (BoxAt w0 gb S G) := HBX.out.to hgl HB0.out
  have HA0 : Hid (GrAt B w0 S G) := HAT.out.to (HB0.out.mono (by omega))
  clear hw0 HSI HBX HAT c0 FG
  by_cases hvf : v < first
  · obtain ⟨i, hi⟩ : ∃ i, i = v - 1 - ni := ⟨_, rfl⟩
    have hil : i < G.lats.length := by omega
    obtain ⟨d, hd⟩ := getElem_lt hil
    obtain ⟨rb, ro, ea, hrb, hrc⟩ := HA0.out.l.el hd
    obtain ⟨ln, lx⟩ := d
    have hrbC : rb < C := by omega
    have hin := HF.out.lats _ (List.mem_of_getElem? hd)
    simp only at hin
    have hLK : lookC G v s = needC (ln.toNat / 2) s := by
      unfold lookC
      rw [if_pos (by have := HFD.out; omega), HIN.out, show ((ni : Int)).toNat = ni by omega, ← hi, hd]
    have HLK := hidden hLK
    have ND : Hid (∀ w', Below w0.heap.size w0 w' → Calls Try.prog 46 #[.pointer (some ⟨sb, 0, none⟩), .int .i64 ln] w' fun e w'' => (∃ x, e = .returned x) ∧ (∃ wv', SiAt C w'' sb gb g n (needC (ln.toNat / 2) s) wv') ∧ Below C w' w'') := fun w' hw' => needC_any C w' sb gb g n s wv (HS0.out.to hw') (by have := hw'.size; omega) hf3 ln _ hin.1 rfl (by omega) (by omega)
    have c0 := HS0.out.c0
    have q0 := HX0.out.c0
    rw [HIN.out] at q0
    have q1 := HX0.out.c1
    rw [ea] at q1
    have cL : w0.cell? ⟨rb, ro + i * 2, none⟩ = some (.int .i64 ln) := hrc 0 _ rfl
    have hvI : (v : Int) < (first : Int) := by omega
    have e1 : IntKind.i64.wrap ((v : Int) - 1) = (v : Int) - 1 := wrapI _ (by omega) (by omega)
    have e2 : IntKind.i64.wrap ((v : Int) - 1 - (ni : Int)) = (i : Int) := by rw [wrapI _ (by omega) (by omega)]; omega
    have hiI : (i : Int) < (G.lats.length : Int) := by omega
    clear hrc ea hd hLK hi hrb hin HX0 HA0
    go_upto_region 2 with fail
    (
    refine wp_region_noPanic ?_
    refine wp_region_held_drew (S := (fun w' => w'.cell? ⟨sb, 0, none⟩ = some (.pointer (some ⟨gb, 0, none⟩)) ∧ w'.cell? ⟨gb, 0, none⟩ = some (.int .i64 (ni : Int)) ∧ w'.cell? ⟨gb, 1, none⟩ = some (.slice (some ⟨rb, ro, none⟩) G.lats.length S.c1) ∧ w'.cell? ⟨rb, ro + i * 2, none⟩ = some (.int .i64 ln))) (by kernel_rfl) (by first | assumption | exact ⟨c0, q0, q1, cL⟩ | exact ⟨hsi2.c0, (hb2.cell (p := ⟨gb, 0, none⟩) hgbC).trans q0, (hb2.cell (p := ⟨gb, 1, none⟩) hgbC).trans q1, (hb2.cell (p := ⟨rb, ro + i * 2, none⟩) hrbC).trans cL⟩) (fun hHeld => ?_)
    refine wpAnyH_take (i := 0) (oi := _) (v := ?_) rfl (by kernel_rfl) (by kernel_rfl) (by kernel_rfl) (fun _ _ _ h => h) (Or.inl ⟨by rfl, ?_⟩) (by assumption) ?_
    rotate_left
    · (intro w0 hSw; (try dsimp only at hSw); (try simp only [List.getElem_toArray, List.getElem_cons_zero]); go_simp; try (with_reducible rfl))
    try simp only [Act.put, List.getElem_toArray, List.getElem_cons_zero, List.setIfInBounds_toArray, List.set_cons_zero, List.set_cons_succ]
    refine wpAnyH_take (i := 1) (oi := _) (v := ?_) rfl (by kernel_rfl) (by kernel_rfl) (by kernel_rfl) (fun _ _ _ h => h) (Or.inl ⟨by rfl, ?_⟩) (by assumption) ?_
    rotate_left
    · (intro w0 hSw; (try dsimp only at hSw); (try simp only [List.getElem_toArray, List.getElem_cons_zero, List.getElem_cons_succ]); go_simp; try (with_reducible rfl))
    try simp only [Act.put, List.getElem_toArray, List.getElem_cons_zero, List.getElem_cons_succ, List.setIfInBounds_toArray, List.set_cons_zero, List.set_cons_succ]
    refine wpAnyH_take (i := 2) (oi := _) (v := ?_) rfl (by kernel_rfl) (by kernel_rfl) (by kernel_rfl) (fun _ _ _ h => h) (Or.inl ⟨by rfl, ?_⟩) (by assumption) ?_
    rotate_left
    · (intro w0 hSw; (try dsimp only at hSw); (try simp only [List.getElem_toArray, List.getElem_cons_zero, List.getElem_cons_succ]); go_simp; try (with_reducible rfl))
    try simp only [Act.put, List.getElem_toArray, List.getElem_cons_zero, List.getElem_cons_succ, List.setIfInBounds_toArray, List.set_cons_zero, List.set_cons_succ]
    refine wpAnyH_take (i := 3) (oi := _) (v := ?_) rfl (by kernel_rfl) (by kernel_rfl) (by kernel_rfl) (fun _ _ _ h => h) (Or.inl ⟨by rfl, ?_⟩) (by assumption) ?_
    rotate_left
    · (intro w0 hSw; (try dsimp only at hSw); (try simp only [List.getElem_toArray, List.getElem_cons_zero, List.getElem_cons_succ]); go_simp; try (with_reducible rfl))
    try simp only [Act.put, List.getElem_toArray, List.getElem_cons_zero, List.getElem_cons_succ, List.setIfInBounds_toArray, List.set_cons_zero, List.set_cons_succ]
    refine wpAnyH_take (i := 4) (oi := _) (v := ?_) rfl (by kernel_rfl) (by kernel_rfl) (by kernel_rfl) (fun _ _ _ h => h) (Or.inl ⟨by rfl, ?_⟩) (by assumption) ?_
    rotate_left
    · (intro w0 hSw; (try dsimp only at hSw); (try simp only [List.getElem_toArray, List.getElem_cons_zero, List.getElem_cons_succ]); go_simp; try (with_reducible rfl))
    try simp only [Act.put, List.getElem_toArray, List.getElem_cons_zero, List.getElem_cons_succ, List.setIfInBounds_toArray, List.set_cons_zero, List.set_cons_succ]
    refine wpAnyH_take (i := 5) (oi := _) (v := ?_) rfl (by kernel_rfl) (by kernel_rfl) (by kernel_rfl) (fun _ _ _ h => h) (Or.inl ⟨by rfl, ?_⟩) (by assumption) ?_
    rotate_left
    · (intro w0 hSw; (try dsimp only at hSw); (try simp only [List.getElem_toArray, List.getElem_cons_zero, List.getElem_cons_succ]); go_simp; try (with_reducible rfl))
    try simp only [Act.put, List.getElem_toArray, List.getElem_cons_zero, List.getElem_cons_succ, List.setIfInBounds_toArray, List.set_cons_zero, List.set_cons_succ]
    refine wpAnyH_take (i := 6) (oi := _) (v := ?_) rfl (by kernel_rfl) (by kernel_rfl) (by kernel_rfl) (fun _ _ _ h => h) (Or.inl ⟨by rfl, ?_⟩) (by assumption) ?_
    rotate_left
    · (intro w0 hSw; (try dsimp only at hSw); (try simp only [List.getElem_toArray, List.getElem_cons_zero, List.getElem_cons_succ]); go_simp; try (with_reducible rfl))
    try simp only [Act.put, List.getElem_toArray, List.getElem_cons_zero, List.getElem_cons_succ, List.setIfInBounds_toArray, List.set_cons_zero, List.set_cons_succ]
    refine wpAnyH_take (i := 7) (oi := _) (v := ?_) rfl (by kernel_rfl) (by kernel_rfl) (by kernel_rfl) (fun _ _ _ h => h) (Or.inl ⟨by rfl, ?_⟩) (by assumption) ?_
    rotate_left
    · (intro w0 hSw; (try dsimp only at hSw); (try simp only [List.getElem_toArray, List.getElem_cons_zero, List.getElem_cons_succ]); go_simp; try (with_reducible rfl))
    try simp only [Act.put, List.getElem_toArray, List.getElem_cons_zero, List.getElem_cons_succ, List.setIfInBounds_toArray, List.set_cons_zero, List.set_cons_succ]
    refine wpAnyH_take (i := 8) (oi := _) (v := ?_) rfl (by kernel_rfl) (by kernel_rfl) (by kernel_rfl) (fun _ _ _ h => h) (Or.inl ⟨by rfl, ?_⟩) (by assumption) ?_
    rotate_left
    · (intro w0 hSw; (try dsimp only at hSw); (try simp only [List.getElem_toArray, List.getElem_cons_zero, List.getElem_cons_succ]); go_simp; try (with_reducible rfl))
    try simp only [Act.put, List.getElem_toArray, List.getElem_cons_zero, List.getElem_cons_succ, List.setIfInBounds_toArray, List.set_cons_zero, List.set_cons_succ]
    refine wpAnyH_take (i := 9) (oi := _) (v := ?_) rfl (by kernel_rfl) (by kernel_rfl) (by kernel_rfl) (fun _ _ _ h => h) (Or.inl ⟨by rfl, ?_⟩) (by assumption) ?_
    rotate_left
    · (intro w0 hSw; (try dsimp only at hSw); (try simp only [List.getElem_toArray, List.getElem_cons_zero, List.getElem_cons_succ]); go_simp; try (with_reducible rfl))
    try simp only [Act.put, List.getElem_toArray, List.getElem_cons_zero, List.getElem_cons_succ, List.setIfInBounds_toArray, List.set_cons_zero, List.set_cons_succ]
    refine wpAnyH_take (i := 10) (oi := _) (v := ?_) rfl (by kernel_rfl) (by kernel_rfl) (by kernel_rfl) (fun _ _ _ h => h) (Or.inl ⟨by rfl, ?_⟩) (by assumption) ?_
    rotate_left
    · (intro w0 hSw; (try dsimp only at hSw); (try simp only [List.getElem_toArray, List.getElem_cons_zero, List.getElem_cons_succ]); go_simp; try (with_reducible rfl))
    try simp only [Act.put, List.getElem_toArray, List.getElem_cons_zero, List.getElem_cons_succ, List.setIfInBounds_toArray, List.set_cons_zero, List.set_cons_succ]
    refine wpAnyH_take (i := 11) (oi := _) (v := ?_) rfl (by kernel_rfl) (by kernel_rfl) (by kernel_rfl) (fun _ _ _ h => h) (Or.inl ⟨by rfl, ?_⟩) (by assumption) ?_
    rotate_left
    · (intro w0 hSw; (try dsimp only at hSw); (try simp only [List.getElem_toArray, List.getElem_cons_zero, List.getElem_cons_succ]); go_simp; try (with_reducible rfl))
    try simp only [Act.put, List.getElem_toArray, List.getElem_cons_zero, List.getElem_cons_succ, List.setIfInBounds_toArray, List.set_cons_zero, List.set_cons_succ]
    refine wpAnyH_take (i := 12) (oi := _) (v := ?_) rfl (by kernel_rfl) (by kernel_rfl) (by kernel_rfl) (fun _ _ _ h => h) (Or.inl ⟨by rfl, ?_⟩) (by assumption) ?_
    rotate_left
    · (intro w0 hSw; (try dsimp only at hSw); (try simp only [List.getElem_toArray, List.getElem_cons_zero, List.getElem_cons_succ]); go_simp; try (with_reducible rfl))
    try simp only [Act.put, List.getElem_toArray, List.getElem_cons_zero, List.getElem_cons_succ, List.setIfInBounds_toArray, List.set_cons_zero, List.set_cons_succ]
    refine wpAnyH_take (i := 13) (oi := _) (v := ?_) rfl (by kernel_rfl) (by kernel_rfl) (by kernel_rfl) (fun _ _ _ h => h) (Or.inl ⟨by rfl, ?_⟩) (by assumption) ?_
    rotate_left
    · (intro w0 hSw; (try dsimp only at hSw); (try simp only [List.getElem_toArray, List.getElem_cons_zero, List.getElem_cons_succ]); go_simp; try (with_reducible rfl))
    try simp only [Act.put, List.getElem_toArray, List.getElem_cons_zero, List.getElem_cons_succ, List.setIfInBounds_toArray, List.set_cons_zero, List.set_cons_succ]
    refine wpAnyH_take (i := 14) (oi := _) (v := ?_) rfl (by kernel_rfl) (by kernel_rfl) (by kernel_rfl) (fun _ _ _ h => h) (Or.inl ⟨by rfl, ?_⟩) (by assumption) ?_
    rotate_left
    · (intro w0 hSw; (try dsimp only at hSw); (try simp only [List.getElem_toArray, List.getElem_cons_zero, List.getElem_cons_succ]); go_simp; try (with_reducible rfl))
    try simp only [Act.put, List.getElem_toArray, List.getElem_cons_zero, List.getElem_cons_succ, List.setIfInBounds_toArray, List.set_cons_zero, List.set_cons_succ]
    refine wpAnyH_take (i := 15) (oi := _) (v := ?_) rfl (by kernel_rfl) (by kernel_rfl) (by kernel_rfl) (fun _ _ _ h => h) (Or.inl ⟨by rfl, ?_⟩) (by assumption) ?_
    rotate_left
    · (intro w0 hSw; (try dsimp only at hSw); (try simp only [List.getElem_toArray, List.getElem_cons_zero, List.getElem_cons_succ]); go_simp; try (with_reducible rfl))
    try simp only [Act.put, List.getElem_toArray, List.getElem_cons_zero, List.getElem_cons_succ, List.setIfInBounds_toArray, List.set_cons_zero, List.set_cons_succ]
    refine wpAnyH_take (i := 16) (oi := _) (v := ?_) rfl (by kernel_rfl) (by kernel_rfl) (by kernel_rfl) (fun _ _ _ h => h) (Or.inl ⟨by rfl, ?_⟩) (by assumption) ?_
    rotate_left
    · (intro w0 hSw; (try dsimp only at hSw); (try simp only [List.getElem_toArray, List.getElem_cons_zero, List.getElem_cons_succ]); go_simp; try (with_reducible rfl))
    try simp only [Act.put, List.getElem_toArray, List.getElem_cons_zero, List.getElem_cons_succ, List.setIfInBounds_toArray, List.set_cons_zero, List.set_cons_succ]
    refine wpAnyH_take (i := 17) (oi := _) (v := ?_) rfl (by kernel_rfl) (by kernel_rfl) (by kernel_rfl) (fun _ _ _ h => h) (Or.inl ⟨by rfl, ?_⟩) (by assumption) ?_
    rotate_left
    · (intro w0 hSw; (try dsimp only at hSw); (try simp only [List.getElem_toArray, List.getElem_cons_zero, List.getElem_cons_succ]); go_simp; try (with_reducible rfl))
    try simp only [Act.put, List.getElem_toArray, List.getElem_cons_zero, List.getElem_cons_succ, List.setIfInBounds_toArray, List.set_cons_zero, List.set_cons_succ]
    refine wpAnyH_take (i := 18) (oi := _) (v := ?_) rfl (by kernel_rfl) (by kernel_rfl) (by kernel_rfl) (fun _ _ _ h => h) (Or.inl ⟨by rfl, ?_⟩) (by assumption) ?_
    rotate_left
    · (intro w0 hSw; (try dsimp only at hSw); (try simp only [List.getElem_toArray, List.getElem_cons_zero, List.getElem_cons_succ]); go_simp; try (with_reducible rfl))
    try simp only [Act.put, List.getElem_toArray, List.getElem_cons_zero, List.getElem_cons_succ, List.setIfInBounds_toArray, List.set_cons_zero, List.set_cons_succ]
    refine wpAnyH_take (i := 19) (oi := _) (v := ?_) rfl (by kernel_rfl) (by kernel_rfl) (by kernel_rfl) (fun _ _ _ h => h) (Or.inl ⟨by rfl, ?_⟩) (by assumption) ?_
    rotate_left
    · (intro w0 hSw; (try dsimp only at hSw); (try simp only [List.getElem_toArray, List.getElem_cons_zero, List.getElem_cons_succ]); go_simp; try (with_reducible rfl))
    try simp only [Act.put, List.getElem_toArray, List.getElem_cons_zero, List.getElem_cons_succ, List.setIfInBounds_toArray, List.set_cons_zero, List.set_cons_succ]
    refine wpAnyH_take (i := 20) (oi := _) (v := ?_) rfl (by kernel_rfl) (by kernel_rfl) (by kernel_rfl) (fun _ _ _ h => h) (Or.inl ⟨by rfl, ?_⟩) (by assumption) ?_
    rotate_left
    · (intro w0 hSw; (try dsimp only at hSw); (try simp only [List.getElem_toArray, List.getElem_cons_zero, List.getElem_cons_succ]); go_simp; try (with_reducible rfl))
    try simp only [Act.put, List.getElem_toArray, List.getElem_cons_zero, List.getElem_cons_succ, List.setIfInBounds_toArray, List.set_cons_zero, List.set_cons_succ]
    refine wpAnyH_ready (rs := [21]) (by kernel_rfl) (by simp) ?_
    refine AllReadyH.cons (o := _) rfl (fun K hK => ?_) AllReadyH.nil
    (try simp only [List.getElem_toArray, List.getElem_cons_zero, List.getElem_cons_succ])
    go_simp
    go_at_call 46
    refine (ND.out _ (Below.drew (Below.refl _ _))).mono ?_
    rintro e w2 ⟨⟨_, rfl⟩, ⟨wv2, hsi2⟩, hb2⟩
    replace hb2 : Below C w0 w2 := (Below.drew (Below.refl C w0)).trans hb2
    go_wp2_with fail
    refine hK.out _ _ (by first | assumption | exact ⟨c0, q0, q1, cL⟩ | exact ⟨hsi2.c0, (hb2.cell (p := ⟨gb, 0, none⟩) hgbC).trans q0, (hb2.cell (p := ⟨gb, 1, none⟩) hgbC).trans q1, (hb2.cell (p := ⟨rb, ro + i * 2, none⟩) hrbC).trans cL⟩) (fun hHeld1 => ?_)
    clear hK K
    try simp only [Act.put, List.setIfInBounds_toArray, List.set_cons_zero, List.set_cons_succ]
    refine wpAnyH_done (by kernel_rfl) ?_ _
    refine NoPanic.normal ?_
    )
    go_wp2
    (try simp only [Exit.inBlock, Exit.then])
    refine bodyPost_ret (results_none rfl _ _ _) rfl ?_
    refine ⟨⟨_, rfl⟩, ?_, (HB0.out.mono hC).trans hb2⟩
    rw [HLK.out]; exact ⟨wv2, hsi2⟩
  · obtain ⟨i, hi⟩ : ∃ i, i = v - first := ⟨_, rfl⟩
    have hil : i < G.ands.length := by omega
    obtain ⟨d, hd⟩ := getElem_lt hil
    obtain ⟨rb, ro, ea, hrb, hrc⟩ := HA0.out.a.el hd
    obtain ⟨dx, dy⟩ := d
    have hrbC : rb < C := by omega
    have hin := HF.out.ands i _ hd
    rw [← HFD.out] at hin
    simp only at hin
    have hLK : lookC G v s = needC (dy.toNat / 2) (needC (dx.toNat / 2) s) := by
      unfold lookC
      rw [if_neg (by have := HFD.out; omega), ← HFD.out, ← hi, hd]
    have HLK := hidden hLK
    have N1 : Hid (∀ w', Below w0.heap.size w0 w' → Calls Try.prog 46 #[.pointer (some ⟨sb, 0, none⟩), .int .i64 dx] w' fun e w'' => (∃ x, e = .returned x) ∧ (∃ wv', SiAt C w'' sb gb g n (needC (dx.toNat / 2) s) wv') ∧ Below C w' w'') := fun w' hw' => needC_any C w' sb gb g n s wv (HS0.out.to hw') (by have := hw'.size; omega) hf3 dx _ hin.1.1 rfl (by omega) (by omega)
    have N2 : Hid (∀ w' wv', SiAt C w' sb gb g n (needC (dx.toNat / 2) s) wv' → C ≤ w'.heap.size → Calls Try.prog 46 #[.pointer (some ⟨sb, 0, none⟩), .int .i64 dy] w' fun e w'' => (∃ x, e = .returned x) ∧ (∃ wv', SiAt C w'' sb gb g n (needC (dy.toNat / 2) (needC (dx.toNat / 2) s)) wv') ∧ Below C w' w'') := fun w' wv' hs' hc' => needC_any C w' sb gb g n _ wv' hs' hc' hf3 dy _ hin.2.1 rfl (by omega) (needC_wl (by omega))
    have c0 := HS0.out.c0
    have q2 := HX0.out.c2
    rw [ea] at q2
    have cx : w0.cell? ⟨rb, ro + i * 2, none⟩ = some (.int .i64 dx) := hrc 0 _ rfl
    have cy : w0.cell? ⟨rb, ro + i * 2 + 1, none⟩ = some (.int .i64 dy) := hrc 1 _ rfl
    have hvI : ¬ (v : Int) < (first : Int) := by omega
    have e2 : IntKind.i64.wrap ((v : Int) - (first : Int)) = (i : Int) := by rw [wrapI _ (by omega) (by omega)]; omega
    have hiI : (i : Int) < (G.ands.length : Int) := by omega
    clear hrc ea hd hLK hi hrb hin HX0 HA0
    go_wp2_with fail
    go_at_call 46
    refine (N1.out _ (Below.refl _ _)).mono ?_
    rintro e w1 ⟨⟨_, rfl⟩, ⟨wv1, hsi1⟩, hb1⟩
    have c0' := hsi1.c0
    have q2' := (hb1.cell (p := ⟨gb, 2, none⟩) hgbC).trans q2
    have cy' := (hb1.cell (p := ⟨rb, ro + i * 2 + 1, none⟩) hrbC).trans cy
    have HS1 := hidden hsi1
    have HB1 := hidden hb1
    have hs1 := hb1.size
    clear hsi1 hb1 c0 q2 cx cy
    go_wp2_with fail
    go_at_call 46
    refine (N2.out _ _ HS1.out (by omega)).mono ?_
    rintro e w2 ⟨⟨_, rfl⟩, hsi2, hb2⟩
    go_wp2
    go_end0
    refine ⟨⟨_, rfl⟩, ?_, ((HB0.out.mono hC).trans HB1.out).trans hb2⟩
    rw [HLK.out]; exact hsi2

end Go.Proofs.Ytlaljeobdddegaa
