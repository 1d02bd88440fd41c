import Derived.Test.YtibjgoigdajkkaaDoorJ11
namespace Go.Proofs.YtibjgoigdajkkaaDoor
open Go.RowKit

theorem fold_most (ds l : List Int) (m : Int) (h : 0 ≤ m) : l.foldl (fun m s => mostI m (ds.getD s.toNat 0)) m = mostI m (l.foldl (fun m s => mostI m (ds.getD s.toNat 0)) 0) := by
  induction l generalizing m with
  | nil => show m = mostI m 0; unfold mostI; split <;> omega
  | cons a r ih =>
    rw [List.foldl_cons, List.foldl_cons]
    generalize ds.getD a.toNat 0 = x
    rw [ih (mostI m x) (by unfold mostI; split <;> omega), ih (mostI 0 x) (by unfold mostI; split <;> omega)]
    generalize List.foldl _ 0 r = y
    unfold mostI
    repeat' split
    all_goals omega
theorem maxD_nonneg (ds l : List Int) : 0 ≤ maxD ds l := by
  have key : ∀ (l : List Int) (m : Int), 0 ≤ m → 0 ≤ l.foldl (fun m s => mostI m (ds.getD s.toNat 0)) m := by
    intro l
    induction l with
    | nil => intro m h; exact h
    | cons a r ih => intro m h; rw [List.foldl_cons]; exact ih _ (by unfold mostI; split <;> omega)
  exact key l 0 (by omega)
theorem maxD_append (ds a b : List Int) : maxD ds (a ++ b) = mostI (maxD ds a) (maxD ds b) := by
  unfold maxD
  rw [List.foldl_append]
  exact fold_most ds b _ (maxD_nonneg ds a)
set_option maxRecDepth 100000 in
set_option maxHeartbeats 8000000 in
theorem deepest_any (B : Nat) (w : World) (gb : Nat) (S : NtS) (N : NtD) (hx : BoxAt w gb S N) (hA : NtAt B w S N) (hB : B ≤ w.heap.size) (hin : NtIn N) :
    Calls Tryd.prog 51 #[.pointer (some ⟨gb, 0, none⟩)] w fun e w' => e = .returned (.int .i64 (depN N)) ∧ Below w.heap.size w w' := by
  have HIN := hidden hin
  have i0 := hin.i0
  have i1 := hin.i1
  have il := hin.il
  have htl := hin.tl
  have hol := hin.ol
  have hnl : N.next.length ≤ 17592186044416 := by rw [hin.nl]; exact il
  obtain ⟨f, HFF⟩ : ∃ f : Nat, Hid ((f : Int) = N.first) := ⟨N.first.toNat, by have : N.first = 2 + N.ins + N.init.length := rfl; show _ = _; omega⟩
  have hf : f ≤ 17600000000000 := by have := HFF.out; have : N.first = 2 + N.ins + N.init.length := rfl; omega
  obtain ⟨tl, HTL⟩ : ∃ n, Hid (n = N.tabs.length) := ⟨_, rfl⟩
  obtain ⟨nl, HNL⟩ : ∃ n, Hid (n = N.next.length) := ⟨_, rfl⟩
  obtain ⟨ol, HOL⟩ : ∃ n, Hid (n = N.outs.length) := ⟨_, rfl⟩
  rw [← HTL.out] at htl
  rw [← HNL.out] at hnl
  rw [← HOL.out] at hol
  obtain ⟨nn, HNN⟩ : ∃ n : Nat, Hid (n = f + tl) := ⟨_, rfl⟩
  have hnn : nn ≤ 22000000000000 := by rw [HNN.out]; omega
  have HSG : Hid (N.sigs = (nn : Int)) := by
    show N.first + N.tabs.length = _
    rw [← HFF.out, HNN.out, HTL.out]; omega
  have SA : Hid (∀ q, Calls Tryd.prog 33 #[.pointer (some ⟨gb, 0, none⟩)] (w.drewN q) fun e w' => e = .returned (.int .i64 N.sigs) ∧ ∃ n, w' = (w.drewN q).drewN n) := fun q => signals_any (w.drewN q) gb S N (hx.to hx.lt (Below.drewN (Below.refl _ _) q)) i0 i1 hA.li hA.lt
  rw [HSG.out] at SA
  obtain ⟨r, HRD⟩ : ∃ r, Hid (r = depN N) := ⟨_, rfl⟩
  rw [← HRD.out]
  obtain ⟨ic, hi, hz, hs, hby⟩ := info_int
  have HI := hidden hi
  have HZ := hidden hz
  have HSI := hidden hs
  have HBY := hidden hby
  have HX0 := hidden hx
  have HA0 := hidden hA
  have HLI := hidden hA.li
  have blt := hx.lt
  have hmkb : ic.bytes * nn ≤ 281474976710656 := by rw [HBY.out]; omega
  have hmx : nn ≤ maxLen := by simp only [maxLen]; omega
  clear hi hz hs hby hin hx hA
  obtain ⟨sa1, sc1, sa2, sc2, sa3, sc3, sa4, sc4⟩ := S
  try dsimp only at *
  have tok : True := trivial
  go_enter Tryd.func51, Tryd.ntmps51
  go_wp2_with fail
  go_at_call 33
  refine (SA.out 0).mono ?_
  rintro e w0 ⟨rfl, q, hw0⟩
  have HB0 : Hid (Below w.heap.size w w0) := by rw [hw0]; exact Below.drewN (Below.drewN (Below.refl _ _) 0) _
  have HS0 : Hid (w0.heap.size = w.heap.size) := by show _ = _; rw [hw0]; rfl
  clear hw0 SA
  go_upto_region 2 with (have _t := tok; at_make; (refine wpList_make_full _ rfl (.tmp 7) (.tmp 7) 24 rfl w0.heap.size 3 ic _ 1 Tryd.underlying24 HI.out HZ.out HSI.out .i64 .i64 (nn : Int) (nn : Int) nn rfl rfl rfl rfl hmkb hmx (Nat.le_refl _) ?_; intro w1 hown1 hgrow1; have HB1 := hidden (none_below hgrow1); have HOM := hidden hown1; clear tok hown1 hgrow1))
  generalize hV : World.alloc w1 _ = V
  have hs0 := HS0.out
  obtain ⟨g, hg⟩ : ∃ x, x = w0.heap.size := ⟨_, rfl⟩
  obtain ⟨pd, hpd⟩ : ∃ x, x = w1.heap.size := ⟨_, rfl⟩
  obtain ⟨C, hC⟩ : ∃ x, x = w.heap.size := ⟨_, rfl⟩
  have HBV1 : Hid (Below w1.heap.size w1 V) := by rw [← hV]; exact (Below.refl _ _).alloc (Nat.le_refl _) _
  have HBV : Hid (Below w.heap.size w V) := HB0.out.trans (by have := HB1.out.trans (HBV1.out.mono HB1.out.size); rwa [hs0] at this)
  have hgl : g < w1.heap.size := by rw [hg]; exact (HOM.out.lt w0.heap.size rfl).2
  have HOV : Hid (V.ownsRow C 3 1 (.slice (some ⟨g, 0, none⟩) nn nn) nn ((dRow N f 0).map iV)) := by
    have := own_below HOM.out HBV1.out
    rw [made_zero, ← hg] at this
    have e : dRow N f 0 = List.replicate nn 0 := by
      unfold dRow dsN
      simp only [List.take_zero, List.foldl_nil, Nat.sub_zero]
      rw [List.replicate_append_replicate, HNN.out, HTL.out]
    rw [e]
    exact own_mono this (by omega)
  have HPD : Hid (V.cell? ⟨pd, 0, none⟩ = some (.slice (some ⟨g, 0, none⟩) nn nn)) := by show _ = _; rw [← hV, hpd, cell_new rfl, hg]; rfl
  have HXV : Hid (BoxAt V gb ⟨sa1, sc1, sa2, sc2, sa3, sc3, sa4, sc4⟩ N) := HX0.out.to HX0.out.lt HBV.out
  have HAV : Hid (NtAt B V ⟨sa1, sc1, sa2, sc2, sa3, sc3, sa4, sc4⟩ N) := HA0.out.to (HBV.out.mono hB)
  have hpg : pd ≠ g := by omega
  have hbg : gb ≠ g := by omega
  have hCg : C ≤ g := by omega
  have hBg : B ≤ g := by omega
  have hBV : B ≤ V.heap.size := Nat.le_trans hB HBV.out.size
  rw [← hg, ← hpd]
  have FA : Hid (∀ w', V.grownBy w' (some g) → Calls Tryd.prog 31 #[.pointer (some ⟨gb, 0, none⟩)] w' fun e w'' => e = .returned (.int .i64 (f : Int)) ∧ ∃ n, w'' = w'.drewN n) := fun w' hw' => by
    rw [HFF.out]
    exact firstTable_any w' gb _ N (HXV.out.grown hw' hbg) i0 i1 HLI.out
  have HBG : Hid (∀ w', V.grownBy w' (some g) → Below w.heap.size w w') := fun w' hw' => HBV.out.trans (below_grown hw' HBV.out.size (fun k hk => by cases hk; rw [← hC]; exact hCg))
  clear hV hg hpd hC HOM HBV1 HB1 HB0 HX0 HA0 hgl hs0 HS0
  have q2 := HXV.out.c2
  dsimp only at q2
  rw [← HTL.out] at q2
  go_wp2_with fail
  go_loopw [15] (fun i' w' => ∃ (k : Nat), k ≤ tl ∧ i' = .int .i64 k ∧ Hid (w'.ownsRow C 3 1 (.slice (some ⟨g, 0, none⟩) nn nn) nn ((dRow N f k).map iV)) ∧ Hid (V.grownBy w' (some g))) (fun i' _ => tl - (intOf i').toNat)
  case atStart => exact ⟨0, Nat.zero_le _, rfl, HOV.out, grown_refl _ _⟩
  case round =>
    clear HOV
    obtain ⟨k, hk, rfl, HO, HG⟩ := hrel
    by_cases hlt : k < tl
    · have hltI : (k : Int) < (tl : Int) := by omega
      obtain ⟨d, hd⟩ := getElem_lt (show k < N.tabs.length by rw [← HTL.out]; exact hlt)
      obtain ⟨ob, oo, ea, hob, hc⟩ := HAV.out.t.el hd
      have hobg : ob ≠ g := by omega
      have HRI := hidden (HAV.out.ti d (List.mem_of_getElem? hd))
      have HSB := hidden (HIN.out.ti k d hd)
      have h4 := (HIN.out.t4 d (List.mem_of_getElem? hd)).1
      have HNX0 := hidden (dRow_next (f := f) hd)
      obtain ⟨da, dc, ins, bits⟩ := d
      have c0 : V.cell? ⟨ob, oo + k * 2, none⟩ = some (.slice da ins.length dc) := hc 0 _ rfl
      dsimp only at HRI HSB HNX0 h4
      obtain ⟨x, HXX⟩ : ∃ x, Hid (x = maxD (dsN f (N.tabs.take k)) ins) := ⟨_, rfl⟩
      have hxb : 0 ≤ x ∧ x ≤ (tl : Int) := by
        rw [HXX.out]
        refine maxD_le (by omega) (fun y hy => ?_) ins
        have := dsN_le f (N.tabs.take k) y hy
        rw [List.length_take] at this
        have := HTL.out
        omega
      have HNX : Hid (((dRow N f k).map iV).set (f + k) (.int .i64 (1 + x)) = (dRow N f (k + 1)).map iV) := by
        have := HNX0.out
        rw [← HXX.out, Int.add_comm x 1] at this
        exact this
      obtain ⟨m, HM⟩ : ∃ m, Hid (m = ins.length) := ⟨_, rfl⟩
      have MO : Hid (∀ v, V.grownBy v (some g) → v.ownsRow C 3 1 (.slice (some ⟨g, 0, none⟩) nn nn) nn ((dRow N f k).map iV) → Calls Tryd.prog 67 #[.slice da m dc, .pointer (some ⟨pd, 0, none⟩)] v fun e w' => e = .returned (.int .i64 x) ∧ w' = v) := fun v hv ho => by
        rw [HXX.out, HM.out]
        refine deepOne_any B v pd g nn _ da dc ins (hv.cell HPD.out (by intro e; cases e; exact hpg rfl)) (HRI.out.to (below_grown hv hBV (fun k hk => by cases hk; exact hBg))) (fun s hs => ?_) (by omega)
        have hsb := HSB.out s hs
        rw [← HFF.out] at hsb
        refine ⟨hsb.1, by have := HNN.out; omega, ?_⟩
        have := ho.cellAt s.toNat (by have := HNN.out; omega)
        rw [this, List.getElem?_map, dRow_at (by have := HTL.out; omega) hsb.1 hsb.2]
        rfl
      rw [← HM.out] at c0
      subst ea
      have e2 : IntKind.i64.wrap ((k : Int) + 1) = (k : Int) + 1 := wrapI _ (by omega) (by omega)
      have e3 : IntKind.i64.wrap ((f : Int) + (k : Int)) = (f : Int) + (k : Int) := wrapI _ (by omega) (by omega)
      have e4 : IntKind.i64.wrap (1 + x) = 1 + x := wrapI _ (by omega) (by omega)
      have e5 : ((f : Int) + (k : Int)).toNat = f + k := by omega
      have hfk : (f : Int) + (k : Int) < (nn : Int) := by rw [HNN.out]; omega
      have hfk0 : 0 ≤ (f : Int) + (k : Int) := by omega
      have KP : Hid (∀ w', V.grownBy w' (some g) → (fun w' => w'.cell? ⟨pd, 0, none⟩ = some (.slice (some ⟨g, 0, none⟩) nn nn) ∧ w'.cell? ⟨gb, 2, none⟩ = some (.slice (some ⟨ob, oo, none⟩) tl sc2) ∧ w'.cell? ⟨ob, oo + k * 2, none⟩ = some (.slice da m dc)) w') := fun w' hw' => ⟨hw'.cell HPD.out (by intro e; cases e; exact hpg rfl), hw'.cell q2 (by intro e; cases e; exact hbg rfl), hw'.cell c0 (by intro e; cases e; exact hobg rfl)⟩
      have HGD : V.grownBy wr.drew (some g) := grown_trans HG.out (grown_drew _ _)
      clear hd hc hob HNX0 HRI HSB h4 HXX HM c0
      go_wp2_with fail
      refine wp_region_noPanic ?_
      refine wp_region_held_drew (S := (fun w' => w'.cell? ⟨pd, 0, none⟩ = some (.slice (some ⟨g, 0, none⟩) nn nn) ∧ w'.cell? ⟨gb, 2, none⟩ = some (.slice (some ⟨ob, oo, none⟩) tl sc2) ∧ w'.cell? ⟨ob, oo + k * 2, none⟩ = some (.slice da m dc))) (by kernel_rfl) (by first | assumption | exact KP.out _ (by assumption) | exact KP.out _ (HGS _)) (fun hHeld => ?_)
      refine wpAnyH_take (i := 0) (oi := _) (v := ?_) rfl (by kernel_rfl) (by kernel_rfl) (by kernel_rfl) (fun _ _ _ h => h) (Or.inl ⟨by rfl, ?_⟩) (by assumption) ?_
      rotate_left
      · (intro w0 hSw; (try dsimp only at hSw); (try simp only [List.getElem_toArray, List.getElem_cons_zero]); go_simp; try (with_reducible rfl))
      try simp only [Act.put, List.getElem_toArray, List.getElem_cons_zero, List.setIfInBounds_toArray, List.set_cons_zero, List.set_cons_succ]
      refine wpAnyH_take (i := 1) (oi := _) (v := ?_) rfl (by kernel_rfl) (by kernel_rfl) (by kernel_rfl) (fun _ _ _ h => h) (Or.inl ⟨by rfl, ?_⟩) (by assumption) ?_
      rotate_left
      · (intro w0 hSw; (try dsimp only at hSw); (try simp only [List.getElem_toArray, List.getElem_cons_zero, List.getElem_cons_succ]); go_simp; try (with_reducible rfl))
      try simp only [Act.put, List.getElem_toArray, List.getElem_cons_zero, List.getElem_cons_succ, List.setIfInBounds_toArray, List.set_cons_zero, List.set_cons_succ]
      refine wpAnyH_take (i := 3) (oi := _) (v := ?_) rfl (by kernel_rfl) (by kernel_rfl) (by kernel_rfl) (fun _ _ _ h => h) (Or.inl ⟨by rfl, ?_⟩) (by assumption) ?_
      rotate_left
      · (intro w0 hSw; (try dsimp only at hSw); (try simp only [List.getElem_toArray, List.getElem_cons_zero, List.getElem_cons_succ]); go_simp; try (with_reducible rfl))
      try simp only [Act.put, List.getElem_toArray, List.getElem_cons_zero, List.getElem_cons_succ, List.setIfInBounds_toArray, List.set_cons_zero, List.set_cons_succ]
      refine wpAnyH_take (i := 5) (oi := _) (v := ?_) rfl (by kernel_rfl) (by kernel_rfl) (by kernel_rfl) (fun _ _ _ h => h) (Or.inl ⟨by rfl, ?_⟩) (by assumption) ?_
      rotate_left
      · (intro w0 hSw; (try dsimp only at hSw); (try simp only [List.getElem_toArray, List.getElem_cons_zero, List.getElem_cons_succ]); go_simp; try (with_reducible rfl))
      try simp only [Act.put, List.getElem_toArray, List.getElem_cons_zero, List.getElem_cons_succ, List.setIfInBounds_toArray, List.set_cons_zero, List.set_cons_succ]
      refine wpAnyH_take (i := 6) (oi := _) (v := ?_) rfl (by kernel_rfl) (by kernel_rfl) (by kernel_rfl) (fun _ _ _ h => h) (Or.inl ⟨by rfl, ?_⟩) (by assumption) ?_
      rotate_left
      · (intro w0 hSw; (try dsimp only at hSw); (try simp only [List.getElem_toArray, List.getElem_cons_zero, List.getElem_cons_succ]); go_simp; try (with_reducible rfl))
      try simp only [Act.put, List.getElem_toArray, List.getElem_cons_zero, List.getElem_cons_succ, List.setIfInBounds_toArray, List.set_cons_zero, List.set_cons_succ]
      refine wpAnyH_take (i := 7) (oi := _) (v := ?_) rfl (by kernel_rfl) (by kernel_rfl) (by kernel_rfl) (fun _ _ _ h => h) (Or.inl ⟨by rfl, ?_⟩) (by assumption) ?_
      rotate_left
      · (intro w0 hSw; (try dsimp only at hSw); (try simp only [List.getElem_toArray, List.getElem_cons_zero, List.getElem_cons_succ]); go_simp; try (with_reducible rfl))
      try simp only [Act.put, List.getElem_toArray, List.getElem_cons_zero, List.getElem_cons_succ, List.setIfInBounds_toArray, List.set_cons_zero, List.set_cons_succ]
      refine wpAnyH_take (i := 8) (oi := _) (v := ?_) rfl (by kernel_rfl) (by kernel_rfl) (by kernel_rfl) (fun _ _ _ h => h) (Or.inl ⟨by rfl, ?_⟩) (by assumption) ?_
      rotate_left
      · (intro w0 hSw; (try dsimp only at hSw); (try simp only [List.getElem_toArray, List.getElem_cons_zero, List.getElem_cons_succ]); go_simp; try (with_reducible rfl))
      try simp only [Act.put, List.getElem_toArray, List.getElem_cons_zero, List.getElem_cons_succ, List.setIfInBounds_toArray, List.set_cons_zero, List.set_cons_succ]
      refine wpAnyH_take (i := 9) (oi := _) (v := ?_) rfl (by kernel_rfl) (by kernel_rfl) (by kernel_rfl) (fun _ _ _ h => h) (Or.inl ⟨by rfl, ?_⟩) (by assumption) ?_
      rotate_left
      · (intro w0 hSw; (try dsimp only at hSw); (try simp only [List.getElem_toArray, List.getElem_cons_zero, List.getElem_cons_succ]); go_simp; try (with_reducible rfl))
      try simp only [Act.put, List.getElem_toArray, List.getElem_cons_zero, List.getElem_cons_succ, List.setIfInBounds_toArray, List.set_cons_zero, List.set_cons_succ]
      refine wpAnyH_take (i := 10) (oi := _) (v := ?_) rfl (by kernel_rfl) (by kernel_rfl) (by kernel_rfl) (fun _ _ _ h => h) (Or.inl ⟨by rfl, ?_⟩) (by assumption) ?_
      rotate_left
      · (intro w0 hSw; (try dsimp only at hSw); (try simp only [List.getElem_toArray, List.getElem_cons_zero, List.getElem_cons_succ]); go_simp; try (with_reducible rfl))
      try simp only [Act.put, List.getElem_toArray, List.getElem_cons_zero, List.getElem_cons_succ, List.setIfInBounds_toArray, List.set_cons_zero, List.set_cons_succ]
      refine wpAnyH_take (i := 11) (oi := _) (v := ?_) rfl (by kernel_rfl) (by kernel_rfl) (by kernel_rfl) (fun _ _ _ h => h) (Or.inl ⟨by rfl, ?_⟩) (by assumption) ?_
      rotate_left
      · (intro w0 hSw; (try dsimp only at hSw); (try simp only [List.getElem_toArray, List.getElem_cons_zero, List.getElem_cons_succ]); go_simp; try (with_reducible rfl))
      try simp only [Act.put, List.getElem_toArray, List.getElem_cons_zero, List.getElem_cons_succ, List.setIfInBounds_toArray, List.set_cons_zero, List.set_cons_succ]
      refine wpAnyH_take (i := 12) (oi := _) (v := ?_) rfl (by kernel_rfl) (by kernel_rfl) (by kernel_rfl) (fun _ _ _ h => h) (Or.inl ⟨by rfl, ?_⟩) (by assumption) ?_
      rotate_left
      · (intro w0 hSw; (try dsimp only at hSw); (try simp only [List.getElem_toArray, List.getElem_cons_zero, List.getElem_cons_succ]); go_simp; try (with_reducible rfl))
      try simp only [Act.put, List.getElem_toArray, List.getElem_cons_zero, List.getElem_cons_succ, List.setIfInBounds_toArray, List.set_cons_zero, List.set_cons_succ]
      refine wpAnyH_take (i := 13) (oi := _) (v := ?_) rfl (by kernel_rfl) (by kernel_rfl) (by kernel_rfl) (fun _ _ _ h => h) (Or.inl ⟨by rfl, ?_⟩) (by assumption) ?_
      rotate_left
      · (intro w0 hSw; (try dsimp only at hSw); (try simp only [List.getElem_toArray, List.getElem_cons_zero, List.getElem_cons_succ]); go_simp; try (with_reducible rfl))
      try simp only [Act.put, List.getElem_toArray, List.getElem_cons_zero, List.getElem_cons_succ, List.setIfInBounds_toArray, List.set_cons_zero, List.set_cons_succ]
      refine wpAnyH_ready (rs := [2]) (by kernel_rfl) (by simp) ?_
      refine AllReadyH.cons (o := _) rfl (fun K hK => ?_) AllReadyH.nil
      (try simp only [List.getElem_toArray, List.getElem_cons_zero, List.getElem_cons_succ])
      go_simp
      go_at_call 31
      refine (FA.out _ HGD).mono ?_
      rintro e v1 ⟨rfl, n1, hv1⟩
      have HG1 : V.grownBy v1 (some g) := by rw [hv1]; exact grown_drewN HGD _
      have HO1 : Hid (v1.ownsRow C 3 1 (.slice (some ⟨g, 0, none⟩) nn nn) nn ((dRow N f k).map iV)) := by rw [hv1]; exact own_below HO.out (Below.drewN (Below.drewN (Below.refl _ _) 1) n1)
      have HGS : ∀ v, V.grownBy (v1.setCell ⟨g, f + k, none⟩ v) (some g) := fun v => grown_trans HG1 (grown_setCell _ _ _ _)
      have hcl := HO1.out.cellAt (f + k) (by rw [HNN.out]; omega)
      have hfz := HO1.out.frozenAt (f + k)
      have hold : ∃ old, v1.cell? ⟨g, f + k, none⟩ = some old := by
        rw [hcl]
        have hL : f + k < ((dRow N f k).map iV).length := by rw [List.length_map, dRow_len _ _ _ (by have := HTL.out; omega)]; have := HTL.out; omega
        exact ⟨_, List.getElem?_eq_getElem hL⟩
      obtain ⟨old, hold⟩ := hold
      clear hv1 hcl
      go_wp2_with fail
      refine hK.out _ _ (by first | assumption | exact KP.out _ (by assumption) | exact KP.out _ (HGS _)) (fun hHeld2 => ?_)
      clear hK K
      (try simp only [Act.put]); (try simp only [List.setIfInBounds_toArray]); (try simp only [List.set_cons_zero, List.set_cons_succ])
      refine wpAnyH_take (i := 4) (oi := _) (v := ?_) rfl (by kernel_rfl) (by kernel_rfl) (by kernel_rfl) (fun _ _ _ h => h) (Or.inl ⟨by rfl, ?_⟩) (by assumption) ?_
      rotate_left
      · (intro w0 hSw; (try dsimp only at hSw); (try simp only [List.getElem_toArray, List.getElem_cons_zero, List.getElem_cons_succ]); go_simp; try (with_reducible rfl))
      try simp only [Act.put, List.getElem_toArray, List.getElem_cons_zero, List.getElem_cons_succ, List.setIfInBounds_toArray, List.set_cons_zero, List.set_cons_succ]
      refine wpAnyH_ready (rs := [14]) (by kernel_rfl) (by simp) ?_
      refine AllReadyH.cons (o := _) rfl (fun K hK => ?_) AllReadyH.nil
      (try simp only [List.getElem_toArray, List.getElem_cons_zero, List.getElem_cons_succ])
      go_simp
      go_at_call 67
      refine (MO.out v1 HG1 HO1.out).mono ?_
      rintro e v2 ⟨rfl, hv2⟩
      rw [hv2]
      clear hv2
      go_wp2_with fail
      refine hK.out _ _ (by first | assumption | exact KP.out _ (by assumption) | exact KP.out _ (HGS _)) (fun hHeld14 => ?_)
      clear hK K
      (try simp only [Act.put]); (try simp only [List.setIfInBounds_toArray]); (try simp only [List.set_cons_zero, List.set_cons_succ])
      refine wpAnyH_take (i := 15) (oi := _) (v := ?_) rfl (by kernel_rfl) (by kernel_rfl) (by kernel_rfl) (fun _ _ _ h => h) (Or.inl ⟨by rfl, ?_⟩) (by assumption) ?_
      rotate_left
      · (intro w0 hSw; (try dsimp only at hSw); (try simp only [List.getElem_toArray, List.getElem_cons_zero, List.getElem_cons_succ]); go_simp; try (with_reducible rfl))
      try simp only [Act.put, List.getElem_toArray, List.getElem_cons_zero, List.getElem_cons_succ, List.setIfInBounds_toArray, List.set_cons_zero, List.set_cons_succ]
      refine wpAnyH_take (i := 16) (oi := _) (v := ?_) rfl (by kernel_rfl) (by kernel_rfl) (by kernel_rfl) (fun _ _ _ h => h) (Or.inl ⟨by rfl, ?_⟩) (by assumption) ?_
      rotate_left
      · (intro w0 hSw; (try dsimp only at hSw); (try simp only [List.getElem_toArray, List.getElem_cons_zero, List.getElem_cons_succ]); go_simp; try (with_reducible rfl))
      try simp only [Act.put, List.getElem_toArray, List.getElem_cons_zero, List.getElem_cons_succ, List.setIfInBounds_toArray, List.set_cons_zero, List.set_cons_succ]
      refine wpAnyH_ready (rs := [17]) (by kernel_rfl) (by simp) ?_
      refine AllReadyH.cons (o := _) rfl (fun K hK => ?_) AllReadyH.nil
      (try simp only [List.getElem_toArray, List.getElem_cons_zero, List.getElem_cons_succ])
      go_simp
      refine hK.out _ _ (by first | assumption | exact KP.out _ (by assumption) | exact KP.out _ (HGS _)) (fun hHeld17 => ?_)
      clear hK K
      (try simp only [Act.put]); (try simp only [List.setIfInBounds_toArray]); (try simp only [List.set_cons_zero, List.set_cons_succ])
      refine wpAnyH_done (by kernel_rfl) ?_ _
      refine NoPanic.normal ?_
      have HST := hidden (HO1.out.stored (f + k) (.int .i64 (1 + x)))
      have HON : Hid ((v1.setCell ⟨g, f + k, none⟩ (.int .i64 (1 + x))).ownsRow C 3 1 (.slice (some ⟨g, 0, none⟩) nn nn) nn ((dRow N f (k + 1)).map iV)) := by
        rw [← HNX.out]
        exact HST.out.1
      have HGN : Hid (V.grownBy (v1.setCell ⟨g, f + k, none⟩ (.int .i64 (1 + x))) (some g)) := HGS _
      clear HST HGS HO1 HG1 hold hfz HGD
      go_wp2
      go_roundw
      case measure => simp [intOf]; omega
      case rel => exact ⟨k + 1, by omega, by simp, HON.out, HGN.out⟩
    · have hge : ¬ ((k : Int) < (tl : Int)) := by omega
      obtain ⟨D, HDD⟩ : ∃ D, Hid (D = dsN N.first.toNat N.tabs) := ⟨_, rfl⟩
      have hfn : N.first.toNat = f := by have := HFF.out; omega
      obtain ⟨a, HAA⟩ : ∃ a, Hid (a = maxD D N.outs) := ⟨_, rfl⟩
      obtain ⟨b, HBB⟩ : ∃ b, Hid (b = maxD D N.next) := ⟨_, rfl⟩
      have HRE : Hid (r = mostI a b) := by show _ = _; rw [HRD.out, HAA.out, HBB.out, HDD.out, ← maxD_append]; rfl
      obtain ⟨Q, HQD⟩ : ∃ Q : World → Prop, Hid (∀ v, Q v ↔ (V.grownBy v (some g) ∧ v.ownsRow C 3 1 (.slice (some ⟨g, 0, none⟩) nn nn) nn (D.map iV))) := ⟨fun v => _, fun v => Iff.rfl⟩
      have HOD : Hid (wr.ownsRow C 3 1 (.slice (some ⟨g, 0, none⟩) nn nn) nn (D.map iV)) := by
        have := HO.out
        rw [show dRow N f k = D by unfold dRow; rw [List.take_of_length_le (by have := HTL.out; omega), HDD.out, hfn, show N.tabs.length - k = 0 by have := HTL.out; omega]; simp] at this
        exact this
      have HQ0 : Q wr.drew := (HQD.out _).2 ⟨grown_trans HG.out (grown_drew _ _), own_below HOD.out (Below.drewN (Below.refl _ _) 1)⟩
      have HDL : Hid (D.length = nn) := by show _ = _; rw [HDD.out, dsN_len, hfn, HNN.out, HTL.out]
      have HCD : Hid (∀ v, Q v → ∀ s : Int, 0 ≤ s → s < (nn : Int) → v.cell? ⟨g, s.toNat, none⟩ = some (.int .i64 (D.getD s.toNat 0))) := fun v hv s h0 h1 => by
        have := ((HQD.out v).1 hv).2.cellAt s.toNat (by omega)
        have hlt2 : s.toNat < D.length := by rw [HDL.out]; omega
        rw [this, List.getElem?_map, List.getElem?_eq_getElem hlt2, List.getD_eq_getElem?_getD, List.getElem?_eq_getElem hlt2]
        rfl
      have MO : Hid (∀ (la : Option Addr) (lc : Nat) (l : List Int), RowAt B V la 1 (l.map intC) → (∀ s, s ∈ l → 0 ≤ s ∧ s < N.sigs) → l.length ≤ 17592186044416 → ∀ v, Q v → Calls Tryd.prog 67 #[.slice la l.length lc, .pointer (some ⟨pd, 0, none⟩)] v fun e w' => e = .returned (.int .i64 (maxD D l)) ∧ w' = v) := fun la lc l hr hs hl v hv => by
        have hq := ((HQD.out v).1 hv).1
        refine deepOne_any B v pd g nn D la lc l (hq.cell HPD.out (by intro e; cases e; exact hpg rfl)) (hr.to (below_grown hq hBV (fun k hk => by cases hk; exact hBg))) (fun s hm => ?_) hl
        have h1 := hs s hm
        rw [HSG.out] at h1
        exact ⟨h1.1, h1.2, HCD.out v hv s h1.1 h1.2⟩
      have MO1 : Hid (∀ v, Q v → Calls Tryd.prog 67 #[.slice sa4 ol sc4, .pointer (some ⟨pd, 0, none⟩)] v fun e w' => e = .returned (.int .i64 a) ∧ w' = v) := fun v hv => by
        rw [HOL.out, HAA.out]; exact MO.out sa4 sc4 N.outs HAV.out.o HIN.out.oi (by have := HOL.out; omega) v hv
      have MO2 : Hid (∀ v, Q v → Calls Tryd.prog 67 #[.slice sa3 nl sc3, .pointer (some ⟨pd, 0, none⟩)] v fun e w' => e = .returned (.int .i64 b) ∧ w' = v) := fun v hv => by
        rw [HNL.out, HBB.out]; exact MO.out sa3 sc3 N.next HAV.out.n HIN.out.ni (by have := HNL.out; omega) v hv
      have q3 := HXV.out.c3
      have q4 := HXV.out.c4
      dsimp only at q3 q4
      rw [← HNL.out] at q3
      rw [← HOL.out] at q4
      have KP : Hid (∀ w', Q w' → (fun w' => w'.cell? ⟨gb, 3, none⟩ = some (.slice sa3 nl sc3) ∧ w'.cell? ⟨gb, 4, none⟩ = some (.slice sa4 ol sc4)) w') := fun w' hw' => ⟨((HQD.out w').1 hw').1.cell q3 (by intro e; cases e; exact hbg rfl), ((HQD.out w').1 hw').1.cell q4 (by intro e; cases e; exact hbg rfl)⟩
      have QB : Hid (∀ w', Q w' → Below w.heap.size w w') := fun w' hw' => HBG.out w' ((HQD.out w').1 hw').1
      clear hfn HO HOD HAA HBB MO q3 q4 HCD HDL HDD HG
      unfold mostI at HRE
      by_cases hgt : b > a
      · rw [if_pos hgt] at HRE
        have hgt' : a < b := hgt
        go_upto_region 8 with fail
        refine wp_region_noPanic ?_
        refine wp_region_held_drew (S := (fun w' => w'.cell? ⟨gb, 3, none⟩ = some (.slice sa3 nl sc3) ∧ w'.cell? ⟨gb, 4, none⟩ = some (.slice sa4 ol sc4))) (by kernel_rfl) (by first | assumption | exact KP.out _ (by assumption)) (fun hHeld => ?_)
        refine wpAnyH_take (i := 0) (oi := _) (v := ?_) rfl (by kernel_rfl) (by kernel_rfl) (by kernel_rfl) (fun _ _ _ h => h) (Or.inl ⟨by rfl, ?_⟩) (by assumption) ?_
        rotate_left
        · (intro w0 hSw; (try dsimp only at hSw); (try simp only [List.getElem_toArray, List.getElem_cons_zero]); go_simp; try (with_reducible rfl))
        try simp only [Act.put, List.getElem_toArray, List.getElem_cons_zero, List.setIfInBounds_toArray, List.set_cons_zero, List.set_cons_succ]
        refine wpAnyH_take (i := 1) (oi := _) (v := ?_) rfl (by kernel_rfl) (by kernel_rfl) (by kernel_rfl) (fun _ _ _ h => h) (Or.inl ⟨by rfl, ?_⟩) (by assumption) ?_
        rotate_left
        · (intro w0 hSw; (try dsimp only at hSw); (try simp only [List.getElem_toArray, List.getElem_cons_zero, List.getElem_cons_succ]); go_simp; try (with_reducible rfl))
        try simp only [Act.put, List.getElem_toArray, List.getElem_cons_zero, List.getElem_cons_succ, List.setIfInBounds_toArray, List.set_cons_zero, List.set_cons_succ]
        refine wpAnyH_take (i := 2) (oi := _) (v := ?_) rfl (by kernel_rfl) (by kernel_rfl) (by kernel_rfl) (fun _ _ _ h => h) (Or.inl ⟨by rfl, ?_⟩) (by assumption) ?_
        rotate_left
        · (intro w0 hSw; (try dsimp only at hSw); (try simp only [List.getElem_toArray, List.getElem_cons_zero, List.getElem_cons_succ]); go_simp; try (with_reducible rfl))
        try simp only [Act.put, List.getElem_toArray, List.getElem_cons_zero, List.getElem_cons_succ, List.setIfInBounds_toArray, List.set_cons_zero, List.set_cons_succ]
        refine wpAnyH_take (i := 3) (oi := _) (v := ?_) rfl (by kernel_rfl) (by kernel_rfl) (by kernel_rfl) (fun _ _ _ h => h) (Or.inl ⟨by rfl, ?_⟩) (by assumption) ?_
        rotate_left
        · (intro w0 hSw; (try dsimp only at hSw); (try simp only [List.getElem_toArray, List.getElem_cons_zero, List.getElem_cons_succ]); go_simp; try (with_reducible rfl))
        try simp only [Act.put, List.getElem_toArray, List.getElem_cons_zero, List.getElem_cons_succ, List.setIfInBounds_toArray, List.set_cons_zero, List.set_cons_succ]
        refine wpAnyH_take (i := 4) (oi := _) (v := ?_) rfl (by kernel_rfl) (by kernel_rfl) (by kernel_rfl) (fun _ _ _ h => h) (Or.inl ⟨by rfl, ?_⟩) (by assumption) ?_
        rotate_left
        · (intro w0 hSw; (try dsimp only at hSw); (try simp only [List.getElem_toArray, List.getElem_cons_zero, List.getElem_cons_succ]); go_simp; try (with_reducible rfl))
        try simp only [Act.put, List.getElem_toArray, List.getElem_cons_zero, List.getElem_cons_succ, List.setIfInBounds_toArray, List.set_cons_zero, List.set_cons_succ]
        refine wpAnyH_take (i := 6) (oi := _) (v := ?_) rfl (by kernel_rfl) (by kernel_rfl) (by kernel_rfl) (fun _ _ _ h => h) (Or.inl ⟨by rfl, ?_⟩) (by assumption) ?_
        rotate_left
        · (intro w0 hSw; (try dsimp only at hSw); (try simp only [List.getElem_toArray, List.getElem_cons_zero, List.getElem_cons_succ]); go_simp; try (with_reducible rfl))
        try simp only [Act.put, List.getElem_toArray, List.getElem_cons_zero, List.getElem_cons_succ, List.setIfInBounds_toArray, List.set_cons_zero, List.set_cons_succ]
        refine wpAnyH_take (i := 7) (oi := _) (v := ?_) rfl (by kernel_rfl) (by kernel_rfl) (by kernel_rfl) (fun _ _ _ h => h) (Or.inl ⟨by rfl, ?_⟩) (by assumption) ?_
        rotate_left
        · (intro w0 hSw; (try dsimp only at hSw); (try simp only [List.getElem_toArray, List.getElem_cons_zero, List.getElem_cons_succ]); go_simp; try (with_reducible rfl))
        try simp only [Act.put, List.getElem_toArray, List.getElem_cons_zero, List.getElem_cons_succ, List.setIfInBounds_toArray, List.set_cons_zero, List.set_cons_succ]
        refine wpAnyH_take (i := 8) (oi := _) (v := ?_) rfl (by kernel_rfl) (by kernel_rfl) (by kernel_rfl) (fun _ _ _ h => h) (Or.inl ⟨by rfl, ?_⟩) (by assumption) ?_
        rotate_left
        · (intro w0 hSw; (try dsimp only at hSw); (try simp only [List.getElem_toArray, List.getElem_cons_zero, List.getElem_cons_succ]); go_simp; try (with_reducible rfl))
        try simp only [Act.put, List.getElem_toArray, List.getElem_cons_zero, List.getElem_cons_succ, List.setIfInBounds_toArray, List.set_cons_zero, List.set_cons_succ]
        refine wpAnyH_take (i := 9) (oi := _) (v := ?_) rfl (by kernel_rfl) (by kernel_rfl) (by kernel_rfl) (fun _ _ _ h => h) (Or.inl ⟨by rfl, ?_⟩) (by assumption) ?_
        rotate_left
        · (intro w0 hSw; (try dsimp only at hSw); (try simp only [List.getElem_toArray, List.getElem_cons_zero, List.getElem_cons_succ]); go_simp; try (with_reducible rfl))
        try simp only [Act.put, List.getElem_toArray, List.getElem_cons_zero, List.getElem_cons_succ, List.setIfInBounds_toArray, List.set_cons_zero, List.set_cons_succ]
        refine wpAnyH_take (i := 10) (oi := _) (v := ?_) rfl (by kernel_rfl) (by kernel_rfl) (by kernel_rfl) (fun _ _ _ h => h) (Or.inl ⟨by rfl, ?_⟩) (by assumption) ?_
        rotate_left
        · (intro w0 hSw; (try dsimp only at hSw); (try simp only [List.getElem_toArray, List.getElem_cons_zero, List.getElem_cons_succ]); go_simp; try (with_reducible rfl))
        try simp only [Act.put, List.getElem_toArray, List.getElem_cons_zero, List.getElem_cons_succ, List.setIfInBounds_toArray, List.set_cons_zero, List.set_cons_succ]
        refine wpAnyH_ready (rs := [5]) (by kernel_rfl) (by simp) ?_
        refine AllReadyH.cons (o := _) rfl (fun K hK => ?_) AllReadyH.nil
        (try simp only [List.getElem_toArray, List.getElem_cons_zero, List.getElem_cons_succ])
        go_simp
        go_at_call 67
        refine (MO1.out _ (by assumption)).mono ?_
        rintro e v1 ⟨rfl, hv1⟩
        have HQ1 : Q v1 := by rw [hv1]; assumption
        clear hv1
        go_wp2_with fail
        refine hK.out _ _ (by first | assumption | exact KP.out _ (by assumption)) (fun hHeld1 => ?_)
        clear hK K
        (try simp only [Act.put]); (try simp only [List.setIfInBounds_toArray]); (try simp only [List.set_cons_zero, List.set_cons_succ])
        refine wpAnyH_ready (rs := [11]) (by kernel_rfl) (by simp) ?_
        refine AllReadyH.cons (o := _) rfl (fun K hK => ?_) AllReadyH.nil
        (try simp only [List.getElem_toArray, List.getElem_cons_zero, List.getElem_cons_succ])
        go_simp
        go_at_call 67
        refine (MO2.out _ (by assumption)).mono ?_
        rintro e v2 ⟨rfl, hv2⟩
        have HQ2 : Q v2 := by rw [hv2]; assumption
        clear hv2
        go_wp2_with fail
        refine hK.out _ _ (by first | assumption | exact KP.out _ (by assumption)) (fun hHeld2 => ?_)
        clear hK K
        (try simp only [Act.put]); (try simp only [List.setIfInBounds_toArray]); (try simp only [List.set_cons_zero, List.set_cons_succ])
        refine wpAnyH_take (i := 12) (oi := _) (v := ?_) rfl (by kernel_rfl) (by kernel_rfl) (by kernel_rfl) (fun _ _ _ h => h) (Or.inl ⟨by rfl, ?_⟩) (by assumption) ?_
        rotate_left
        · (intro w0 hSw; (try dsimp only at hSw); (try simp only [List.getElem_toArray, List.getElem_cons_zero, List.getElem_cons_succ]); go_simp; try (with_reducible rfl))
        try simp only [Act.put, List.getElem_toArray, List.getElem_cons_zero, List.getElem_cons_succ, List.setIfInBounds_toArray, List.set_cons_zero, List.set_cons_succ]
        refine wpAnyH_take (i := 13) (oi := _) (v := ?_) rfl (by kernel_rfl) (by kernel_rfl) (by kernel_rfl) (fun _ _ _ h => h) (Or.inl ⟨by rfl, ?_⟩) (by assumption) ?_
        rotate_left
        · (intro w0 hSw; (try dsimp only at hSw); (try simp only [List.getElem_toArray, List.getElem_cons_zero, List.getElem_cons_succ]); go_simp; try (with_reducible rfl))
        try simp only [Act.put, List.getElem_toArray, List.getElem_cons_zero, List.getElem_cons_succ, List.setIfInBounds_toArray, List.set_cons_zero, List.set_cons_succ]
        refine wpAnyH_done (by kernel_rfl) ?_ _
        refine NoPanic.normal ?_
        have HBE := hidden (QB.out _ HQ2)
        go_wp2_with fail
        go_ret
        exact ⟨ret_int HRE.out.symm, HBE.out⟩
      · rw [if_neg hgt] at HRE
        have hgt' : ¬ a < b := hgt
        go_upto_region 8 with fail
        refine wp_region_noPanic ?_
        refine wp_region_held_drew (S := (fun w' => w'.cell? ⟨gb, 3, none⟩ = some (.slice sa3 nl sc3) ∧ w'.cell? ⟨gb, 4, none⟩ = some (.slice sa4 ol sc4))) (by kernel_rfl) (by first | assumption | exact KP.out _ (by assumption)) (fun hHeld => ?_)
        refine wpAnyH_take (i := 0) (oi := _) (v := ?_) rfl (by kernel_rfl) (by kernel_rfl) (by kernel_rfl) (fun _ _ _ h => h) (Or.inl ⟨by rfl, ?_⟩) (by assumption) ?_
        rotate_left
        · (intro w0 hSw; (try dsimp only at hSw); (try simp only [List.getElem_toArray, List.getElem_cons_zero]); go_simp; try (with_reducible rfl))
        try simp only [Act.put, List.getElem_toArray, List.getElem_cons_zero, List.setIfInBounds_toArray, List.set_cons_zero, List.set_cons_succ]
        refine wpAnyH_take (i := 1) (oi := _) (v := ?_) rfl (by kernel_rfl) (by kernel_rfl) (by kernel_rfl) (fun _ _ _ h => h) (Or.inl ⟨by rfl, ?_⟩) (by assumption) ?_
        rotate_left
        · (intro w0 hSw; (try dsimp only at hSw); (try simp only [List.getElem_toArray, List.getElem_cons_zero, List.getElem_cons_succ]); go_simp; try (with_reducible rfl))
        try simp only [Act.put, List.getElem_toArray, List.getElem_cons_zero, List.getElem_cons_succ, List.setIfInBounds_toArray, List.set_cons_zero, List.set_cons_succ]
        refine wpAnyH_take (i := 2) (oi := _) (v := ?_) rfl (by kernel_rfl) (by kernel_rfl) (by kernel_rfl) (fun _ _ _ h => h) (Or.inl ⟨by rfl, ?_⟩) (by assumption) ?_
        rotate_left
        · (intro w0 hSw; (try dsimp only at hSw); (try simp only [List.getElem_toArray, List.getElem_cons_zero, List.getElem_cons_succ]); go_simp; try (with_reducible rfl))
        try simp only [Act.put, List.getElem_toArray, List.getElem_cons_zero, List.getElem_cons_succ, List.setIfInBounds_toArray, List.set_cons_zero, List.set_cons_succ]
        refine wpAnyH_take (i := 3) (oi := _) (v := ?_) rfl (by kernel_rfl) (by kernel_rfl) (by kernel_rfl) (fun _ _ _ h => h) (Or.inl ⟨by rfl, ?_⟩) (by assumption) ?_
        rotate_left
        · (intro w0 hSw; (try dsimp only at hSw); (try simp only [List.getElem_toArray, List.getElem_cons_zero, List.getElem_cons_succ]); go_simp; try (with_reducible rfl))
        try simp only [Act.put, List.getElem_toArray, List.getElem_cons_zero, List.getElem_cons_succ, List.setIfInBounds_toArray, List.set_cons_zero, List.set_cons_succ]
        refine wpAnyH_take (i := 4) (oi := _) (v := ?_) rfl (by kernel_rfl) (by kernel_rfl) (by kernel_rfl) (fun _ _ _ h => h) (Or.inl ⟨by rfl, ?_⟩) (by assumption) ?_
        rotate_left
        · (intro w0 hSw; (try dsimp only at hSw); (try simp only [List.getElem_toArray, List.getElem_cons_zero, List.getElem_cons_succ]); go_simp; try (with_reducible rfl))
        try simp only [Act.put, List.getElem_toArray, List.getElem_cons_zero, List.getElem_cons_succ, List.setIfInBounds_toArray, List.set_cons_zero, List.set_cons_succ]
        refine wpAnyH_take (i := 6) (oi := _) (v := ?_) rfl (by kernel_rfl) (by kernel_rfl) (by kernel_rfl) (fun _ _ _ h => h) (Or.inl ⟨by rfl, ?_⟩) (by assumption) ?_
        rotate_left
        · (intro w0 hSw; (try dsimp only at hSw); (try simp only [List.getElem_toArray, List.getElem_cons_zero, List.getElem_cons_succ]); go_simp; try (with_reducible rfl))
        try simp only [Act.put, List.getElem_toArray, List.getElem_cons_zero, List.getElem_cons_succ, List.setIfInBounds_toArray, List.set_cons_zero, List.set_cons_succ]
        refine wpAnyH_take (i := 7) (oi := _) (v := ?_) rfl (by kernel_rfl) (by kernel_rfl) (by kernel_rfl) (fun _ _ _ h => h) (Or.inl ⟨by rfl, ?_⟩) (by assumption) ?_
        rotate_left
        · (intro w0 hSw; (try dsimp only at hSw); (try simp only [List.getElem_toArray, List.getElem_cons_zero, List.getElem_cons_succ]); go_simp; try (with_reducible rfl))
        try simp only [Act.put, List.getElem_toArray, List.getElem_cons_zero, List.getElem_cons_succ, List.setIfInBounds_toArray, List.set_cons_zero, List.set_cons_succ]
        refine wpAnyH_take (i := 8) (oi := _) (v := ?_) rfl (by kernel_rfl) (by kernel_rfl) (by kernel_rfl) (fun _ _ _ h => h) (Or.inl ⟨by rfl, ?_⟩) (by assumption) ?_
        rotate_left
        · (intro w0 hSw; (try dsimp only at hSw); (try simp only [List.getElem_toArray, List.getElem_cons_zero, List.getElem_cons_succ]); go_simp; try (with_reducible rfl))
        try simp only [Act.put, List.getElem_toArray, List.getElem_cons_zero, List.getElem_cons_succ, List.setIfInBounds_toArray, List.set_cons_zero, List.set_cons_succ]
        refine wpAnyH_take (i := 9) (oi := _) (v := ?_) rfl (by kernel_rfl) (by kernel_rfl) (by kernel_rfl) (fun _ _ _ h => h) (Or.inl ⟨by rfl, ?_⟩) (by assumption) ?_
        rotate_left
        · (intro w0 hSw; (try dsimp only at hSw); (try simp only [List.getElem_toArray, List.getElem_cons_zero, List.getElem_cons_succ]); go_simp; try (with_reducible rfl))
        try simp only [Act.put, List.getElem_toArray, List.getElem_cons_zero, List.getElem_cons_succ, List.setIfInBounds_toArray, List.set_cons_zero, List.set_cons_succ]
        refine wpAnyH_take (i := 10) (oi := _) (v := ?_) rfl (by kernel_rfl) (by kernel_rfl) (by kernel_rfl) (fun _ _ _ h => h) (Or.inl ⟨by rfl, ?_⟩) (by assumption) ?_
        rotate_left
        · (intro w0 hSw; (try dsimp only at hSw); (try simp only [List.getElem_toArray, List.getElem_cons_zero, List.getElem_cons_succ]); go_simp; try (with_reducible rfl))
        try simp only [Act.put, List.getElem_toArray, List.getElem_cons_zero, List.getElem_cons_succ, List.setIfInBounds_toArray, List.set_cons_zero, List.set_cons_succ]
        refine wpAnyH_ready (rs := [5]) (by kernel_rfl) (by simp) ?_
        refine AllReadyH.cons (o := _) rfl (fun K hK => ?_) AllReadyH.nil
        (try simp only [List.getElem_toArray, List.getElem_cons_zero, List.getElem_cons_succ])
        go_simp
        go_at_call 67
        refine (MO1.out _ (by assumption)).mono ?_
        rintro e v1 ⟨rfl, hv1⟩
        have HQ1 : Q v1 := by rw [hv1]; assumption
        clear hv1
        go_wp2_with fail
        refine hK.out _ _ (by first | assumption | exact KP.out _ (by assumption)) (fun hHeld1 => ?_)
        clear hK K
        (try simp only [Act.put]); (try simp only [List.setIfInBounds_toArray]); (try simp only [List.set_cons_zero, List.set_cons_succ])
        refine wpAnyH_ready (rs := [11]) (by kernel_rfl) (by simp) ?_
        refine AllReadyH.cons (o := _) rfl (fun K hK => ?_) AllReadyH.nil
        (try simp only [List.getElem_toArray, List.getElem_cons_zero, List.getElem_cons_succ])
        go_simp
        go_at_call 67
        refine (MO2.out _ (by assumption)).mono ?_
        rintro e v2 ⟨rfl, hv2⟩
        have HQ2 : Q v2 := by rw [hv2]; assumption
        clear hv2
        go_wp2_with fail
        refine hK.out _ _ (by first | assumption | exact KP.out _ (by assumption)) (fun hHeld2 => ?_)
        clear hK K
        (try simp only [Act.put]); (try simp only [List.setIfInBounds_toArray]); (try simp only [List.set_cons_zero, List.set_cons_succ])
        refine wpAnyH_take (i := 12) (oi := _) (v := ?_) rfl (by kernel_rfl) (by kernel_rfl) (by kernel_rfl) (fun _ _ _ h => h) (Or.inl ⟨by rfl, ?_⟩) (by assumption) ?_
        rotate_left
        · (intro w0 hSw; (try dsimp only at hSw); (try simp only [List.getElem_toArray, List.getElem_cons_zero, List.getElem_cons_succ]); go_simp; try (with_reducible rfl))
        try simp only [Act.put, List.getElem_toArray, List.getElem_cons_zero, List.getElem_cons_succ, List.setIfInBounds_toArray, List.set_cons_zero, List.set_cons_succ]
        refine wpAnyH_take (i := 13) (oi := _) (v := ?_) rfl (by kernel_rfl) (by kernel_rfl) (by kernel_rfl) (fun _ _ _ h => h) (Or.inl ⟨by rfl, ?_⟩) (by assumption) ?_
        rotate_left
        · (intro w0 hSw; (try dsimp only at hSw); (try simp only [List.getElem_toArray, List.getElem_cons_zero, List.getElem_cons_succ]); go_simp; try (with_reducible rfl))
        try simp only [Act.put, List.getElem_toArray, List.getElem_cons_zero, List.getElem_cons_succ, List.setIfInBounds_toArray, List.set_cons_zero, List.set_cons_succ]
        refine wpAnyH_done (by kernel_rfl) ?_ _
        refine NoPanic.normal ?_
        have HBE := hidden (QB.out _ HQ2)
        go_wp2_with fail
        go_ret
        exact ⟨ret_int HRE.out.symm, HBE.out⟩


end Go.Proofs.YtibjgoigdajkkaaDoor
