import Derived.Test.YtjbnejjjbdalaaaDoorFaW
namespace Go.Proofs.YtjbnejjjbdalaaaDoor
open Go.RowKit

theorem But.cell {g : Nat} {w w' : World} (h : But g w w') {p : Addr} {v : Value} (hv : w.cell? p = some v) (hne : p.block ≠ g) : w'.cell? p = some v :=
  h.grown.cell hv (by intro e; exact hne (Option.some.inj e))
theorem set_nextC (P a b : List Bool) (k lo : Nat) (y : Bool) (hP : P.length = lo) (ha : a.length = k) (hb : k < b.length) : ((P ++ (a ++ b.drop k)).map b8).toArray.setIfInBounds (lo + k) (b8 y) = ((P ++ (a ++ [y] ++ b.drop (k + 1))).map b8).toArray := by
  rw [List.setIfInBounds_toArray]
  congr 1
  rw [List.map_append, List.map_append, List.map_append, List.map_append, List.map_append]
  rw [List.set_append_right _ _ (by simp [hP]), List.set_append_right _ _ (by simp [hP, ha])]
  have e : lo + k - (P.map b8).length - (a.map b8).length = 0 := by simp [hP, ha]
  have hb' : b.drop k = b[k] :: b.drop (k + 1) := (List.getElem_cons_drop hb).symm
  rw [e, hb', List.map_cons, List.set_cons_zero]
  simp only [List.map_cons, List.map_nil, List.append_assoc, List.cons_append, List.nil_append]

set_option maxRecDepth 100000 in
set_option maxHeartbeats 8000000 in
theorem clockC_any (B : Nat) (w : World) (mk gb sb g c ni nr : Nat) (S : CnS) (N : CnD) (src vals : List Bool) (m0 : w.cell? ⟨mk, 0, none⟩ = some (.pointer (some ⟨gb, 0, none⟩))) (m1 : w.cell? ⟨mk, 1, none⟩ = some (.slice (some ⟨sb, 0, none⟩) src.length src.length)) (m4 : w.cell? ⟨mk, 4, none⟩ = some (.slice (some ⟨g, 0, none⟩) vals.length c))
    (hx : BoxAt w gb S N) (hs : BRow w sb src) (hr : BRow w g vals) (hlen : vals.length ≤ 100000) (hni : N.sh.ins = (ni : Int)) (hnr : N.regs.length = nr) (hsl : src.length = 2 + ni + nr) (hn0 : ni ≤ 1000) (hn1 : nr ≤ 1000) (hmk : mk ≠ sb) (hgb : gb ≠ sb) (hg : g ≠ sb) (hB : B ≤ sb)
    (HRG : Hid (RowAt B w S.a2 2 (N.regs.map RgD.cells))) (hin : ∀ d, d ∈ N.regs → 0 ≤ d.sel ∧ d.sel < (vals.length : Int)) :
    Calls Tryd.prog 20 #[.pointer (some ⟨mk, 0, none⟩)] w fun e w' => (∃ v, e = .returned v) ∧ BRow w' sb (src.take (2 + ni) ++ nextC N vals) ∧ But sb w w' := by
  have RG := hidden (registersC_any w mk gb sb ni nr m0 (by rw [← hsl]; exact m1) (by rw [← hni]; exact hx.c0) hn0 hn1)
  have HBS := hidden hs
  have HBR := hidden hr
  have HIN := hidden hin
  have q6 := hx.c6
  obtain ⟨l, HL⟩ : ∃ l, Hid (N.regs = l) := ⟨_, rfl⟩
  have HOXE : Hid (nextC N vals = l.map fun d => sV vals d.sel) := by show N.regs.map _ = _; rw [HL.out]
  rw [HOXE.out]
  rw [HL.out] at HRG HIN q6 hnr
  have HNR := hidden hnr
  rw [hnr] at q6
  obtain ⟨nv, HNV⟩ : ∃ n, Hid (n = vals.length) := ⟨_, rfl⟩
  rw [← HNV.out] at hlen HIN m4
  obtain ⟨lo, HLO⟩ : ∃ f : Nat, Hid (f = 2 + ni) := ⟨_, rfl⟩
  rw [← HLO.out] at RG
  rw [← HLO.out]
  obtain ⟨P, HP⟩ : ∃ P, Hid (src.take lo = P) := ⟨_, rfl⟩
  obtain ⟨D, HD⟩ : ∃ P, Hid (src.drop lo = P) := ⟨_, rfl⟩
  have HPL : Hid (P.length = lo) := by show _ = _; rw [← HP.out, List.length_take, HLO.out]; omega
  have HDL : Hid (D.length = nr) := by show _ = _; rw [← HD.out, List.length_drop, HLO.out]; omega
  have HSR : Hid (src = P ++ D) := by show _ = _; rw [← HP.out, ← HD.out, List.take_append_drop]
  rw [HP.out]
  obtain ⟨ox, HOX⟩ : ∃ x, Hid (l.map (fun d => sV vals d.sel) = x) := ⟨_, rfl⟩
  rw [HOX.out]
  obtain ⟨sa1, sc1, sa2, sc2, sa3, sc3⟩ := S
  dsimp only at *
  have hlo : lo ≤ 1002 := by have := HLO.out; omega
  have HM4 := hidden m4
  clear hs hr hin HOXE hx hnr hsl m1 hni m4
  go_enter Tryd.func20, Tryd.ntmps20
  go_wp2_with fail
  go_at_call 33
  refine RG.out.mono ?_
  rintro e w0 ⟨⟨dp, dc, rfl, hdp⟩, q, hw0⟩
  have HB0 : Hid (But sb w w0) := by rw [hw0]; exact (But.refl _ _).drewN _
  have HS0 : Hid (Blk w0 sb 5 (src.map b8).toArray) := by rw [hw0]; exact HBS.out.2
  have HDP := hidden hdp
  clear hw0 RG hdp
  have m0w := HB0.out.cell m0 hmk
  have q6w := HB0.out.cell q6 hgb
  go_wp2_with fail
  clear m0w q6w
  go_loopw [15] (fun i' w' => ∃ (k : Nat), k ≤ nr ∧ i' = .int .i64 k ∧ Hid (Blk w' sb 5 ((P ++ ((l.take k).map (fun d => sV vals d.sel) ++ D.drop k)).map b8).toArray) ∧ Hid (But sb w w')) (fun i' _ => nr - (intOf i').toNat)
  case atStart => exact ⟨0, Nat.zero_le _, rfl, by show Blk _ _ _ _; have := HS0.out; rw [HSR.out] at this; simpa using this, HB0.out⟩
  case round =>
    obtain ⟨k, hk, rfl, HO, HG⟩ := hrel
    by_cases hlt : k < nr
    · obtain ⟨z, hz⟩ := getElem_lt (show k < l.length by rw [HNR.out]; exact hlt)
      obtain ⟨ob, oo, ea, hob, hoc⟩ := HRG.out.el hz
      have co0 : wr.cell? ⟨ob, oo + k * 2, none⟩ = some (.int .i64 z.sel) := HG.out.cell (hoc 0 _ rfl) (by show ob ≠ sb; omega)
      have co1 : wr.cell? ⟨ob, oo + k * 2 + 1, none⟩ = some (.bool z.init) := HG.out.cell (hoc 1 _ rfl) (by show ob ≠ sb; omega)
      have hz0 := (HIN.out z (List.mem_of_getElem? hz)).1
      have hz1 := (HIN.out z (List.mem_of_getElem? hz)).2
      obtain ⟨x, hx⟩ := getElem_lt (l := vals) (k := z.sel.toNat) (by have := HNV.out; omega)
      have cx := HG.out.cell (HBR.out.cell hx) hg
      have m4R := HG.out.cell HM4.out hmk
      have hdp := HDP.out (by omega)
      have hsx : sV vals z.sel = x := by unfold sV; rw [hx]; rfl
      have hltI : (k : Int) < (nr : Int) := by omega
      have e3 : IntKind.i64.wrap ((k : Int) + 1) = (k : Int) + 1 := wrapI _ (by omega) (by omega)
      have hfz := HO.out.frozen (lo + k)
      obtain ⟨zs, zi⟩ := z
      dsimp only at *
      subst ea
      subst hdp
      have hsb := HO.out.lt
      clear hoc
      have hne : sb ≠ wr.heap.size := by omega
      go_upto_region 4 with fail
      generalize hX : World.alloc wr _ = X
      have HBX : Hid (Below wr.heap.size wr X) := by rw [← hX]; exact (Below.refl _ _).alloc (Nat.le_refl _) _
      have HBUX : Hid (But sb w X) := HG.out.trans (Below.but HBX.out)
      have HOX2 := hidden (HO.out.below HBX.out)
      have cz : X.cell? ⟨wr.heap.size, 0, none⟩ = some (.int .i64 zs) := by rw [← hX]; simp
      have cxX := HBUX.out.cell (HBR.out.cell hx) hg
      unfold b8 at cxX
      have m4X := HBUX.out.cell HM4.out hmk
      have hfX := HOX2.out.frozen (lo + k)
      have hold : ∃ old, X.cell? ⟨sb, lo + k, none⟩ = some old := by
        have hL : lo + k < ((P ++ ((l.take k).map (fun d => sV vals d.sel) ++ D.drop k)).map b8).length := by
          have h1 := HPL.out
          have h2 := HDL.out
          have h3 := HNR.out
          rw [List.length_map, List.length_append, List.length_append, List.length_map, List.length_take, List.length_drop]
          omega
        exact ⟨_, HOX2.out.cell (by rw [List.getElem?_toArray]; exact List.getElem?_eq_getElem hL)⟩
      obtain ⟨old, hold⟩ := hold
      have HNX : Hid (Blk (X.drew.setCell ⟨sb, lo + k, none⟩ (.int .u8 ((bN x : Nat) : Int))) sb 5 ((P ++ ((l.take (k + 1)).map (fun d => sV vals d.sel) ++ D.drop (k + 1))).map b8).toArray) := by
        have h := (show Blk X.drew sb 5 _ from HOX2.out).set (lo + k) (b8 x)
        rw [set_nextC _ _ _ k lo x HPL.out (by rw [List.length_map, List.length_take, HNR.out]; omega) (by rw [HDL.out]; exact hlt)] at h
        rw [take_next _ k _ hz]
        show Blk _ _ _ _
        have e9 : [(⟨zs, zi⟩ : RgD)].map (fun d => sV vals d.sel) = [x] := by simp [hsx]
        have e10 : (l.take k ++ [(⟨zs, zi⟩ : RgD)]).map (fun d => sV vals d.sel) = (l.take k).map (fun d => sV vals d.sel) ++ [x] := by rw [List.map_append, e9]
        rw [e10]
        exact h
      have HBN : Hid (But sb w (X.drew.setCell ⟨sb, lo + k, none⟩ (.int .u8 ((bN x : Nat) : Int)))) := (HBUX.out.drewN 1).trans (But.set _ _ _ _)
      obtain ⟨rs, hrs⟩ : ∃ r, r = wr.heap.size := ⟨_, rfl⟩
      rw [← hrs] at cz hne ⊢
      have HBZ0 : Hid (But sb X X.drew) := (But.refl sb X).drewN 1
      have HBZ : Hid (But sb X (X.drew.setCell ⟨sb, lo + k, none⟩ (.int .u8 ((bN x : Nat) : Int)))) := (HBZ0.out).trans (But.set _ _ _ _)
      have KP : Hid (∀ w', But sb X w' → (fun w' => w'.cell? ⟨mk, 4, none⟩ = some (.slice (some ⟨g, 0, none⟩) nv c) ∧ w'.cell? ⟨rs, 0, none⟩ = some (.int .i64 zs) ∧ w'.cell? ⟨g, zs.toNat, none⟩ = some (.int .u8 ((bN x : Nat) : Int))) w') := fun w' hw' => ⟨hw'.cell m4X hmk, hw'.cell cz (Ne.symm hne), hw'.cell cxX hg⟩
      have holdD : X.drew.cell? ⟨sb, lo + k, none⟩ = some old := hold
      have hfD : X.drew.frozen? ⟨sb, lo + k, none⟩ = false := hfX
      clear hX HBX HBUX HOX2 co0 co1 cx m4R hfz hz hx HO hrs hold hfX m4X cz cxX
      refine wp_region_noPanic ?_
      refine wp_region_held_drew (S := (fun w' => w'.cell? ⟨mk, 4, none⟩ = some (.slice (some ⟨g, 0, none⟩) nv c) ∧ w'.cell? ⟨rs, 0, none⟩ = some (.int .i64 zs) ∧ w'.cell? ⟨g, zs.toNat, none⟩ = some (.int .u8 ((bN x : Nat) : Int)))) (by kernel_rfl) (by first | assumption | exact KP.out _ HBZ0.out | exact KP.out _ HBZ.out) (fun hHeld => ?_)
      refine wpAnyH_take (i := 0) (oi := _) (v := ?_) rfl (by kernel_rfl) (by kernel_rfl) (by kernel_rfl) (fun _ _ _ h => h) (Or.inl ⟨by rfl, ?_⟩) (by assumption) ?_
      rotate_left
      · (intro w0 hSw; (try dsimp only at hSw); (try simp only [List.getElem_toArray, List.getElem_cons_zero]); go_simp; try (with_reducible rfl))
      try simp only [Act.put, List.getElem_toArray, List.getElem_cons_zero, List.setIfInBounds_toArray, List.set_cons_zero, List.set_cons_succ]
      refine wpAnyH_take (i := 1) (oi := _) (v := ?_) rfl (by kernel_rfl) (by kernel_rfl) (by kernel_rfl) (fun _ _ _ h => h) (Or.inl ⟨by rfl, ?_⟩) (by assumption) ?_
      rotate_left
      · (intro w0 hSw; (try dsimp only at hSw); (try simp only [List.getElem_toArray, List.getElem_cons_zero, List.getElem_cons_succ]); go_simp; try (with_reducible rfl))
      try simp only [Act.put, List.getElem_toArray, List.getElem_cons_zero, List.getElem_cons_succ, List.setIfInBounds_toArray, List.set_cons_zero, List.set_cons_succ]
      refine wpAnyH_take (i := 2) (oi := _) (v := ?_) rfl (by kernel_rfl) (by kernel_rfl) (by kernel_rfl) (fun _ _ _ h => h) (Or.inl ⟨by rfl, ?_⟩) (by assumption) ?_
      rotate_left
      · (intro w0 hSw; (try dsimp only at hSw); (try simp only [List.getElem_toArray, List.getElem_cons_zero, List.getElem_cons_succ]); go_simp; try (with_reducible rfl))
      try simp only [Act.put, List.getElem_toArray, List.getElem_cons_zero, List.getElem_cons_succ, List.setIfInBounds_toArray, List.set_cons_zero, List.set_cons_succ]
      refine wpAnyH_take (i := 3) (oi := _) (v := ?_) rfl (by kernel_rfl) (by kernel_rfl) (by kernel_rfl) (fun _ _ _ h => h) (Or.inl ⟨by rfl, ?_⟩) (by assumption) ?_
      rotate_left
      · (intro w0 hSw; (try dsimp only at hSw); (try simp only [List.getElem_toArray, List.getElem_cons_zero, List.getElem_cons_succ]); go_simp; try (with_reducible rfl))
      try simp only [Act.put, List.getElem_toArray, List.getElem_cons_zero, List.getElem_cons_succ, List.setIfInBounds_toArray, List.set_cons_zero, List.set_cons_succ]
      refine wpAnyH_take (i := 4) (oi := _) (v := ?_) rfl (by kernel_rfl) (by kernel_rfl) (by kernel_rfl) (fun _ _ _ h => h) (Or.inl ⟨by rfl, ?_⟩) (by assumption) ?_
      rotate_left
      · (intro w0 hSw; (try dsimp only at hSw); (try simp only [List.getElem_toArray, List.getElem_cons_zero, List.getElem_cons_succ]); go_simp; try (with_reducible rfl))
      try simp only [Act.put, List.getElem_toArray, List.getElem_cons_zero, List.getElem_cons_succ, List.setIfInBounds_toArray, List.set_cons_zero, List.set_cons_succ]
      refine wpAnyH_take (i := 5) (oi := _) (v := ?_) rfl (by kernel_rfl) (by kernel_rfl) (by kernel_rfl) (fun _ _ _ h => h) (Or.inl ⟨by rfl, ?_⟩) (by assumption) ?_
      rotate_left
      · (intro w0 hSw; (try dsimp only at hSw); (try simp only [List.getElem_toArray, List.getElem_cons_zero, List.getElem_cons_succ]); go_simp; try (with_reducible rfl))
      try simp only [Act.put, List.getElem_toArray, List.getElem_cons_zero, List.getElem_cons_succ, List.setIfInBounds_toArray, List.set_cons_zero, List.set_cons_succ]
      refine wpAnyH_take (i := 6) (oi := _) (v := ?_) rfl (by kernel_rfl) (by kernel_rfl) (by kernel_rfl) (fun _ _ _ h => h) (Or.inl ⟨by rfl, ?_⟩) (by assumption) ?_
      rotate_left
      · (intro w0 hSw; (try dsimp only at hSw); (try simp only [List.getElem_toArray, List.getElem_cons_zero, List.getElem_cons_succ]); go_simp; try (with_reducible rfl))
      try simp only [Act.put, List.getElem_toArray, List.getElem_cons_zero, List.getElem_cons_succ, List.setIfInBounds_toArray, List.set_cons_zero, List.set_cons_succ]
      refine wpAnyH_take (i := 7) (oi := _) (v := ?_) rfl (by kernel_rfl) (by kernel_rfl) (by kernel_rfl) (fun _ _ _ h => h) (Or.inl ⟨by rfl, ?_⟩) (by assumption) ?_
      rotate_left
      · (intro w0 hSw; (try dsimp only at hSw); (try simp only [List.getElem_toArray, List.getElem_cons_zero, List.getElem_cons_succ]); go_simp; try (with_reducible rfl))
      try simp only [Act.put, List.getElem_toArray, List.getElem_cons_zero, List.getElem_cons_succ, List.setIfInBounds_toArray, List.set_cons_zero, List.set_cons_succ]
      refine wpAnyH_take (i := 8) (oi := _) (v := ?_) rfl (by kernel_rfl) (by kernel_rfl) (by kernel_rfl) (fun _ _ _ h => h) (Or.inl ⟨by rfl, ?_⟩) (by assumption) ?_
      rotate_left
      · (intro w0 hSw; (try dsimp only at hSw); (try simp only [List.getElem_toArray, List.getElem_cons_zero, List.getElem_cons_succ]); go_simp; try (with_reducible rfl))
      try simp only [Act.put, List.getElem_toArray, List.getElem_cons_zero, List.getElem_cons_succ, List.setIfInBounds_toArray, List.set_cons_zero, List.set_cons_succ]
      refine wpAnyH_take (i := 9) (oi := _) (v := ?_) rfl (by kernel_rfl) (by kernel_rfl) (by kernel_rfl) (fun _ _ _ h => h) (Or.inl ⟨by rfl, ?_⟩) (by assumption) ?_
      rotate_left
      · (intro w0 hSw; (try dsimp only at hSw); (try simp only [List.getElem_toArray, List.getElem_cons_zero, List.getElem_cons_succ]); go_simp; try (with_reducible rfl))
      try simp only [Act.put, List.getElem_toArray, List.getElem_cons_zero, List.getElem_cons_succ, List.setIfInBounds_toArray, List.set_cons_zero, List.set_cons_succ]
      refine wpAnyH_take (i := 10) (oi := _) (v := ?_) rfl (by kernel_rfl) (by kernel_rfl) (by kernel_rfl) (fun _ _ _ h => h) (Or.inl ⟨by rfl, ?_⟩) (by assumption) ?_
      rotate_left
      · (intro w0 hSw; (try dsimp only at hSw); (try simp only [List.getElem_toArray, List.getElem_cons_zero, List.getElem_cons_succ]); go_simp; try (with_reducible rfl))
      try simp only [Act.put, List.getElem_toArray, List.getElem_cons_zero, List.getElem_cons_succ, List.setIfInBounds_toArray, List.set_cons_zero, List.set_cons_succ]
      refine wpAnyH_ready (rs := [11]) (by kernel_rfl) (by simp) ?_
      refine AllReadyH.cons (o := _) rfl (fun K hK => ?_) AllReadyH.nil
      (try simp only [List.getElem_toArray, List.getElem_cons_zero, List.getElem_cons_succ])
      go_simp
      refine hK.out _ _ (by first | assumption | exact KP.out _ HBZ0.out | exact KP.out _ HBZ.out) (fun hHeld3 => ?_)
      clear hK K
      (try simp only [Act.put]); (try simp only [List.setIfInBounds_toArray]); (try simp only [List.set_cons_zero, List.set_cons_succ])
      refine wpAnyH_done (by kernel_rfl) ?_ _
      refine NoPanic.normal ?_
      go_wp2_with fail
      go_roundw
      case measure => simp [intOf]; omega
      case rel => exact ⟨k + 1, by omega, by simp, HNX.out, HBN.out⟩
    · have hge : ¬ ((k : Int) < (nr : Int)) := by omega
      have HO6 : Hid (Blk wr sb 5 ((P ++ ox).map b8).toArray) := by
        have := HO.out
        rw [List.take_of_length_le (by have := HNR.out; omega), List.drop_eq_nil_of_le (by have := HDL.out; omega), List.append_nil, HOX.out] at this
        exact this
      clear HO
      go_wp2
      go_end0
      exact ⟨⟨_, rfl⟩, ⟨HO6.out.lt, HO6.out⟩, HG.out⟩

end Go.Proofs.YtjbnejjjbdalaaaDoor
