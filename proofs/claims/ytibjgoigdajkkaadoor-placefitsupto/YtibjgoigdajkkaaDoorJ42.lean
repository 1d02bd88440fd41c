import Derived.Test.YtibjgoigdajkkaaDoorJ39
import Derived.Test.YtibjgoigdajkkaaDoorJ41
namespace Go.Proofs.YtibjgoigdajkkaaDoor
open Go.RowKit

set_option maxRecDepth 100000 in
set_option maxHeartbeats 16000000 in
theorem isWithin_any (w : World) (n a b : Int) :
    Calls Tryd.prog 34 #[.int .i64 n, .int .i64 a, .int .i64 b] w fun e w' => e = .returned (.bool (wi n a b)) ∧ w' = w := by
  have HE : Hid (wi n a b = decide (a ≤ n ∧ n ≤ b)) := rfl
  generalize wi n a b = r at *
  by_cases h0 : a ≤ n
  · by_cases h1 : n ≤ b
    · go_enter Tryd.func34, Tryd.ntmps34
      go_wp2
      go_ret
      exact ⟨ret_bool (by rw [HE.out, decide_eq_true ⟨h0, h1⟩]), rfl⟩
    · have d1 : decide (n ≤ b) = false := decide_eq_false h1
      go_enter Tryd.func34, Tryd.ntmps34
      go_wp2
      go_ret
      exact ⟨ret_bool (by rw [HE.out, decide_eq_false (by omega)]), rfl⟩
  · have d1 : decide (a ≤ n) = false := decide_eq_false h0
    go_enter Tryd.func34, Tryd.ntmps34
    go_wp2
    go_ret
    exact ⟨ret_bool (by rw [HE.out, decide_eq_false (by omega)]), rfl⟩
set_option maxRecDepth 100000 in
set_option maxHeartbeats 16000000 in
theorem isShape_any (w : World) (s : ShD) :
    Calls Tryd.prog 17 #[.agg s.arr] w fun e w' => e = .returned (.bool s.ok) ∧ Below w.heap.size w w' := by
  have HE : Hid (s.ok = (wi s.ins 0 500 && wi s.outs 0 500 && wi s.regs 0 500 && wi s.rows 1 500 && wi s.cols 1 100)) := rfl
  have WI : Hid (∀ w n a b, Calls Tryd.prog 34 #[.int .i64 n, .int .i64 a, .int .i64 b] w fun e w' => e = .returned (.bool (wi n a b)) ∧ w' = w) := isWithin_any
  unfold ShD.arr
  obtain ⟨r, HR⟩ : ∃ r, Hid (s.ok = r) := ⟨_, rfl⟩
  rw [HR.out] at HE ⊢
  obtain ⟨x0, x1, x2, x3, x4⟩ := s
  dsimp only at *
  cases g0 : wi x0 0 500
  · have d := HE.out
    rw [g0] at d
    have HF := hidden (show r = false by rw [HE.out, g0]; simp)
    clear d
    go_enter Tryd.func17, Tryd.ntmps17
    go_wp2_with (go_at_call 34; refine (WI.out _ _ _ _).mono ?_; rintro e v ⟨rfl, rfl⟩)
    go_ret
    exact ⟨ret_bool HF.out.symm, (Below.refl _ _).alloc (Nat.le_refl _) _⟩
  cases g1 : wi x1 0 500
  · have d := HE.out
    rw [g0, g1] at d
    have HF := hidden (show r = false by rw [HE.out, g0, g1]; simp)
    clear d
    go_enter Tryd.func17, Tryd.ntmps17
    go_wp2_with (go_at_call 34; refine (WI.out _ _ _ _).mono ?_; rintro e v ⟨rfl, rfl⟩)
    go_ret
    exact ⟨ret_bool HF.out.symm, (Below.refl _ _).alloc (Nat.le_refl _) _⟩
  cases g2 : wi x2 0 500
  · have d := HE.out
    rw [g0, g1, g2] at d
    have HF := hidden (show r = false by rw [HE.out, g0, g1, g2]; simp)
    clear d
    go_enter Tryd.func17, Tryd.ntmps17
    go_wp2_with (go_at_call 34; refine (WI.out _ _ _ _).mono ?_; rintro e v ⟨rfl, rfl⟩)
    go_ret
    exact ⟨ret_bool HF.out.symm, (Below.refl _ _).alloc (Nat.le_refl _) _⟩
  cases g3 : wi x3 1 500
  · have d := HE.out
    rw [g0, g1, g2, g3] at d
    have HF := hidden (show r = false by rw [HE.out, g0, g1, g2, g3]; simp)
    clear d
    go_enter Tryd.func17, Tryd.ntmps17
    go_wp2_with (go_at_call 34; refine (WI.out _ _ _ _).mono ?_; rintro e v ⟨rfl, rfl⟩)
    go_ret
    exact ⟨ret_bool HF.out.symm, (Below.refl _ _).alloc (Nat.le_refl _) _⟩
  cases g4 : wi x4 1 100
  · have d := HE.out
    rw [g0, g1, g2, g3, g4] at d
    have HF := hidden (show r = false by rw [HE.out, g0, g1, g2, g3, g4]; simp)
    clear d
    go_enter Tryd.func17, Tryd.ntmps17
    go_wp2_with (go_at_call 34; refine (WI.out _ _ _ _).mono ?_; rintro e v ⟨rfl, rfl⟩)
    go_ret
    exact ⟨ret_bool HF.out.symm, (Below.refl _ _).alloc (Nat.le_refl _) _⟩
  have HF := hidden (show r = true by rw [HE.out, g0, g1, g2, g3, g4]; rfl)
  go_enter Tryd.func17, Tryd.ntmps17
  go_wp2_with (go_at_call 34; refine (WI.out _ _ _ _).mono ?_; rintro e v ⟨rfl, rfl⟩)
  go_ret
  exact ⟨ret_bool HF.out.symm, (Below.refl _ _).alloc (Nat.le_refl _) _⟩
/-- has a shape all but perhaps the rows that a net needs? -/
def larN (s : ShD) (N : NtD) : Bool := decide (N.ins ≤ s.ins) && decide ((N.outs.length : Int) ≤ s.outs) && decide ((N.init.length : Int) ≤ s.regs) && decide (depN N ≤ s.cols)
set_option maxRecDepth 100000 in
set_option maxHeartbeats 8000000 in
theorem isLarge_any (w : World) (p B : Nat) (S : NtS) (N : NtD) (hx : BoxAt w p S N) (hN : NtAt B w S N) (hB : B ≤ w.heap.size) (hok : NtOk N = true) (hin : NtIn N) (sh : ShD) :
    Calls Tryd.prog 18 #[.pointer (some ⟨p, 0, none⟩), .agg sh.arr] w fun e w' => e = .returned (.bool (larN sh N)) ∧ Below w.heap.size w w' := by
  obtain ⟨x0, x1, x2, x3, x4⟩ := sh
  show Calls Tryd.prog 18 #[.pointer (some ⟨p, 0, none⟩), .agg #[.int .i64 x0, .int .i64 x1, .int .i64 x2, .int .i64 x3, .int .i64 x4]] w _
  have HE : Hid (larN ⟨x0, x1, x2, x3, x4⟩ N = (decide (N.ins ≤ x0) && decide ((N.outs.length : Int) ≤ x1) && decide ((N.init.length : Int) ≤ x2) && decide (depN N ≤ x4))) := rfl
  obtain ⟨r, HR⟩ : ∃ r, Hid (larN ⟨x0, x1, x2, x3, x4⟩ N = r) := ⟨_, rfl⟩
  rw [HR.out] at HE ⊢
  obtain ⟨sb, Esb⟩ := exh w.heap.size
  have HB1 : Hid (Below w.heap.size w (w.alloc (.cells #[.int .i64 x0, .int .i64 x1, .int .i64 x2, .int .i64 x3, .int .i64 x4] 28))) := (Below.refl _ _).alloc (Nat.le_refl _) _
  have HBS : Hid (Blk (w.alloc (.cells #[.int .i64 x0, .int .i64 x1, .int .i64 x2, .int .i64 x3, .int .i64 x4] 28)) sb 28 #[.int .i64 x0, .int .i64 x1, .int .i64 x2, .int .i64 x3, .int .i64 x4]) := by rw [Esb.out]; exact Blk.new w _ _
  have HDP := hidden (depth_any B (w.alloc (.cells #[.int .i64 x0, .int .i64 x1, .int .i64 x2, .int .i64 x3, .int .i64 x4] 28)).drew S N (hN.to ((Below.drew HB1.out).mono hB)) (Nat.le_trans hB HB1.out.size) hok hin)
  obtain ⟨ni, Eni⟩ := exh N.ins
  obtain ⟨nr, Enr⟩ := exh N.init.length
  obtain ⟨nt, Ent⟩ := exh N.tabs.length
  obtain ⟨nx, Enx⟩ := exh N.next.length
  obtain ⟨no, Eno⟩ := exh N.outs.length
  obtain ⟨dp, Edp⟩ := exh (depN N)
  rw [← Eni.out, ← Enr.out, ← Eno.out, ← Edp.out] at HE
  have HSS : Hid (∀ v : World, Below (w.alloc (.cells #[.int .i64 x0, .int .i64 x1, .int .i64 x2, .int .i64 x3, .int .i64 x4] 28)).heap.size (w.alloc (.cells #[.int .i64 x0, .int .i64 x1, .int .i64 x2, .int .i64 x3, .int .i64 x4] 28)) v → v.cell? ⟨sb, 0, none⟩ = some (.int .i64 x0) ∧ v.cell? ⟨sb, 1, none⟩ = some (.int .i64 x1) ∧ v.cell? ⟨sb, 2, none⟩ = some (.int .i64 x2) ∧ v.cell? ⟨sb, 4, none⟩ = some (.int .i64 x4) ∧ v.cell? ⟨p, 0, none⟩ = some (.int .i64 ni) ∧ v.cell? ⟨p, 1, none⟩ = some (.slice S.a1 nr S.c1) ∧ v.cell? ⟨p, 2, none⟩ = some (.slice S.a2 nt S.c2) ∧ v.cell? ⟨p, 3, none⟩ = some (.slice S.a3 nx S.c3) ∧ v.cell? ⟨p, 4, none⟩ = some (.slice S.a4 no S.c4)) := fun v hv => by
    have b1 := HBS.out.below hv
    have b2 := hx.to hx.lt (HB1.out.trans (hv.mono HB1.out.size))
    rw [Eni.out, Enr.out, Ent.out, Enx.out, Eno.out]
    exact ⟨b1.cell (i := 0) rfl, b1.cell (i := 1) rfl, b1.cell (i := 2) rfl, b1.cell (i := 4) rfl, b2.c0, b2.c1, b2.c2, b2.c3, b2.c4⟩
  unfold NtS.cells at HDP
  rw [← Eni.out, ← Enr.out, ← Ent.out, ← Enx.out, ← Eno.out, ← Edp.out] at HDP
  clear hx hN hok hin HBS
  by_cases g0 : ni ≤ x0
  · by_cases g1 : (no : Int) ≤ x1
    · by_cases g2 : (nr : Int) ≤ x2
      · have HF : Hid (r = decide (dp ≤ x4)) := by show _ = _; rw [HE.out, decide_eq_true g0, decide_eq_true g1, decide_eq_true g2]; rfl
        clear HE
        go_enter Tryd.func18, Tryd.ntmps18
        go_upto_region 1 with fail
        rw [← Esb.out]
        generalize w.alloc (.cells #[.int .i64 x0, .int .i64 x1, .int .i64 x2, .int .i64 x3, .int .i64 x4] 28) = w1 at *
        have hS1 := HSS.out w1 (Below.refl _ _)
        refine wp_region_noPanic ?_
        refine wp_region_held_drew (S := fun v => v.cell? ⟨sb, 0, none⟩ = some (.int .i64 x0) ∧ v.cell? ⟨sb, 1, none⟩ = some (.int .i64 x1) ∧ v.cell? ⟨sb, 2, none⟩ = some (.int .i64 x2) ∧ v.cell? ⟨sb, 4, none⟩ = some (.int .i64 x4) ∧ v.cell? ⟨p, 0, none⟩ = some (.int .i64 ni) ∧ v.cell? ⟨p, 1, none⟩ = some (.slice S.a1 nr S.c1) ∧ v.cell? ⟨p, 2, none⟩ = some (.slice S.a2 nt S.c2) ∧ v.cell? ⟨p, 3, none⟩ = some (.slice S.a3 nx S.c3) ∧ v.cell? ⟨p, 4, none⟩ = some (.slice S.a4 no S.c4)) (by kernel_rfl) (by exact hS1) (fun hHeld => ?_)
        clear hS1
        refine tk 0 ?_
        refine tk 1 ?_
        refine tk 2 ?_
        refine tk 3 ?_
        refine tk 4 ?_
        refine tk 5 ?_
        refine tk 6 ?_
        refine tk 7 ?_
        refine tk 8 ?_
        refine tk 9 ?_
        refine tk 10 ?_
        refine tk 11 ?_
        refine tk 12 ?_
        refine tk 13 ?_
        refine tk 14 ?_
        refine tk 15 ?_
        refine tk 16 ?_
        refine tk 17 ?_
        refine tk 18 ?_
        refine tk 19 ?_
        refine tk 20 ?_
        refine tk 21 ?_
        refine tk 22 ?_
        refine tk 23 ?_
        refine tk 24 ?_
        refine tk 25 ?_
        refine tk 26 ?_
        refine tk 27 ?_
        refine tk 28 ?_
        refine tk 29 ?_
        refine tk 30 ?_
        refine tk 31 ?_
        refine tk 32 ?_
        refine rd 33 fun K hK => ?_
        (try simp only [gA, gB, gC]); go_simp
        go_at_call 35
        refine HDP.out.mono ?_
        rintro e w2 ⟨rfl, hb2⟩
        have hb2' : Below w1.heap.size w1 w2 := (Below.drew (Below.refl _ _)).trans hb2
        have HB2 := hidden hb2'
        have hS2 := HSS.out w2 hb2'
        clear hb2 hb2'
        go_wp2_with fail
        refine wo hK hS2 fun _ => ?_
        clear hK K
        refine tk 34 ?_
        refine tk 35 ?_
        refine tk 36 ?_
        refine wpAnyH_done (by kernel_rfl) ?_ _
        refine NoPanic.normal ?_
        clear hHeld
        go_wp2
        go_ret
        exact ⟨ret_bool HF.out.symm, HB1.out.trans (HB2.out.mono HB1.out.size)⟩
      · have HF : Hid (r = false) := by show _ = _; rw [HE.out, decide_eq_false g2]; simp
        clear HE HDP
        go_enter Tryd.func18, Tryd.ntmps18
        go_upto_region 1 with fail
        rw [← Esb.out]
        generalize w.alloc (.cells #[.int .i64 x0, .int .i64 x1, .int .i64 x2, .int .i64 x3, .int .i64 x4] 28) = w1 at *
        have hS1 := HSS.out w1 (Below.refl _ _)
        refine wp_region_noPanic ?_
        refine wp_region_held_drew (S := fun v => v.cell? ⟨sb, 0, none⟩ = some (.int .i64 x0) ∧ v.cell? ⟨sb, 1, none⟩ = some (.int .i64 x1) ∧ v.cell? ⟨sb, 2, none⟩ = some (.int .i64 x2) ∧ v.cell? ⟨sb, 4, none⟩ = some (.int .i64 x4) ∧ v.cell? ⟨p, 0, none⟩ = some (.int .i64 ni) ∧ v.cell? ⟨p, 1, none⟩ = some (.slice S.a1 nr S.c1) ∧ v.cell? ⟨p, 2, none⟩ = some (.slice S.a2 nt S.c2) ∧ v.cell? ⟨p, 3, none⟩ = some (.slice S.a3 nx S.c3) ∧ v.cell? ⟨p, 4, none⟩ = some (.slice S.a4 no S.c4)) (by kernel_rfl) (by exact hS1) (fun hHeld => ?_)
        clear hS1
        refine tk 0 ?_
        refine tk 1 ?_
        refine tk 2 ?_
        refine tk 3 ?_
        refine tk 4 ?_
        refine tk 5 ?_
        refine tk 6 ?_
        refine tk 7 ?_
        refine tk 8 ?_
        refine tk 9 ?_
        refine tk 10 ?_
        refine tk 11 ?_
        refine tk 12 ?_
        refine tk 13 ?_
        refine tk 14 ?_
        refine tk 15 ?_
        refine tk 16 ?_
        refine tk 17 ?_
        refine tk 18 ?_
        refine tk 19 ?_
        refine tk 20 ?_
        refine tk 21 ?_
        refine tk 22 ?_
        refine tk 23 ?_
        refine tk 24 ?_
        refine tk 25 ?_
        refine tk 26 ?_
        refine tk 27 ?_
        refine tu 28 ?_
        refine tu 29 ?_
        refine tu 30 ?_
        refine tu 31 ?_
        refine tu 32 ?_
        refine tu 33 ?_
        refine tu 34 ?_
        refine tk 35 ?_
        refine tk 36 ?_
        refine wpAnyH_done (by kernel_rfl) ?_ _
        refine NoPanic.normal ?_
        clear hHeld
        go_wp2
        go_ret
        exact ⟨ret_bool HF.out.symm, Below.drew HB1.out⟩
    · have HF : Hid (r = false) := by show _ = _; rw [HE.out, decide_eq_false g1]; simp
      clear HE HDP
      go_enter Tryd.func18, Tryd.ntmps18
      go_upto_region 1 with fail
      rw [← Esb.out]
      generalize w.alloc (.cells #[.int .i64 x0, .int .i64 x1, .int .i64 x2, .int .i64 x3, .int .i64 x4] 28) = w1 at *
      have hS1 := HSS.out w1 (Below.refl _ _)
      refine wp_region_noPanic ?_
      refine wp_region_held_drew (S := fun v => v.cell? ⟨sb, 0, none⟩ = some (.int .i64 x0) ∧ v.cell? ⟨sb, 1, none⟩ = some (.int .i64 x1) ∧ v.cell? ⟨sb, 2, none⟩ = some (.int .i64 x2) ∧ v.cell? ⟨sb, 4, none⟩ = some (.int .i64 x4) ∧ v.cell? ⟨p, 0, none⟩ = some (.int .i64 ni) ∧ v.cell? ⟨p, 1, none⟩ = some (.slice S.a1 nr S.c1) ∧ v.cell? ⟨p, 2, none⟩ = some (.slice S.a2 nt S.c2) ∧ v.cell? ⟨p, 3, none⟩ = some (.slice S.a3 nx S.c3) ∧ v.cell? ⟨p, 4, none⟩ = some (.slice S.a4 no S.c4)) (by kernel_rfl) (by exact hS1) (fun hHeld => ?_)
      clear hS1
      refine tk 0 ?_
      refine tk 1 ?_
      refine tk 2 ?_
      refine tk 3 ?_
      refine tk 4 ?_
      refine tk 5 ?_
      refine tk 6 ?_
      refine tk 7 ?_
      refine tk 8 ?_
      refine tk 9 ?_
      refine tk 10 ?_
      refine tk 11 ?_
      refine tk 12 ?_
      refine tk 13 ?_
      refine tk 14 ?_
      refine tk 15 ?_
      refine tk 16 ?_
      refine tk 17 ?_
      refine tu 18 ?_
      refine tu 19 ?_
      refine tu 20 ?_
      refine tu 21 ?_
      refine tu 22 ?_
      refine tu 23 ?_
      refine tu 24 ?_
      refine tu 25 ?_
      refine tk 26 ?_
      refine tk 27 ?_
      refine tu 28 ?_
      refine tu 29 ?_
      refine tu 30 ?_
      refine tu 31 ?_
      refine tu 32 ?_
      refine tu 33 ?_
      refine tu 34 ?_
      refine tk 35 ?_
      refine tk 36 ?_
      refine wpAnyH_done (by kernel_rfl) ?_ _
      refine NoPanic.normal ?_
      clear hHeld
      go_wp2
      go_ret
      exact ⟨ret_bool HF.out.symm, Below.drew HB1.out⟩
  · have HF : Hid (r = false) := by show _ = _; rw [HE.out, decide_eq_false g0]; simp
    clear HE HDP
    go_enter Tryd.func18, Tryd.ntmps18
    go_upto_region 1 with fail
    rw [← Esb.out]
    generalize w.alloc (.cells #[.int .i64 x0, .int .i64 x1, .int .i64 x2, .int .i64 x3, .int .i64 x4] 28) = w1 at *
    have hS1 := HSS.out w1 (Below.refl _ _)
    refine wp_region_noPanic ?_
    refine wp_region_held_drew (S := fun v => v.cell? ⟨sb, 0, none⟩ = some (.int .i64 x0) ∧ v.cell? ⟨sb, 1, none⟩ = some (.int .i64 x1) ∧ v.cell? ⟨sb, 2, none⟩ = some (.int .i64 x2) ∧ v.cell? ⟨sb, 4, none⟩ = some (.int .i64 x4) ∧ v.cell? ⟨p, 0, none⟩ = some (.int .i64 ni) ∧ v.cell? ⟨p, 1, none⟩ = some (.slice S.a1 nr S.c1) ∧ v.cell? ⟨p, 2, none⟩ = some (.slice S.a2 nt S.c2) ∧ v.cell? ⟨p, 3, none⟩ = some (.slice S.a3 nx S.c3) ∧ v.cell? ⟨p, 4, none⟩ = some (.slice S.a4 no S.c4)) (by kernel_rfl) (by exact hS1) (fun hHeld => ?_)
    clear hS1
    refine tk 0 ?_
    refine tk 1 ?_
    refine tk 2 ?_
    refine tk 3 ?_
    refine tk 4 ?_
    refine tk 5 ?_
    refine tk 6 ?_
    refine tk 7 ?_
    refine tu 8 ?_
    refine tu 9 ?_
    refine tu 10 ?_
    refine tu 11 ?_
    refine tu 12 ?_
    refine tu 13 ?_
    refine tu 14 ?_
    refine tu 15 ?_
    refine tk 16 ?_
    refine tk 17 ?_
    refine tu 18 ?_
    refine tu 19 ?_
    refine tu 20 ?_
    refine tu 21 ?_
    refine tu 22 ?_
    refine tu 23 ?_
    refine tu 24 ?_
    refine tu 25 ?_
    refine tk 26 ?_
    refine tk 27 ?_
    refine tu 28 ?_
    refine tu 29 ?_
    refine tu 30 ?_
    refine tu 31 ?_
    refine tu 32 ?_
    refine tu 33 ?_
    refine tu 34 ?_
    refine tk 35 ?_
    refine tk 36 ?_
    refine wpAnyH_done (by kernel_rfl) ?_ _
    refine NoPanic.normal ?_
    clear hHeld
    go_wp2
    go_ret
    exact ⟨ret_bool HF.out.symm, Below.drew HB1.out⟩


end Go.Proofs.YtibjgoigdajkkaaDoor
