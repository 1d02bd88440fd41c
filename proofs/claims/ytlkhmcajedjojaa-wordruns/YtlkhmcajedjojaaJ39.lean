import Derived.Test.YtlkhmcajedjojaaJ16
namespace Go.Proofs.Ytlkhmcajedjojaa
open Go.RowKit

set_option maxRecDepth 100000 in
set_option maxHeartbeats 8000000 in
theorem register_any (B : Nat) (w : World) (cb : Nat) (S : NetS) (N : NetD) (h : CkAt B w cb S N) (hB : B ≤ w.heap.size) (k : Nat) (z : RegD) (hz : N.regs[k]? = some z) :
    Calls Try.prog 14 #[ckV cb, .int .i64 k] w fun e w' => e = .returned (.bool (regOk z && nextOk N z)) ∧ Below w.heap.size w w' := by
  obtain ⟨b, o, ha, hlt, hc⟩ := h.net.r.el hz
  have hk : (k : Int) < (N.regs.length : Int) := by have := (List.getElem?_eq_some_iff.1 hz).1; omega
  have c0 : w.cell? ⟨b, o + k * 3, none⟩ = _ := hc 0 _ rfl
  have c1 := hc 1 _ rfl
  have c2 := hc 2 _ rfl
  have hb : b < w.heap.size := Nat.lt_of_lt_of_le hlt hB
  have q2 : w.cell? ⟨cb, 2, none⟩ = some (.slice S.a2 N.regs.length S.c2) := h.cells 2
  rw [ha] at q2
  have hcb : cb < w.heap.size := Nat.lt_of_lt_of_le h.lt hB
  have HM := hidden (show (regOk z && nextOk N z) = (widthOk z.width && decide (z.init ≤ maskN z.width) && wideOf N z.next z.width) from rfl)
  have WD : Hid (∀ w, Calls Try.prog 11 #[.int .i64 z.width] w fun e w' => e = .returned (.bool (widthOk z.width)) ∧ w' = w) := fun w => isWidth_any z.width w
  have MK : widthOk z.width = true → Hid (∀ w, Calls Try.prog 28 #[.int .i64 z.width] w fun e w' => e = .returned (.int .u64 (maskN z.width)) ∧ w' = w) := fun hw w => pmask_int z.width hw w
  have HW0 : Hid (∀ w', Below w.heap.size w w' → Calls Try.prog 29 #[ckV cb, .int .i64 z.next, .int .i64 z.width] w' fun e w'' => e = .returned (.bool (wideOf N z.next z.width)) ∧ Below w'.heap.size w' w'') := fun w' hw' => hasWidth_any B w' cb S N (h.to (hw'.mono hB)) (Nat.le_trans hB hw'.size) _ _
  rw [HM.out]
  clear HM ha hc h hz
  obtain ⟨wd, ini, nx⟩ := z
  simp only at c0 c1 c2 WD MK HW0 ⊢
  generalize widthOk wd = wo at *
  generalize maskN wd = mk at *
  generalize wideOf N nx wd = wn at *
  unfold ckV at *
  have hcs : wo = false ∨ (wo = true ∧ ¬ ini ≤ mk) ∨ (wo = true ∧ ini ≤ mk) := by
    cases wo <;> simp; omega
  rcases hcs with rfl | ⟨rfl, g1⟩ | ⟨rfl, g1⟩
  · go_enter Try.func14, Try.ntmps14
    go_wp2_with fail
    go_quiet ((go_at_call 11; exact Calls.quiet_of_same (WD.out _)))
    go_wp2
    go_ret
    exact ⟨rfl, Below.drewN ((Below.refl _ _).alloc (Nat.le_refl _) _) _⟩
  · have hd : decide (ini ≤ mk) = false := by rw [decide_eq_false_iff_not]; exact g1
    rw [hd]
    have MK' := MK rfl
    clear MK
    go_enter Try.func14, Try.ntmps14
    go_wp2_with fail
    go_quiet (first | (go_at_call 11; exact Calls.quiet_of_same (WD.out _)) | (go_at_call 28; exact Calls.quiet_of_same (MK'.out _)))
    go_wp2
    go_ret
    exact ⟨rfl, Below.drewN ((Below.refl _ _).alloc (Nat.le_refl _) _) _⟩
  · have hd : decide (ini ≤ mk) = true := by rw [decide_eq_true_iff]; exact g1
    rw [hd]
    have MK' := MK rfl
    clear MK
    go_enter Try.func14, Try.ntmps14
    go_wp2_with fail
    generalize hW : w.alloc (.cells #[.pointer (some ⟨cb, 0, none⟩)] 37) = W
    have HB : Hid (Below w.heap.size w W) := by rw [← hW]; exact (Below.refl _ _).alloc (Nat.le_refl _) _
    have qx : W.cell? ⟨w.heap.size, 0, none⟩ = some (.pointer (some ⟨cb, 0, none⟩)) := by rw [← hW]; simp
    have hN : w.heap.size < W.heap.size := by rw [← hW]; simp
    clear hW

    have qb0 := (HB.out.cell (p := ⟨b, o + k * 3, none⟩) hb).trans c0
    have qb1 := (HB.out.cell (p := ⟨b, o + k * 3 + 1, none⟩) hb).trans c1
    have qb2 := (HB.out.cell (p := ⟨b, o + k * 3 + 2, none⟩) hb).trans c2
    have hbW : b < W.heap.size := Nat.lt_trans hb hN
    have HW : Hid (∀ w', Below W.heap.size W w' → Calls Try.prog 29 #[.agg #[.pointer (some ⟨cb, 0, none⟩)], .int .i64 nx, .int .i64 wd] w' fun e w'' => e = .returned (.bool wn) ∧ Below w'.heap.size w' w'') := fun w' hw' => HW0.out w' (HB.out.trans (hw'.mono HB.out.size))
    clear c0 c1 c2 q2 HW0
    go_region_held3 (fun w' => Below W.heap.size W w' ∧ (∀ b' o, b' < W.heap.size → w'.cell? ⟨b', o, none⟩ = W.cell? ⟨b', o, none⟩))
      (first | assumption | exact sees_of (Below.refl _ _) | exact sees_of (Below.refl _ _).drew | exact sees_after (by assumption) (by assumption))
      (first | (go_at_call 11; refine (WD.out _).mono ?_; rintro e w' ⟨rfl, rfl⟩) | (go_at_call 28; refine (MK'.out _).mono ?_; rintro e w' ⟨rfl, rfl⟩) | (go_at_call 29; refine (HW.out _ (And.left (by assumption))).mono ?_; rintro e w2 ⟨rfl, hb2⟩))
    all_goals
      have HB2 : Hid (Below W.heap.size W _) := And.left (by assumption)
      go_wp2_with fail
      go_ret
      exact ⟨rfl, HB.out.trans (HB2.out.mono HB.out.size)⟩

end Go.Proofs.Ytlkhmcajedjojaa
