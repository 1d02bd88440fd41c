import Derived.Test.YtdiahnommkhkiaaDoorJ20
namespace Go.Proofs.YtdiahnommkhkiaaDoor
open Go.RowKit

/-- a latch's line, in bytes -/
def LatB (T : List UInt8) (n : Nat) (m : Int) (d : LatD) : Prop := d.next < m ∧ ((numsB T n = some [d.next] ∧ d.init = false) ∨ ∃ f, numsB T n = some [d.next, f] ∧ f ≤ 1 ∧ d.init = decide (f = 1))
theorem latB_second {T : List UInt8} {n : Nat} {m y : Int} {r : List Int} (h : numsB T n = some (y :: r)) (hne : ¬ y < m) : ¬ ∃ d, LatB T n m d := by
  rintro ⟨d, h0, ⟨h1, _⟩ | ⟨f, h1, _⟩⟩ <;> (rw [h] at h1; simp at h1; rw [h1.1] at hne; exact hne h0)
theorem latB_third {T : List UInt8} {n : Nat} {m y f : Int} (h : numsB T n = some [y, f]) (hne : ¬ f ≤ 1) : ¬ ∃ d, LatB T n m d := by
  rintro ⟨d, h0, ⟨h1, _⟩ | ⟨g, h1, h2, _⟩⟩
  · rw [h] at h1; simp at h1
  · rw [h] at h1; simp at h1; rw [h1.2] at hne; exact hne h2
set_option maxRecDepth 100000 in
set_option maxHeartbeats 2000000 in
theorem readLatch_by (r : Nat) (T : List UInt8) (n i : Nat) (h : Int × Int × Int × Int × Int) (w : World) (x : ByAt w r T n h) (hv : Vars w) (hr2 : 2 ≤ r) (h0 : 0 ≤ h.1 ∧ h.1 ≤ 60000) :
    Calls Tryd.prog 41 #[.pointer (some ⟨r, 0, none⟩), .int .i64 i] w fun e w' =>
      (∃ d, LatB T n (2 * (h.1 + 1)) d ∧ e = .returned (.agg #[.int .i64 d.next, .bool d.init]) ∧ ByAt w' r T (nextB T n) h ∧ w.grownBy w' (some r)) ∨ ((¬ ∃ d, LatB T n (2 * (h.1 + 1)) d) ∧ Thr w r (n : Int) e w') := by
  have hlt : r < w.heap.size := x.lt
  have HX := hidden x
  have HV := hidden hv
  have HLN : Hid (T.length ≤ 1048576) := x.len
  clear x hv
  go_enter Tryd.func41, Tryd.ntmps41
  go_upto_region 1 with fail
  generalize hW : World.alloc w _ = W
  obtain ⟨rb, hrb⟩ : ∃ x, x = w.heap.size := ⟨_, rfl⟩
  have HBW : Hid (Below w.heap.size w W) := by rw [← hW]; exact (Below.refl _ _).alloc (Nat.le_refl _) _
  have HRB : Hid (W.heap[rb]? = some (.cells #[.int .i64 0, .bool false] 47 (0, 0))) := by rw [← hW, hrb]; exact heap_new _ _
  have hrl : rb < W.heap.size := by rw [← hW, hrb]; simp
  have hrr : r ≠ rb := by omega
  have hrw : w.heap.size ≤ rb := by omega
  rw [← hrb]
  clear hW hrb
  have HXW := hidden (HX.out.to HBW.out)
  have c0 : W.cell? ⟨r, 0, none⟩ = some (.int .i64 1) := HXW.out.lay
  have N1 := hidden (numberLine_by r T n 1 2 h W HXW.out (HV.out.to HBW.out (by omega)) (by decide) hr2)
  go_wp2_with fail
  go_at_call 57
  refine N1.out.mono ?_
  rintro e w1 (⟨xs, q1, q2, q3, v, rfl, q4, q5, q6, q7⟩ | ⟨q1, p0, rfl, hp1, hp2, hp3⟩)
  · have hxl : 0 < xs.length := by omega
    obtain ⟨lb, lc, rfl, hlb, hlb2, hlc, hel⟩ := row_els q4 hxl
    have HQ5 := hidden q5
    have HG1 : Hid (w.grownBy w1 (some r)) := grown_trans (gbel HBW.out _) q7
    have HT1 : Hid (ByAt w1 r T (nextB T n) h) := ⟨⟨_, q5⟩, q6, HLN.out⟩
    have HR1 : Hid (w1.heap[rb]? = some (.cells #[.int .i64 0, .bool false] 47 (0, 0))) := (q7.block rb hrl (fun e => hrr (Option.some.inj e).symm)).trans HRB.out
    have hrl1 : rb < w1.heap.size := Nat.lt_of_lt_of_le hrl q7.size
    have hbw1 : Below w1.heap.size w1 w1 := Below.refl _ _
    have MB : Hid (∀ b w', Below w1.heap.size w1 w' → Calls Tryd.prog 53 #[.pointer (some ⟨r, 0, none⟩), .bool b] w' fun e w'' => (b = true ∧ e = .returned (.tuple #[]) ∧ w'' = w') ∨ (b = false ∧ Thr w' r (n : Int) e w'')) := fun b w' hw' => must_by r T _ h _ b w' (HQ5.out.to hw')
    have HLA : Hid (∀ y, 0 ≤ y ∧ y < 1000000000 → ∀ w', Below w1.heap.size w1 w' → Calls Tryd.prog 59 #[.pointer (some ⟨r, 1, none⟩), .int .i64 y] w' fun e w'' => e = .returned (.bool (decide (y < 2 * (h.1 + 1)))) ∧ Below w'.heap.size w' w'') := fun y hy w' hw' => by
      refine (hasLiteral_any r 1 h y w' ((HQ5.out.to hw').head) h0 (by omega)).mono ?_
      rintro e w'' ⟨rfl, rfl⟩
      exact ⟨rfl, Below.refl _ _⟩
    generalize hmm : 2 * (h.1 + 1) = m at *
    have HMM := hidden hmm
    clear hmm c0 N1
    have hshape : (∃ y, xs = [y]) ∨ ∃ y f, xs = [y, f] := by
      match xs, q2, q3 with
      | [y], _, _ => exact Or.inl ⟨y, rfl⟩
      | [y, f], _, _ => exact Or.inr ⟨y, f, rfl⟩
    rcases hshape with ⟨y, rfl⟩ | ⟨y, f, rfl⟩
    · have hyb := numsB_bound q1 y (by simp)
      have HQ1 := hidden q1
      have cy := hel 0 y rfl
      have K1 : Hid (∀ w', Below w1.heap.size w1 w' → w'.cell? ⟨lb, 0, none⟩ = some (.int .i64 y)) := fun w' hw' => (hw'.cell (p := ⟨lb, 0, none⟩) hlb2).trans cy
      have HL := hidden (HLA.out y hyb)
      have hlcI : (1 : Int) ≤ (lc : Int) := by simp at hlc; omega
      simp only [List.length_cons, List.length_nil, Nat.zero_add] at hlc ⊢
      clear q1 q2 q3 q4 q5 q6 q7 hel HLA hxl
      obtain ⟨b2, HB2⟩ : ∃ b, Hid (decide (y < m) = b) := ⟨_, rfl⟩
      rw [HB2.out] at HL
      have M2 := hidden (MB.out b2)
      go_wp2_with fail
      go_upto_region 7 with fail
      cases b2
      · have HNO : Hid (¬ ∃ d, LatB T n (2 * (h.1 + 1)) d) := by rw [HMM.out]; exact latB_second HQ1.out (by have := HB2.out; simpa using this)
        (
        refine wp_region_held_drew (S := (fun w' => w'.cell? ⟨lb, 0, none⟩ = some (.int .i64 y))) (by kernel_rfl) (by first | assumption | exact K1.out _ (by assumption) | exact K1.out _ (Below.drew (by assumption))) (fun hHeld => ?_)
        refine wpAnyH_take (i := 0) (oi := _) (v := ?_) rfl (by kernel_rfl) (by kernel_rfl) (by kernel_rfl) (fun _ _ _ h => h) (Or.inl ⟨by rfl, ?_⟩) (by assumption) ?_
        rotate_left
        · (intro w0 hSw; (try dsimp only at hSw); (try simp only [List.getElem_toArray, List.getElem_cons_zero]); go_simp; try (with_reducible rfl))
        try simp only [Act.put, List.getElem_toArray, List.getElem_cons_zero, List.setIfInBounds_toArray, List.set_cons_zero, List.set_cons_succ]
        refine wpAnyH_take (i := 1) (oi := _) (v := ?_) rfl (by kernel_rfl) (by kernel_rfl) (by kernel_rfl) (fun _ _ _ h => h) (Or.inl ⟨by rfl, ?_⟩) (by assumption) ?_
        rotate_left
        · (intro w0 hSw; (try dsimp only at hSw); (try simp only [List.getElem_toArray, List.getElem_cons_zero, List.getElem_cons_succ]); go_simp; try (with_reducible rfl))
        try simp only [Act.put, List.getElem_toArray, List.getElem_cons_zero, List.getElem_cons_succ, List.setIfInBounds_toArray, List.set_cons_zero, List.set_cons_succ]
        refine wpAnyH_take (i := 2) (oi := _) (v := ?_) rfl (by kernel_rfl) (by kernel_rfl) (by kernel_rfl) (fun _ _ _ h => h) (Or.inl ⟨by rfl, ?_⟩) (by assumption) ?_
        rotate_left
        · (intro w0 hSw; (try dsimp only at hSw); (try simp only [List.getElem_toArray, List.getElem_cons_zero, List.getElem_cons_succ]); go_simp; try (with_reducible rfl))
        try simp only [Act.put, List.getElem_toArray, List.getElem_cons_zero, List.getElem_cons_succ, List.setIfInBounds_toArray, List.set_cons_zero, List.set_cons_succ]
        refine wpAnyH_take (i := 3) (oi := _) (v := ?_) rfl (by kernel_rfl) (by kernel_rfl) (by kernel_rfl) (fun _ _ _ h => h) (Or.inl ⟨by rfl, ?_⟩) (by assumption) ?_
        rotate_left
        · (intro w0 hSw; (try dsimp only at hSw); (try simp only [List.getElem_toArray, List.getElem_cons_zero, List.getElem_cons_succ]); go_simp; try (with_reducible rfl))
        try simp only [Act.put, List.getElem_toArray, List.getElem_cons_zero, List.getElem_cons_succ, List.setIfInBounds_toArray, List.set_cons_zero, List.set_cons_succ]
        refine wpAnyH_take (i := 4) (oi := _) (v := ?_) rfl (by kernel_rfl) (by kernel_rfl) (by kernel_rfl) (fun _ _ _ h => h) (Or.inl ⟨by rfl, ?_⟩) (by assumption) ?_
        rotate_left
        · (intro w0 hSw; (try dsimp only at hSw); (try simp only [List.getElem_toArray, List.getElem_cons_zero, List.getElem_cons_succ]); go_simp; try (with_reducible rfl))
        try simp only [Act.put, List.getElem_toArray, List.getElem_cons_zero, List.getElem_cons_succ, List.setIfInBounds_toArray, List.set_cons_zero, List.set_cons_succ]
        refine wpAnyH_take (i := 5) (oi := _) (v := ?_) rfl (by kernel_rfl) (by kernel_rfl) (by kernel_rfl) (fun _ _ _ h => h) (Or.inl ⟨by rfl, ?_⟩) (by assumption) ?_
        rotate_left
        · (intro w0 hSw; (try dsimp only at hSw); (try simp only [List.getElem_toArray, List.getElem_cons_zero, List.getElem_cons_succ]); go_simp; try (with_reducible rfl))
        try simp only [Act.put, List.getElem_toArray, List.getElem_cons_zero, List.getElem_cons_succ, List.setIfInBounds_toArray, List.set_cons_zero, List.set_cons_succ]
        refine wpAnyH_take (i := 6) (oi := _) (v := ?_) rfl (by kernel_rfl) (by kernel_rfl) (by kernel_rfl) (fun _ _ _ h => h) (Or.inl ⟨by rfl, ?_⟩) (by assumption) ?_
        rotate_left
        · (intro w0 hSw; (try dsimp only at hSw); (try simp only [List.getElem_toArray, List.getElem_cons_zero, List.getElem_cons_succ]); go_simp; try (with_reducible rfl))
        try simp only [Act.put, List.getElem_toArray, List.getElem_cons_zero, List.getElem_cons_succ, List.setIfInBounds_toArray, List.set_cons_zero, List.set_cons_succ]
        refine wpAnyH_ready (rs := [7]) (by kernel_rfl) (by simp) ?_
        refine AllReadyH.cons (o := _) rfl (fun K hK => ?_) AllReadyH.nil
        (try simp only [List.getElem_toArray, List.getElem_cons_zero, List.getElem_cons_succ])
        go_simp
        go_at_call 59
        refine (HL.out _ (Below.drew hbw1)).mono ?_
        rintro e w4 ⟨rfl, hb_w4⟩
        replace hb_w4 : Below w1.heap.size w1 w4 := (Below.drew hbw1).trans (hb_w4.mono (by have := hbw1.size; exact this))
        go_wp2_with fail
        refine hK.out _ _ (by first | assumption | exact K1.out _ (by assumption) | exact K1.out _ (Below.drew (by assumption))) (fun hHeld1 => ?_)
        clear hK K
        try simp only [Act.put, List.setIfInBounds_toArray, List.set_cons_zero, List.set_cons_succ]
        refine wpAnyH_ready (rs := [8]) (by kernel_rfl) (by simp) ?_
        refine AllReadyH.cons (o := _) rfl (fun K hK => ?_) AllReadyH.nil
        (try simp only [List.getElem_toArray, List.getElem_cons_zero, List.getElem_cons_succ])
        go_simp
        go_at_call 53
        refine (M2.out _ hb_w4).mono ?_
        rintro e w5 hc
        obtain ⟨p0, rfl, hp1, hp2, hp3⟩ : Thr w4 r (n : Int) e w5 := by
          rcases hc with ⟨hf, -⟩ | ⟨-, hc⟩
          · cases hf
          · exact hc
        unfold thrown
        go_wp2
        )
        have hTh : Thr w r (n : Int) (thrown p0) w5 := ⟨p0, rfl, hp1, by have := HG1.out.size; have := hb_w4.size; omega, grown_trans HG1.out (grown_trans (gbel hb_w4 _) hp3)⟩
        first | exact ⟨rfl, Or.inr ⟨HNO.out, hTh⟩⟩ | exact Or.inr ⟨HNO.out, hTh⟩
      · have hym : y < m := by have := HB2.out; simpa using this
        (
        refine wp_region_held_drew (S := (fun w' => w'.cell? ⟨lb, 0, none⟩ = some (.int .i64 y))) (by kernel_rfl) (by first | assumption | exact K1.out _ (by assumption) | exact K1.out _ (Below.drew (by assumption))) (fun hHeld => ?_)
        refine wpAnyH_take (i := 0) (oi := _) (v := ?_) rfl (by kernel_rfl) (by kernel_rfl) (by kernel_rfl) (fun _ _ _ h => h) (Or.inl ⟨by rfl, ?_⟩) (by assumption) ?_
        rotate_left
        · (intro w0 hSw; (try dsimp only at hSw); (try simp only [List.getElem_toArray, List.getElem_cons_zero]); go_simp; try (with_reducible rfl))
        try simp only [Act.put, List.getElem_toArray, List.getElem_cons_zero, List.setIfInBounds_toArray, List.set_cons_zero, List.set_cons_succ]
        refine wpAnyH_take (i := 1) (oi := _) (v := ?_) rfl (by kernel_rfl) (by kernel_rfl) (by kernel_rfl) (fun _ _ _ h => h) (Or.inl ⟨by rfl, ?_⟩) (by assumption) ?_
        rotate_left
        · (intro w0 hSw; (try dsimp only at hSw); (try simp only [List.getElem_toArray, List.getElem_cons_zero, List.getElem_cons_succ]); go_simp; try (with_reducible rfl))
        try simp only [Act.put, List.getElem_toArray, List.getElem_cons_zero, List.getElem_cons_succ, List.setIfInBounds_toArray, List.set_cons_zero, List.set_cons_succ]
        refine wpAnyH_take (i := 2) (oi := _) (v := ?_) rfl (by kernel_rfl) (by kernel_rfl) (by kernel_rfl) (fun _ _ _ h => h) (Or.inl ⟨by rfl, ?_⟩) (by assumption) ?_
        rotate_left
        · (intro w0 hSw; (try dsimp only at hSw); (try simp only [List.getElem_toArray, List.getElem_cons_zero, List.getElem_cons_succ]); go_simp; try (with_reducible rfl))
        try simp only [Act.put, List.getElem_toArray, List.getElem_cons_zero, List.getElem_cons_succ, List.setIfInBounds_toArray, List.set_cons_zero, List.set_cons_succ]
        refine wpAnyH_take (i := 3) (oi := _) (v := ?_) rfl (by kernel_rfl) (by kernel_rfl) (by kernel_rfl) (fun _ _ _ h => h) (Or.inl ⟨by rfl, ?_⟩) (by assumption) ?_
        rotate_left
        · (intro w0 hSw; (try dsimp only at hSw); (try simp only [List.getElem_toArray, List.getElem_cons_zero, List.getElem_cons_succ]); go_simp; try (with_reducible rfl))
        try simp only [Act.put, List.getElem_toArray, List.getElem_cons_zero, List.getElem_cons_succ, List.setIfInBounds_toArray, List.set_cons_zero, List.set_cons_succ]
        refine wpAnyH_take (i := 4) (oi := _) (v := ?_) rfl (by kernel_rfl) (by kernel_rfl) (by kernel_rfl) (fun _ _ _ h => h) (Or.inl ⟨by rfl, ?_⟩) (by assumption) ?_
        rotate_left
        · (intro w0 hSw; (try dsimp only at hSw); (try simp only [List.getElem_toArray, List.getElem_cons_zero, List.getElem_cons_succ]); go_simp; try (with_reducible rfl))
        try simp only [Act.put, List.getElem_toArray, List.getElem_cons_zero, List.getElem_cons_succ, List.setIfInBounds_toArray, List.set_cons_zero, List.set_cons_succ]
        refine wpAnyH_take (i := 5) (oi := _) (v := ?_) rfl (by kernel_rfl) (by kernel_rfl) (by kernel_rfl) (fun _ _ _ h => h) (Or.inl ⟨by rfl, ?_⟩) (by assumption) ?_
        rotate_left
        · (intro w0 hSw; (try dsimp only at hSw); (try simp only [List.getElem_toArray, List.getElem_cons_zero, List.getElem_cons_succ]); go_simp; try (with_reducible rfl))
        try simp only [Act.put, List.getElem_toArray, List.getElem_cons_zero, List.getElem_cons_succ, List.setIfInBounds_toArray, List.set_cons_zero, List.set_cons_succ]
        refine wpAnyH_take (i := 6) (oi := _) (v := ?_) rfl (by kernel_rfl) (by kernel_rfl) (by kernel_rfl) (fun _ _ _ h => h) (Or.inl ⟨by rfl, ?_⟩) (by assumption) ?_
        rotate_left
        · (intro w0 hSw; (try dsimp only at hSw); (try simp only [List.getElem_toArray, List.getElem_cons_zero, List.getElem_cons_succ]); go_simp; try (with_reducible rfl))
        try simp only [Act.put, List.getElem_toArray, List.getElem_cons_zero, List.getElem_cons_succ, List.setIfInBounds_toArray, List.set_cons_zero, List.set_cons_succ]
        refine wpAnyH_ready (rs := [7]) (by kernel_rfl) (by simp) ?_
        refine AllReadyH.cons (o := _) rfl (fun K hK => ?_) AllReadyH.nil
        (try simp only [List.getElem_toArray, List.getElem_cons_zero, List.getElem_cons_succ])
        go_simp
        go_at_call 59
        refine (HL.out _ (Below.drew hbw1)).mono ?_
        rintro e w4 ⟨rfl, hb_w4⟩
        replace hb_w4 : Below w1.heap.size w1 w4 := (Below.drew hbw1).trans (hb_w4.mono (by have := hbw1.size; exact this))
        go_wp2_with fail
        refine hK.out _ _ (by first | assumption | exact K1.out _ (by assumption) | exact K1.out _ (Below.drew (by assumption))) (fun hHeld1 => ?_)
        clear hK K
        try simp only [Act.put, List.setIfInBounds_toArray, List.set_cons_zero, List.set_cons_succ]
        refine wpAnyH_ready (rs := [8]) (by kernel_rfl) (by simp) ?_
        refine AllReadyH.cons (o := _) rfl (fun K hK => ?_) AllReadyH.nil
        (try simp only [List.getElem_toArray, List.getElem_cons_zero, List.getElem_cons_succ])
        go_simp
        go_at_call 53
        refine (M2.out _ hb_w4).mono ?_
        rintro e w5 hc
        obtain ⟨he3, hw3⟩ : e = .returned (.tuple #[]) ∧ w5 = w4 := by
          rcases hc with ⟨-, h1, h2⟩ | ⟨hf, -⟩
          · exact ⟨h1, h2⟩
          · cases hf
        subst he3
        subst hw3
        go_wp2_with fail
        refine hK.out _ _ (by first | assumption | exact K1.out _ (by assumption) | exact K1.out _ (Below.drew (by assumption))) (fun hHeld2 => ?_)
        clear hK K
        try simp only [Act.put, List.setIfInBounds_toArray, List.set_cons_zero, List.set_cons_succ]
        refine wpAnyH_done (by kernel_rfl) ?_ _
        )
        try clear hHeld
        try clear hHeld1
        try clear hHeld2
        have cy5 := K1.out _ hb_w4
        have HR5 : Hid (w5.heap[rb]? = some (.cells #[.int .i64 0, .bool false] 47 (0, 0))) := (hb_w4.block rb hrl1).trans HR1.out
        have r0 : w5.cell? ⟨rb, 0, none⟩ = some (.int .i64 0) := heap_cell HR5.out
        have r1 : w5.cell? ⟨rb, 1, none⟩ = some (.bool false) := heap_cell HR5.out
        have f0 : w5.frozen? ⟨rb, 0, none⟩ = false := heap_fz HR5.out _
        have f1 : w5.frozen? ⟨rb, 1, none⟩ = false := heap_fz HR5.out _
        have HT5 := hidden (HT1.out.to hb_w4)
        have HG5 : Hid (w.grownBy w5 (some r)) := grown_trans HG1.out (gbel hb_w4 _)
        have HOK : Hid (LatB T n (2 * (h.1 + 1)) ⟨y, false⟩) := by rw [HMM.out]; exact ⟨hym, Or.inl ⟨HQ1.out, rfl⟩⟩
        have M5 := hidden (must_ok r w5)
        clear hb_w4 cy
        go_wp2_with fail
        go_at_call 53
        refine M5.out.mono ?_
        rintro e x5 ⟨rfl, rfl⟩
        go_wp2
        obtain ⟨w6, hw6⟩ : ∃ x, x = (x5.setCell ⟨rb, 0, none⟩ (.int .i64 y)).setCell ⟨rb, 1, none⟩ (.bool false) := ⟨_, rfl⟩
        have HS6 : Hid (w6.heap[rb]? = some (.cells #[.int .i64 y, .bool false] 47 (0, 0))) := by rw [hw6]; exact set2 HR5.out _ _
        have HG6 : Hid (x5.grownBy w6 (some rb)) := by rw [hw6]; exact grown_trans (gset _ _ _ _) (gset _ _ _ _)
        rw [← hw6]
        have z0 : w6.cell? ⟨rb, 0, none⟩ = some (.int .i64 y) := heap_cell HS6.out
        have z1 : w6.cell? ⟨rb, 1, none⟩ = some (.bool false) := heap_cell HS6.out
        clear r0 r1 f0 f1 hw6
        refine bodyPost_ret (v := .agg #[.int .i64 y, .bool false]) (by simp [results, Tryd.results41, go_sem, *]) rfl ?_
        exact Or.inl ⟨⟨y, false⟩, HOK.out, rfl, HT5.out.grown HG6.out hrr, grown_far HG5.out HG6.out hrw⟩
    · have hyb := numsB_bound q1 y (by simp)
      have HQ1 := hidden q1
      have cy := hel 0 y rfl
      have cf := hel 1 f rfl
      have K2 : Hid (∀ w', Below w1.heap.size w1 w' → w'.cell? ⟨lb, 1, none⟩ = some (.int .i64 f)) := fun w' hw' => (hw'.cell (p := ⟨lb, 1, none⟩) hlb2).trans cf
      have K1 : Hid (∀ w', Below w1.heap.size w1 w' → w'.cell? ⟨lb, 0, none⟩ = some (.int .i64 y)) := fun w' hw' => (hw'.cell (p := ⟨lb, 0, none⟩) hlb2).trans cy
      have HL := hidden (HLA.out y hyb)
      have hlcI : (2 : Int) ≤ (lc : Int) := by simp at hlc; omega
      simp only [List.length_cons, List.length_nil, Nat.zero_add, Nat.reduceAdd] at hlc ⊢
      clear q1 q2 q3 q4 q5 q6 q7 hel HLA hxl
      obtain ⟨b2, HB2⟩ : ∃ b, Hid (decide (y < m) = b) := ⟨_, rfl⟩
      rw [HB2.out] at HL
      have M2 := hidden (MB.out b2)
      go_wp2_with fail
      go_upto_region 7 with fail
      cases b2
      · have HNO : Hid (¬ ∃ d, LatB T n (2 * (h.1 + 1)) d) := by rw [HMM.out]; exact latB_second HQ1.out (by have := HB2.out; simpa using this)
        (
        refine wp_region_held_drew (S := (fun w' => w'.cell? ⟨lb, 0, none⟩ = some (.int .i64 y))) (by kernel_rfl) (by first | assumption | exact K1.out _ (by assumption) | exact K1.out _ (Below.drew (by assumption))) (fun hHeld => ?_)
        refine wpAnyH_take (i := 0) (oi := _) (v := ?_) rfl (by kernel_rfl) (by kernel_rfl) (by kernel_rfl) (fun _ _ _ h => h) (Or.inl ⟨by rfl, ?_⟩) (by assumption) ?_
        rotate_left
        · (intro w0 hSw; (try dsimp only at hSw); (try simp only [List.getElem_toArray, List.getElem_cons_zero]); go_simp; try (with_reducible rfl))
        try simp only [Act.put, List.getElem_toArray, List.getElem_cons_zero, List.setIfInBounds_toArray, List.set_cons_zero, List.set_cons_succ]
        refine wpAnyH_take (i := 1) (oi := _) (v := ?_) rfl (by kernel_rfl) (by kernel_rfl) (by kernel_rfl) (fun _ _ _ h => h) (Or.inl ⟨by rfl, ?_⟩) (by assumption) ?_
        rotate_left
        · (intro w0 hSw; (try dsimp only at hSw); (try simp only [List.getElem_toArray, List.getElem_cons_zero, List.getElem_cons_succ]); go_simp; try (with_reducible rfl))
        try simp only [Act.put, List.getElem_toArray, List.getElem_cons_zero, List.getElem_cons_succ, List.setIfInBounds_toArray, List.set_cons_zero, List.set_cons_succ]
        refine wpAnyH_take (i := 2) (oi := _) (v := ?_) rfl (by kernel_rfl) (by kernel_rfl) (by kernel_rfl) (fun _ _ _ h => h) (Or.inl ⟨by rfl, ?_⟩) (by assumption) ?_
        rotate_left
        · (intro w0 hSw; (try dsimp only at hSw); (try simp only [List.getElem_toArray, List.getElem_cons_zero, List.getElem_cons_succ]); go_simp; try (with_reducible rfl))
        try simp only [Act.put, List.getElem_toArray, List.getElem_cons_zero, List.getElem_cons_succ, List.setIfInBounds_toArray, List.set_cons_zero, List.set_cons_succ]
        refine wpAnyH_take (i := 3) (oi := _) (v := ?_) rfl (by kernel_rfl) (by kernel_rfl) (by kernel_rfl) (fun _ _ _ h => h) (Or.inl ⟨by rfl, ?_⟩) (by assumption) ?_
        rotate_left
        · (intro w0 hSw; (try dsimp only at hSw); (try simp only [List.getElem_toArray, List.getElem_cons_zero, List.getElem_cons_succ]); go_simp; try (with_reducible rfl))
        try simp only [Act.put, List.getElem_toArray, List.getElem_cons_zero, List.getElem_cons_succ, List.setIfInBounds_toArray, List.set_cons_zero, List.set_cons_succ]
        refine wpAnyH_take (i := 4) (oi := _) (v := ?_) rfl (by kernel_rfl) (by kernel_rfl) (by kernel_rfl) (fun _ _ _ h => h) (Or.inl ⟨by rfl, ?_⟩) (by assumption) ?_
        rotate_left
        · (intro w0 hSw; (try dsimp only at hSw); (try simp only [List.getElem_toArray, List.getElem_cons_zero, List.getElem_cons_succ]); go_simp; try (with_reducible rfl))
        try simp only [Act.put, List.getElem_toArray, List.getElem_cons_zero, List.getElem_cons_succ, List.setIfInBounds_toArray, List.set_cons_zero, List.set_cons_succ]
        refine wpAnyH_take (i := 5) (oi := _) (v := ?_) rfl (by kernel_rfl) (by kernel_rfl) (by kernel_rfl) (fun _ _ _ h => h) (Or.inl ⟨by rfl, ?_⟩) (by assumption) ?_
        rotate_left
        · (intro w0 hSw; (try dsimp only at hSw); (try simp only [List.getElem_toArray, List.getElem_cons_zero, List.getElem_cons_succ]); go_simp; try (with_reducible rfl))
        try simp only [Act.put, List.getElem_toArray, List.getElem_cons_zero, List.getElem_cons_succ, List.setIfInBounds_toArray, List.set_cons_zero, List.set_cons_succ]
        refine wpAnyH_take (i := 6) (oi := _) (v := ?_) rfl (by kernel_rfl) (by kernel_rfl) (by kernel_rfl) (fun _ _ _ h => h) (Or.inl ⟨by rfl, ?_⟩) (by assumption) ?_
        rotate_left
        · (intro w0 hSw; (try dsimp only at hSw); (try simp only [List.getElem_toArray, List.getElem_cons_zero, List.getElem_cons_succ]); go_simp; try (with_reducible rfl))
        try simp only [Act.put, List.getElem_toArray, List.getElem_cons_zero, List.getElem_cons_succ, List.setIfInBounds_toArray, List.set_cons_zero, List.set_cons_succ]
        refine wpAnyH_ready (rs := [7]) (by kernel_rfl) (by simp) ?_
        refine AllReadyH.cons (o := _) rfl (fun K hK => ?_) AllReadyH.nil
        (try simp only [List.getElem_toArray, List.getElem_cons_zero, List.getElem_cons_succ])
        go_simp
        go_at_call 59
        refine (HL.out _ (Below.drew hbw1)).mono ?_
        rintro e w4 ⟨rfl, hb_w4⟩
        replace hb_w4 : Below w1.heap.size w1 w4 := (Below.drew hbw1).trans (hb_w4.mono (by have := hbw1.size; exact this))
        go_wp2_with fail
        refine hK.out _ _ (by first | assumption | exact K1.out _ (by assumption) | exact K1.out _ (Below.drew (by assumption))) (fun hHeld1 => ?_)
        clear hK K
        try simp only [Act.put, List.setIfInBounds_toArray, List.set_cons_zero, List.set_cons_succ]
        refine wpAnyH_ready (rs := [8]) (by kernel_rfl) (by simp) ?_
        refine AllReadyH.cons (o := _) rfl (fun K hK => ?_) AllReadyH.nil
        (try simp only [List.getElem_toArray, List.getElem_cons_zero, List.getElem_cons_succ])
        go_simp
        go_at_call 53
        refine (M2.out _ hb_w4).mono ?_
        rintro e w5 hc
        obtain ⟨p0, rfl, hp1, hp2, hp3⟩ : Thr w4 r (n : Int) e w5 := by
          rcases hc with ⟨hf, -⟩ | ⟨-, hc⟩
          · cases hf
          · exact hc
        unfold thrown
        go_wp2
        )
        have hTh : Thr w r (n : Int) (thrown p0) w5 := ⟨p0, rfl, hp1, by have := HG1.out.size; have := hb_w4.size; omega, grown_trans HG1.out (grown_trans (gbel hb_w4 _) hp3)⟩
        first | exact ⟨rfl, Or.inr ⟨HNO.out, hTh⟩⟩ | exact Or.inr ⟨HNO.out, hTh⟩
      · have hym : y < m := by have := HB2.out; simpa using this
        (
        refine wp_region_held_drew (S := (fun w' => w'.cell? ⟨lb, 0, none⟩ = some (.int .i64 y))) (by kernel_rfl) (by first | assumption | exact K1.out _ (by assumption) | exact K1.out _ (Below.drew (by assumption))) (fun hHeld => ?_)
        refine wpAnyH_take (i := 0) (oi := _) (v := ?_) rfl (by kernel_rfl) (by kernel_rfl) (by kernel_rfl) (fun _ _ _ h => h) (Or.inl ⟨by rfl, ?_⟩) (by assumption) ?_
        rotate_left
        · (intro w0 hSw; (try dsimp only at hSw); (try simp only [List.getElem_toArray, List.getElem_cons_zero]); go_simp; try (with_reducible rfl))
        try simp only [Act.put, List.getElem_toArray, List.getElem_cons_zero, List.setIfInBounds_toArray, List.set_cons_zero, List.set_cons_succ]
        refine wpAnyH_take (i := 1) (oi := _) (v := ?_) rfl (by kernel_rfl) (by kernel_rfl) (by kernel_rfl) (fun _ _ _ h => h) (Or.inl ⟨by rfl, ?_⟩) (by assumption) ?_
        rotate_left
        · (intro w0 hSw; (try dsimp only at hSw); (try simp only [List.getElem_toArray, List.getElem_cons_zero, List.getElem_cons_succ]); go_simp; try (with_reducible rfl))
        try simp only [Act.put, List.getElem_toArray, List.getElem_cons_zero, List.getElem_cons_succ, List.setIfInBounds_toArray, List.set_cons_zero, List.set_cons_succ]
        refine wpAnyH_take (i := 2) (oi := _) (v := ?_) rfl (by kernel_rfl) (by kernel_rfl) (by kernel_rfl) (fun _ _ _ h => h) (Or.inl ⟨by rfl, ?_⟩) (by assumption) ?_
        rotate_left
        · (intro w0 hSw; (try dsimp only at hSw); (try simp only [List.getElem_toArray, List.getElem_cons_zero, List.getElem_cons_succ]); go_simp; try (with_reducible rfl))
        try simp only [Act.put, List.getElem_toArray, List.getElem_cons_zero, List.getElem_cons_succ, List.setIfInBounds_toArray, List.set_cons_zero, List.set_cons_succ]
        refine wpAnyH_take (i := 3) (oi := _) (v := ?_) rfl (by kernel_rfl) (by kernel_rfl) (by kernel_rfl) (fun _ _ _ h => h) (Or.inl ⟨by rfl, ?_⟩) (by assumption) ?_
        rotate_left
        · (intro w0 hSw; (try dsimp only at hSw); (try simp only [List.getElem_toArray, List.getElem_cons_zero, List.getElem_cons_succ]); go_simp; try (with_reducible rfl))
        try simp only [Act.put, List.getElem_toArray, List.getElem_cons_zero, List.getElem_cons_succ, List.setIfInBounds_toArray, List.set_cons_zero, List.set_cons_succ]
        refine wpAnyH_take (i := 4) (oi := _) (v := ?_) rfl (by kernel_rfl) (by kernel_rfl) (by kernel_rfl) (fun _ _ _ h => h) (Or.inl ⟨by rfl, ?_⟩) (by assumption) ?_
        rotate_left
        · (intro w0 hSw; (try dsimp only at hSw); (try simp only [List.getElem_toArray, List.getElem_cons_zero, List.getElem_cons_succ]); go_simp; try (with_reducible rfl))
        try simp only [Act.put, List.getElem_toArray, List.getElem_cons_zero, List.getElem_cons_succ, List.setIfInBounds_toArray, List.set_cons_zero, List.set_cons_succ]
        refine wpAnyH_take (i := 5) (oi := _) (v := ?_) rfl (by kernel_rfl) (by kernel_rfl) (by kernel_rfl) (fun _ _ _ h => h) (Or.inl ⟨by rfl, ?_⟩) (by assumption) ?_
        rotate_left
        · (intro w0 hSw; (try dsimp only at hSw); (try simp only [List.getElem_toArray, List.getElem_cons_zero, List.getElem_cons_succ]); go_simp; try (with_reducible rfl))
        try simp only [Act.put, List.getElem_toArray, List.getElem_cons_zero, List.getElem_cons_succ, List.setIfInBounds_toArray, List.set_cons_zero, List.set_cons_succ]
        refine wpAnyH_take (i := 6) (oi := _) (v := ?_) rfl (by kernel_rfl) (by kernel_rfl) (by kernel_rfl) (fun _ _ _ h => h) (Or.inl ⟨by rfl, ?_⟩) (by assumption) ?_
        rotate_left
        · (intro w0 hSw; (try dsimp only at hSw); (try simp only [List.getElem_toArray, List.getElem_cons_zero, List.getElem_cons_succ]); go_simp; try (with_reducible rfl))
        try simp only [Act.put, List.getElem_toArray, List.getElem_cons_zero, List.getElem_cons_succ, List.setIfInBounds_toArray, List.set_cons_zero, List.set_cons_succ]
        refine wpAnyH_ready (rs := [7]) (by kernel_rfl) (by simp) ?_
        refine AllReadyH.cons (o := _) rfl (fun K hK => ?_) AllReadyH.nil
        (try simp only [List.getElem_toArray, List.getElem_cons_zero, List.getElem_cons_succ])
        go_simp
        go_at_call 59
        refine (HL.out _ (Below.drew hbw1)).mono ?_
        rintro e w4 ⟨rfl, hb_w4⟩
        replace hb_w4 : Below w1.heap.size w1 w4 := (Below.drew hbw1).trans (hb_w4.mono (by have := hbw1.size; exact this))
        go_wp2_with fail
        refine hK.out _ _ (by first | assumption | exact K1.out _ (by assumption) | exact K1.out _ (Below.drew (by assumption))) (fun hHeld1 => ?_)
        clear hK K
        try simp only [Act.put, List.setIfInBounds_toArray, List.set_cons_zero, List.set_cons_succ]
        refine wpAnyH_ready (rs := [8]) (by kernel_rfl) (by simp) ?_
        refine AllReadyH.cons (o := _) rfl (fun K hK => ?_) AllReadyH.nil
        (try simp only [List.getElem_toArray, List.getElem_cons_zero, List.getElem_cons_succ])
        go_simp
        go_at_call 53
        refine (M2.out _ hb_w4).mono ?_
        rintro e w5 hc
        obtain ⟨he3, hw3⟩ : e = .returned (.tuple #[]) ∧ w5 = w4 := by
          rcases hc with ⟨-, h1, h2⟩ | ⟨hf, -⟩
          · exact ⟨h1, h2⟩
          · cases hf
        subst he3
        subst hw3
        go_wp2_with fail
        refine hK.out _ _ (by first | assumption | exact K1.out _ (by assumption) | exact K1.out _ (Below.drew (by assumption))) (fun hHeld2 => ?_)
        clear hK K
        try simp only [Act.put, List.setIfInBounds_toArray, List.set_cons_zero, List.set_cons_succ]
        refine wpAnyH_done (by kernel_rfl) ?_ _
        )
        try clear hHeld
        try clear hHeld1
        try clear hHeld2
        have cy5 := K1.out _ hb_w4
        have HR5 : Hid (w5.heap[rb]? = some (.cells #[.int .i64 0, .bool false] 47 (0, 0))) := (hb_w4.block rb hrl1).trans HR1.out
        have r0 : w5.cell? ⟨rb, 0, none⟩ = some (.int .i64 0) := heap_cell HR5.out
        have r1 : w5.cell? ⟨rb, 1, none⟩ = some (.bool false) := heap_cell HR5.out
        have f0 : w5.frozen? ⟨rb, 0, none⟩ = false := heap_fz HR5.out _
        have f1 : w5.frozen? ⟨rb, 1, none⟩ = false := heap_fz HR5.out _
        have HT5 := hidden (HT1.out.to hb_w4)
        have HG5 : Hid (w.grownBy w5 (some r)) := grown_trans HG1.out (gbel hb_w4 _)
        have cf5 := K2.out _ hb_w4
        have M3 := hidden (MB.out (decide (f ≤ 1)) _ hb_w4)
        have HB4 := hidden hb_w4
        by_cases hf1 : f ≤ 1
        · have hfd : decide (f ≤ 1) = true := by simp [hf1]
          rw [hfd] at M3
          have HOK0 : Hid (∀ b, b = decide (f = 1) → LatB T n (2 * (h.1 + 1)) ⟨y, b⟩) := fun b hb => by rw [HMM.out]; exact ⟨hym, Or.inr ⟨f, HQ1.out, hf1, hb⟩⟩
          clear hb_w4 cy cf
          go_wp2_with fail
          go_at_call 53
          refine M3.out.mono ?_
          rintro e x5 hc
          obtain ⟨he3, hw3⟩ : e = .returned (.tuple #[]) ∧ x5 = w5 := by
            rcases hc with ⟨-, h1, h2⟩ | ⟨hf, -⟩
            · exact ⟨h1, h2⟩
            · cases hf
          subst he3
          subst hw3
          clear hc M3
          by_cases hfe : f = 1
          · have hfb : (f == 1) = true := by simp [hfe]
            have HOK := hidden (HOK0.out true (by simp [hfe]))
            go_wp2
            obtain ⟨w6, hw6⟩ : ∃ x, x = (x5.setCell ⟨rb, 0, none⟩ (.int .i64 y)).setCell ⟨rb, 1, none⟩ (.bool true) := ⟨_, rfl⟩
            have HS6 : Hid (w6.heap[rb]? = some (.cells #[.int .i64 y, .bool true] 47 (0, 0))) := by rw [hw6]; exact set2 HR5.out _ _
            have HG6 : Hid (x5.grownBy w6 (some rb)) := by rw [hw6]; exact grown_trans (gset _ _ _ _) (gset _ _ _ _)
            rw [← hw6]
            have z0 : w6.cell? ⟨rb, 0, none⟩ = some (.int .i64 y) := heap_cell HS6.out
            have z1 : w6.cell? ⟨rb, 1, none⟩ = some (.bool true) := heap_cell HS6.out
            clear r0 r1 f0 f1 hw6
            refine bodyPost_ret (v := .agg #[.int .i64 y, .bool true]) (by simp [results, Tryd.results41, go_sem, *]) rfl ?_
            exact Or.inl ⟨⟨y, true⟩, HOK.out, rfl, HT5.out.grown HG6.out hrr, grown_far HG5.out HG6.out hrw⟩
          · have hfb : (f == 1) = false := by simp [hfe]
            have HOK := hidden (HOK0.out false (by simp [hfe]))
            go_wp2
            obtain ⟨w6, hw6⟩ : ∃ x, x = (x5.setCell ⟨rb, 0, none⟩ (.int .i64 y)).setCell ⟨rb, 1, none⟩ (.bool false) := ⟨_, rfl⟩
            have HS6 : Hid (w6.heap[rb]? = some (.cells #[.int .i64 y, .bool false] 47 (0, 0))) := by rw [hw6]; exact set2 HR5.out _ _
            have HG6 : Hid (x5.grownBy w6 (some rb)) := by rw [hw6]; exact grown_trans (gset _ _ _ _) (gset _ _ _ _)
            rw [← hw6]
            have z0 : w6.cell? ⟨rb, 0, none⟩ = some (.int .i64 y) := heap_cell HS6.out
            have z1 : w6.cell? ⟨rb, 1, none⟩ = some (.bool false) := heap_cell HS6.out
            clear r0 r1 f0 f1 hw6
            refine bodyPost_ret (v := .agg #[.int .i64 y, .bool false]) (by simp [results, Tryd.results41, go_sem, *]) rfl ?_
            exact Or.inl ⟨⟨y, false⟩, HOK.out, rfl, HT5.out.grown HG6.out hrr, grown_far HG5.out HG6.out hrw⟩
        · have hfd : decide (f ≤ 1) = false := by simp [hf1]
          rw [hfd] at M3
          have HNO : Hid (¬ ∃ d, LatB T n (2 * (h.1 + 1)) d) := latB_third HQ1.out hf1
          clear hb_w4 cy cf
          go_wp2_with fail
          go_at_call 53
          refine M3.out.mono ?_
          rintro e w7 hc
          obtain ⟨p0, rfl, hp1, hp2, hp3⟩ : Thr w5 r (n : Int) e w7 := by
            rcases hc with ⟨hf, -⟩ | ⟨-, hc⟩
            · cases hf
            · exact hc
          unfold thrown
          go_wp2
          have hTh : Thr w r (n : Int) (thrown p0) w7 := ⟨p0, rfl, hp1, by have := HG5.out.size; omega, grown_trans HG5.out hp3⟩
          first | exact ⟨rfl, Or.inr ⟨HNO.out, hTh⟩⟩ | exact Or.inr ⟨HNO.out, hTh⟩
  · have H1 := hidden hp1
    have H2' := hidden hp2
    have H3 := hidden hp3
    have HNO : Hid (¬ ∃ d, LatB T n (2 * (h.1 + 1)) d) := by
      rintro ⟨d, _, ⟨hz, _⟩ | ⟨f, hz, _⟩⟩
      · exact q1 _ hz ⟨by simp, by simp⟩
      · exact q1 _ hz ⟨by simp, by simp⟩
    clear hp1 hp2 hp3 N1 q1 c0
    unfold thrown
    go_wp2
    have hTh : Thr w r (n : Int) (thrown p0) w1 := ⟨p0, rfl, H1.out, Nat.le_trans HBW.out.size H2'.out, grown_trans (gbel HBW.out _) H3.out⟩
    first | exact ⟨rfl, Or.inr ⟨HNO.out, hTh⟩⟩ | exact Or.inr ⟨HNO.out, hTh⟩


end Go.Proofs.YtdiahnommkhkiaaDoor
