import Derived.Test.YtdiahnommkhkiaaDoorJ19
import Derived.Deep.RegionHeld3
namespace Go.Proofs.YtdiahnommkhkiaaDoor
open Go.RowKit

/-- an output's line, in bytes -/
def OutB (T : List UInt8) (n : Nat) (m x : Int) : Prop := numsB T n = some [x] ∧ x < m
set_option maxRecDepth 100000 in
set_option maxHeartbeats 4000000 in
theorem readOutput_by (r : Nat) (T : List UInt8) (n : Nat) (h : Int × Int × Int × Int × Int) (w : World) (x : ByAt w r T n h) (hv : Vars w) (hr2 : 2 ≤ r) (h0 : 0 ≤ h.1 ∧ h.1 ≤ 60000) :
    Calls Tryd.prog 42 #[.pointer (some ⟨r, 0, none⟩)] w fun e w' =>
      (∃ y, OutB T n (2 * (h.1 + 1)) y ∧ e = .returned (.int .i64 y) ∧ ByAt w' r T (nextB T n) h ∧ w.grownBy w' (some r)) ∨ ((¬ ∃ y, OutB T n (2 * (h.1 + 1)) y) ∧ Thr w r (n : Int) e w') := by
  have N1 := hidden (numberLine_by r T n 1 1 h w x hv (by decide) hr2)
  have HLN : Hid (T.length ≤ 1048576) := x.len
  clear x hv
  go_enter Tryd.func42, Tryd.ntmps42
  go_wp2_with fail
  go_at_call 57
  refine N1.out.mono ?_
  rintro e w1 (⟨xs, q1, q2, q3, v, rfl, q4, q5, q6, q7⟩ | ⟨q1, p0, rfl, hp1, hp2, hp3⟩)
  · obtain ⟨y, rfl⟩ : ∃ y, xs = [y] := by
      match xs, q2, q3 with
      | [y], _, _ => exact ⟨y, rfl⟩
    obtain ⟨lb, lc, rfl, hlb, hlb2, hlc, hel⟩ := row_els q4 (by simp)
    have cy := hel 0 y rfl
    have hyb := numsB_bound q1 y (by simp)
    have HQ1 := hidden q1
    have HQ5 := hidden q5
    have HG1 := hidden q7
    have HT1 : Hid (ByAt w1 r T (nextB T n) h) := ⟨⟨_, q5⟩, q6, HLN.out⟩
    have HL : Hid (∀ w', Below w1.heap.size w1 w' → Calls Tryd.prog 59 #[.pointer (some ⟨r, 1, none⟩), .int .i64 y] w' fun e w'' => e = .returned (.bool (decide (y < 2 * (h.1 + 1)))) ∧ Below w'.heap.size w' w'') := fun w' hw' => by
      refine (hasLiteral_any r 1 h y w' ((HQ5.out.to hw').head) h0 (by omega)).mono ?_
      rintro e w'' ⟨rfl, rfl⟩
      exact ⟨rfl, Below.refl _ _⟩
    obtain ⟨b, HB⟩ : ∃ b, Hid (decide (y < 2 * (h.1 + 1)) = b) := ⟨_, rfl⟩
    rw [HB.out] at HL
    have MU : Hid (∀ w', Below w1.heap.size w1 w' → Calls Tryd.prog 53 #[.pointer (some ⟨r, 0, none⟩), .bool b] w' fun e w'' => (b = true ∧ e = .returned (.tuple #[]) ∧ w'' = w') ∨ (b = false ∧ Thr w' r (n : Int) e w'')) := fun w' hw' => must_by r T _ h _ b w' (HQ5.out.to hw')
    have K2 : Hid (∀ w', Below w1.heap.size w1 w' → w'.cell? ⟨lb, 0, none⟩ = some (.int .i64 y)) := fun w' hw' => (hw'.cell (p := ⟨lb, 0, none⟩) hlb2).trans cy
    clear q1 q2 q3 q4 q5 q6 q7 hel N1
    go_wp2_with fail
    cases b
    · have HNO : Hid (¬ ∃ y, OutB T n (2 * (h.1 + 1)) y) := by
        rintro ⟨z, hz1, hz2⟩
        rw [HQ1.out] at hz1
        have : y = z := by simpa using hz1
        subst this
        have := HB.out
        simp at this; omega
      (
      refine wp_region_held_drew (S := (fun w' => w'.cell? ⟨lb, 0, none⟩ = some (.int .i64 y))) (by kernel_rfl) (by first | assumption | exact K2.out _ (by assumption) | exact K2.out _ (Below.drew (Below.refl _ _)) | exact K2.out _ (Below.refl _ _)) (fun hHeld => ?_)
      refine wpAnyH_take (i := 0) (oi := _) (v := ?_) rfl (by kernel_rfl) (by kernel_rfl) (by kernel_rfl) (fun _ _ _ h => h) (Or.inl ⟨by rfl, ?_⟩) (by assumption) ?_
      rotate_left
      · (intro w0 hSw; (try dsimp only at hSw); (try simp only [List.getElem_toArray, List.getElem_cons_zero]); go_simp; try (with_reducible rfl))
      try simp only [Act.put, List.getElem_toArray, List.getElem_cons_zero, List.setIfInBounds_toArray, List.set_cons_zero, List.set_cons_succ]
      refine wpAnyH_take (i := 1) (oi := _) (v := ?_) rfl (by kernel_rfl) (by kernel_rfl) (by kernel_rfl) (fun _ _ _ h => h) (Or.inl ⟨by rfl, ?_⟩) (by assumption) ?_
      rotate_left
      · (intro w0 hSw; (try dsimp only at hSw); (try simp only [List.getElem_toArray, List.getElem_cons_zero, List.getElem_cons_succ]); go_simp; try (with_reducible rfl))
      try simp only [Act.put, List.getElem_toArray, List.getElem_cons_zero, List.getElem_cons_succ, List.setIfInBounds_toArray, List.set_cons_zero, List.set_cons_succ]
      refine wpAnyH_take (i := 2) (oi := _) (v := ?_) rfl (by kernel_rfl) (by kernel_rfl) (by kernel_rfl) (fun _ _ _ h => h) (Or.inl ⟨by rfl, ?_⟩) (by assumption) ?_
      rotate_left
      · (intro w0 hSw; (try dsimp only at hSw); (try simp only [List.getElem_toArray, List.getElem_cons_zero, List.getElem_cons_succ]); go_simp; try (with_reducible rfl))
      try simp only [Act.put, List.getElem_toArray, List.getElem_cons_zero, List.getElem_cons_succ, List.setIfInBounds_toArray, List.set_cons_zero, List.set_cons_succ]
      refine wpAnyH_take (i := 3) (oi := _) (v := ?_) rfl (by kernel_rfl) (by kernel_rfl) (by kernel_rfl) (fun _ _ _ h => h) (Or.inl ⟨by rfl, ?_⟩) (by assumption) ?_
      rotate_left
      · (intro w0 hSw; (try dsimp only at hSw); (try simp only [List.getElem_toArray, List.getElem_cons_zero, List.getElem_cons_succ]); go_simp; try (with_reducible rfl))
      try simp only [Act.put, List.getElem_toArray, List.getElem_cons_zero, List.getElem_cons_succ, List.setIfInBounds_toArray, List.set_cons_zero, List.set_cons_succ]
      refine wpAnyH_take (i := 4) (oi := _) (v := ?_) rfl (by kernel_rfl) (by kernel_rfl) (by kernel_rfl) (fun _ _ _ h => h) (Or.inl ⟨by rfl, ?_⟩) (by assumption) ?_
      rotate_left
      · (intro w0 hSw; (try dsimp only at hSw); (try simp only [List.getElem_toArray, List.getElem_cons_zero, List.getElem_cons_succ]); go_simp; try (with_reducible rfl))
      try simp only [Act.put, List.getElem_toArray, List.getElem_cons_zero, List.getElem_cons_succ, List.setIfInBounds_toArray, List.set_cons_zero, List.set_cons_succ]
      refine wpAnyH_take (i := 5) (oi := _) (v := ?_) rfl (by kernel_rfl) (by kernel_rfl) (by kernel_rfl) (fun _ _ _ h => h) (Or.inl ⟨by rfl, ?_⟩) (by assumption) ?_
      rotate_left
      · (intro w0 hSw; (try dsimp only at hSw); (try simp only [List.getElem_toArray, List.getElem_cons_zero, List.getElem_cons_succ]); go_simp; try (with_reducible rfl))
      try simp only [Act.put, List.getElem_toArray, List.getElem_cons_zero, List.getElem_cons_succ, List.setIfInBounds_toArray, List.set_cons_zero, List.set_cons_succ]
      refine wpAnyH_take (i := 6) (oi := _) (v := ?_) rfl (by kernel_rfl) (by kernel_rfl) (by kernel_rfl) (fun _ _ _ h => h) (Or.inl ⟨by rfl, ?_⟩) (by assumption) ?_
      rotate_left
      · (intro w0 hSw; (try dsimp only at hSw); (try simp only [List.getElem_toArray, List.getElem_cons_zero, List.getElem_cons_succ]); go_simp; try (with_reducible rfl))
      try simp only [Act.put, List.getElem_toArray, List.getElem_cons_zero, List.getElem_cons_succ, List.setIfInBounds_toArray, List.set_cons_zero, List.set_cons_succ]
      refine wpAnyH_ready (rs := [7]) (by kernel_rfl) (by simp) ?_
      refine AllReadyH.cons (o := _) rfl (fun K hK => ?_) AllReadyH.nil
      (try simp only [List.getElem_toArray, List.getElem_cons_zero, List.getElem_cons_succ])
      go_simp
      go_at_call 59
      refine (HL.out _ (Below.drew (Below.refl _ _))).mono ?_
      rintro e w2 ⟨rfl, hb2⟩
      replace hb2 : Below w1.heap.size w1 w2 := (Below.drew (Below.refl w1.heap.size w1)).trans hb2
      go_wp2_with fail
      refine hK.out _ _ (by first | assumption | exact K2.out _ (by assumption) | exact K2.out _ (Below.drew (Below.refl _ _)) | exact K2.out _ (Below.refl _ _)) (fun hHeld1 => ?_)
      clear hK K
      try simp only [Act.put, List.setIfInBounds_toArray, List.set_cons_zero, List.set_cons_succ]
      refine wpAnyH_ready (rs := [8]) (by kernel_rfl) (by simp) ?_
      refine AllReadyH.cons (o := _) rfl (fun K hK => ?_) AllReadyH.nil
      (try simp only [List.getElem_toArray, List.getElem_cons_zero, List.getElem_cons_succ])
      go_simp
      go_at_call 53
      refine (MU.out _ hb2).mono ?_
      rintro e w3 hc
      obtain ⟨p0, rfl, hp1, hp2, hp3⟩ : Thr w2 r (n : Int) e w3 := by
        rcases hc with ⟨hf, -⟩ | ⟨-, hc⟩
        · cases hf
        · exact hc
      unfold thrown
      go_wp2
      )
      have hTh : Thr w r (n : Int) (thrown p0) w3 := ⟨p0, rfl, hp1, by have := HG1.out.size; have := hb2.size; omega, grown_trans HG1.out (grown_trans (gbel hb2 _) hp3)⟩
      first | exact ⟨rfl, Or.inr ⟨HNO.out, hTh⟩⟩ | exact Or.inr ⟨HNO.out, hTh⟩
    · have HOK : Hid (OutB T n (2 * (h.1 + 1)) y) := ⟨HQ1.out, by have := HB.out; simpa using this⟩
      (
      refine wp_region_held_drew (S := (fun w' => w'.cell? ⟨lb, 0, none⟩ = some (.int .i64 y))) (by kernel_rfl) (by first | assumption | exact K2.out _ (by assumption) | exact K2.out _ (Below.drew (Below.refl _ _)) | exact K2.out _ (Below.refl _ _)) (fun hHeld => ?_)
      refine wpAnyH_take (i := 0) (oi := _) (v := ?_) rfl (by kernel_rfl) (by kernel_rfl) (by kernel_rfl) (fun _ _ _ h => h) (Or.inl ⟨by rfl, ?_⟩) (by assumption) ?_
      rotate_left
      · (intro w0 hSw; (try dsimp only at hSw); (try simp only [List.getElem_toArray, List.getElem_cons_zero]); go_simp; try (with_reducible rfl))
      try simp only [Act.put, List.getElem_toArray, List.getElem_cons_zero, List.setIfInBounds_toArray, List.set_cons_zero, List.set_cons_succ]
      refine wpAnyH_take (i := 1) (oi := _) (v := ?_) rfl (by kernel_rfl) (by kernel_rfl) (by kernel_rfl) (fun _ _ _ h => h) (Or.inl ⟨by rfl, ?_⟩) (by assumption) ?_
      rotate_left
      · (intro w0 hSw; (try dsimp only at hSw); (try simp only [List.getElem_toArray, List.getElem_cons_zero, List.getElem_cons_succ]); go_simp; try (with_reducible rfl))
      try simp only [Act.put, List.getElem_toArray, List.getElem_cons_zero, List.getElem_cons_succ, List.setIfInBounds_toArray, List.set_cons_zero, List.set_cons_succ]
      refine wpAnyH_take (i := 2) (oi := _) (v := ?_) rfl (by kernel_rfl) (by kernel_rfl) (by kernel_rfl) (fun _ _ _ h => h) (Or.inl ⟨by rfl, ?_⟩) (by assumption) ?_
      rotate_left
      · (intro w0 hSw; (try dsimp only at hSw); (try simp only [List.getElem_toArray, List.getElem_cons_zero, List.getElem_cons_succ]); go_simp; try (with_reducible rfl))
      try simp only [Act.put, List.getElem_toArray, List.getElem_cons_zero, List.getElem_cons_succ, List.setIfInBounds_toArray, List.set_cons_zero, List.set_cons_succ]
      refine wpAnyH_take (i := 3) (oi := _) (v := ?_) rfl (by kernel_rfl) (by kernel_rfl) (by kernel_rfl) (fun _ _ _ h => h) (Or.inl ⟨by rfl, ?_⟩) (by assumption) ?_
      rotate_left
      · (intro w0 hSw; (try dsimp only at hSw); (try simp only [List.getElem_toArray, List.getElem_cons_zero, List.getElem_cons_succ]); go_simp; try (with_reducible rfl))
      try simp only [Act.put, List.getElem_toArray, List.getElem_cons_zero, List.getElem_cons_succ, List.setIfInBounds_toArray, List.set_cons_zero, List.set_cons_succ]
      refine wpAnyH_take (i := 4) (oi := _) (v := ?_) rfl (by kernel_rfl) (by kernel_rfl) (by kernel_rfl) (fun _ _ _ h => h) (Or.inl ⟨by rfl, ?_⟩) (by assumption) ?_
      rotate_left
      · (intro w0 hSw; (try dsimp only at hSw); (try simp only [List.getElem_toArray, List.getElem_cons_zero, List.getElem_cons_succ]); go_simp; try (with_reducible rfl))
      try simp only [Act.put, List.getElem_toArray, List.getElem_cons_zero, List.getElem_cons_succ, List.setIfInBounds_toArray, List.set_cons_zero, List.set_cons_succ]
      refine wpAnyH_take (i := 5) (oi := _) (v := ?_) rfl (by kernel_rfl) (by kernel_rfl) (by kernel_rfl) (fun _ _ _ h => h) (Or.inl ⟨by rfl, ?_⟩) (by assumption) ?_
      rotate_left
      · (intro w0 hSw; (try dsimp only at hSw); (try simp only [List.getElem_toArray, List.getElem_cons_zero, List.getElem_cons_succ]); go_simp; try (with_reducible rfl))
      try simp only [Act.put, List.getElem_toArray, List.getElem_cons_zero, List.getElem_cons_succ, List.setIfInBounds_toArray, List.set_cons_zero, List.set_cons_succ]
      refine wpAnyH_take (i := 6) (oi := _) (v := ?_) rfl (by kernel_rfl) (by kernel_rfl) (by kernel_rfl) (fun _ _ _ h => h) (Or.inl ⟨by rfl, ?_⟩) (by assumption) ?_
      rotate_left
      · (intro w0 hSw; (try dsimp only at hSw); (try simp only [List.getElem_toArray, List.getElem_cons_zero, List.getElem_cons_succ]); go_simp; try (with_reducible rfl))
      try simp only [Act.put, List.getElem_toArray, List.getElem_cons_zero, List.getElem_cons_succ, List.setIfInBounds_toArray, List.set_cons_zero, List.set_cons_succ]
      refine wpAnyH_ready (rs := [7]) (by kernel_rfl) (by simp) ?_
      refine AllReadyH.cons (o := _) rfl (fun K hK => ?_) AllReadyH.nil
      (try simp only [List.getElem_toArray, List.getElem_cons_zero, List.getElem_cons_succ])
      go_simp
      go_at_call 59
      refine (HL.out _ (Below.drew (Below.refl _ _))).mono ?_
      rintro e w2 ⟨rfl, hb2⟩
      replace hb2 : Below w1.heap.size w1 w2 := (Below.drew (Below.refl w1.heap.size w1)).trans hb2
      go_wp2_with fail
      refine hK.out _ _ (by first | assumption | exact K2.out _ (by assumption) | exact K2.out _ (Below.drew (Below.refl _ _)) | exact K2.out _ (Below.refl _ _)) (fun hHeld1 => ?_)
      clear hK K
      try simp only [Act.put, List.setIfInBounds_toArray, List.set_cons_zero, List.set_cons_succ]
      refine wpAnyH_ready (rs := [8]) (by kernel_rfl) (by simp) ?_
      refine AllReadyH.cons (o := _) rfl (fun K hK => ?_) AllReadyH.nil
      (try simp only [List.getElem_toArray, List.getElem_cons_zero, List.getElem_cons_succ])
      go_simp
      go_at_call 53
      refine (MU.out _ hb2).mono ?_
      rintro e w3 hc
      obtain ⟨he3, hw3⟩ : e = .returned (.tuple #[]) ∧ w3 = w2 := by
        rcases hc with ⟨-, h1, h2⟩ | ⟨hf, -⟩
        · exact ⟨h1, h2⟩
        · cases hf
      subst he3
      subst hw3
      go_wp2_with fail
      refine hK.out _ _ (by first | assumption | exact K2.out _ (by assumption) | exact K2.out _ (Below.drew (Below.refl _ _)) | exact K2.out _ (Below.refl _ _)) (fun hHeld2 => ?_)
      clear hK K
      try simp only [Act.put, List.setIfInBounds_toArray, List.set_cons_zero, List.set_cons_succ]
      refine wpAnyH_done (by kernel_rfl) ?_ _
      )
      have cy3 := K2.out _ hb2
      have HT3 := hidden (HT1.out.to hb2)
      have HG3 : Hid (w.grownBy w3 (some r)) := grown_trans HG1.out (gbel hb2 _)
      clear cy hb2
      go_wp2
      go_ret
      exact Or.inl ⟨y, HOK.out, rfl, HT3.out, HG3.out⟩
  · have H1 := hidden hp1
    have H2' := hidden hp2
    have H3 := hidden hp3
    have HNO : Hid (¬ ∃ y, OutB T n (2 * (h.1 + 1)) y) := by
      rintro ⟨z, hz1, hz2⟩
      exact q1 _ hz1 ⟨by simp, by simp⟩
    clear hp1 hp2 hp3 N1 q1
    unfold thrown
    go_wp2
    have hTh : Thr w r (n : Int) (thrown p0) w1 := ⟨p0, rfl, H1.out, H2'.out, H3.out⟩
    first | exact ⟨rfl, Or.inr ⟨HNO.out, hTh⟩⟩ | exact Or.inr ⟨HNO.out, hTh⟩


end Go.Proofs.YtdiahnommkhkiaaDoor
