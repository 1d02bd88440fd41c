import Derived.Test.YtdiahnommkhkiaaDoorAqB
namespace Go.Proofs.YtdiahnommkhkiaaDoor
open Go.RowKit

/-- a gate's line -/
def AndLine (T : List UInt8) (n : Nat) (own : Int) (d : AndD) : Prop := nums T n = some [own, d.x, d.y] ∧ d.x < own ∧ d.y < own
set_option maxRecDepth 100000 in
set_option maxHeartbeats 2000000 in
theorem readGate_any (r : Nat) (T : List UInt8) (n i : Nat) (h : Int × Int × Int × Int × Int) (w : World) (x : TxAt w r T n h) (hv : Vars w) (hr2 : 2 ≤ r) (h1 : 0 ≤ h.2.1 ∧ h.2.1 ≤ 60000) (h2 : 0 ≤ h.2.2.1 ∧ h.2.2.1 ≤ 60000) (hi : i ≤ 60000) :
    Calls Tryd.prog 43 #[.pointer (some ⟨r, 0, none⟩), .int .i64 i] w fun e w' =>
      (∃ d, AndLine T n (2 * (1 + h.2.1 + h.2.2.1 + i)) d ∧ e = .returned (.agg #[.int .i64 d.x, .int .i64 d.y]) ∧ TxAt w' r T (n + 1) h ∧ w.grownBy w' (some r)) ∨ ((¬ ∃ d, AndLine T n (2 * (1 + h.2.1 + h.2.2.1 + i)) d) ∧ Thr w r ((n + 1 : Nat) : Int) e w') := by
  have hlt : r < w.heap.size := by obtain ⟨⟨bg, q⟩, _⟩ := x; exact q.lt
  have HX := hidden x
  have HV := hidden hv
  have HLN : Hid (T.length ≤ 1048576) := x.len
  clear x hv
  go_enter Tryd.func43, Tryd.ntmps43
  go_upto_region 1 with fail
  generalize hW : World.alloc w _ = W
  obtain ⟨rb, hrb⟩ : ∃ x, x = w.heap.size := ⟨_, rfl⟩
  have HBW : Hid (Below w.heap.size w W) := by rw [← hW]; exact (Below.refl _ _).alloc (Nat.le_refl _) _
  have HRB : Hid (W.heap[rb]? = some (.cells #[.int .i64 0, .int .i64 0] 48 (0, 0))) := by rw [← hW, hrb]; exact heap_new _ _
  have hrl : rb < W.heap.size := by rw [← hW, hrb]; simp
  have hrr : r ≠ rb := by omega
  have hrw : w.heap.size ≤ rb := by omega
  rw [← hrb]
  clear hW hrb
  have HXW := hidden (HX.out.to HBW.out)
  have GA : Hid (Calls Tryd.prog 60 #[.pointer (some ⟨r, 1, none⟩), .int .i64 i] W fun e w' => e = .returned (.int .i64 (2 * (1 + h.2.1 + h.2.2.1 + i))) ∧ ∃ q, w' = W.drewN q) := by
    obtain ⟨⟨bg, q⟩, _⟩ := HXW.out
    exact gate_any r 1 h i W q.head h1 h2 hi
  generalize hown : 2 * (1 + h.2.1 + h.2.2.1 + (i : Int)) = own at *
  have HOWN := hidden hown
  clear hown
  go_wp2_with fail
  go_at_call 60
  refine GA.out.mono ?_
  rintro e V ⟨rfl, q, hq⟩
  have HBV : Hid (Below W.heap.size W V) := by rw [hq]; exact Below.drewN (Below.refl _ _) _
  have HBwV : Hid (Below w.heap.size w V) := HBW.out.trans (HBV.out.mono HBW.out.size)
  have HXV := hidden (HXW.out.to HBV.out)
  have HRV : Hid (V.heap[rb]? = some (.cells #[.int .i64 0, .int .i64 0] 48 (0, 0))) := (HBV.out.block rb hrl).trans HRB.out
  have hrlV : rb < V.heap.size := Nat.lt_of_lt_of_le hrl HBV.out.size
  have c0 : V.cell? ⟨r, 0, none⟩ = some (.int .i64 0) := by obtain ⟨⟨bg, q⟩, _⟩ := HXV.out; exact q.cell 0
  have N1 := hidden (numberLine_nums r T n 3 3 h V HXV.out (HV.out.to HBwV.out (by omega)) (by decide) hr2)
  clear hq GA
  go_wp2_with fail
  go_at_call 57
  refine N1.out.mono ?_
  rintro e w1 (⟨xs, q1, q2, q3, v, rfl, q4, q5, q6, q7⟩ | ⟨q1, p0, rfl, hp1, hp2, hp3⟩)
  · obtain ⟨o0, y, z, rfl⟩ : ∃ o0 y z, xs = [o0, y, z] := by
      match xs, q2, q3 with
      | [o0, y, z], _, _ => exact ⟨o0, y, z, rfl⟩
    obtain ⟨lb, lc, rfl, hlb, hlb2, hlc, hel⟩ := row_els q4 (by simp)
    have d0 := hel 0 o0 rfl
    have d1 := hel 1 y rfl
    have d2 := hel 2 z rfl
    have hlr : lb ≠ rb := by omega
    have HQ1 := hidden q1
    have HQ5 := hidden q5
    have HG1 : Hid (w.grownBy w1 (some r)) := grown_trans (gbel HBwV.out _) q7
    have HT1 : Hid (TxAt w1 r T (n + 1) h) := ⟨⟨_, q5⟩, q6, HLN.out⟩
    have HR1 : Hid (w1.heap[rb]? = some (.cells #[.int .i64 0, .int .i64 0] 48 (0, 0))) := (q7.block rb hrlV (fun e => hrr (Option.some.inj e).symm)).trans HRV.out
    have r0 : w1.cell? ⟨rb, 0, none⟩ = some (.int .i64 0) := heap_cell HR1.out
    have r1 : w1.cell? ⟨rb, 1, none⟩ = some (.int .i64 0) := heap_cell HR1.out
    have f0 : w1.frozen? ⟨rb, 0, none⟩ = false := heap_fz HR1.out _
    have f1 : w1.frozen? ⟨rb, 1, none⟩ = false := heap_fz HR1.out _
    have MB : Hid (∀ b, Calls Tryd.prog 53 #[.pointer (some ⟨r, 0, none⟩), .bool b] w1 fun e w'' => (b = true ∧ e = .returned (.tuple #[]) ∧ w'' = w1) ∨ (b = false ∧ Thr w1 r ((n + 1 : Nat) : Int) e w'')) := fun b => must_any r _ b w1 HQ5.out
    simp only [List.length_cons, List.length_nil, Nat.zero_add, Nat.reduceAdd]
    clear q1 q2 q3 q4 q5 q6 q7 hel N1 c0
    have NOT : Hid (¬ (o0 = own ∧ y < own ∧ z < own) → ¬ ∃ d, AndLine T n (2 * (1 + h.2.1 + h.2.2.1 + i)) d) := fun hh => by
      rw [HOWN.out]
      rintro ⟨d, hd1, hd2, hd3⟩
      rw [HQ1.out] at hd1
      simp at hd1
      exact hh ⟨hd1.1, by rw [hd1.2.1]; exact hd2, by rw [hd1.2.2]; exact hd3⟩
    have PAN : ∀ (HH : ¬ (o0 = own ∧ y < own ∧ z < own)), Hid (∀ e w7, ((false = true ∧ e = Ending.returned (.tuple #[]) ∧ w7 = w1) ∨ (false = false ∧ Thr w1 r ((n + 1 : Nat) : Int) e w7)) → ∃ p0, e = thrown p0 ∧ Thr w r ((n + 1 : Nat) : Int) (thrown p0) w7 ∧ ¬ ∃ d, AndLine T n (2 * (1 + h.2.1 + h.2.2.1 + i)) d) := fun HH e w7 hc => by
      rcases hc with ⟨hf, -⟩ | ⟨-, p0, he, hp1, hp2, hp3⟩
      · cases hf
      · exact ⟨p0, he, ⟨p0, rfl, hp1, by have := HG1.out.size; omega, grown_trans HG1.out hp3⟩, NOT.out HH⟩
    by_cases ho : o0 = own
    · have hob : (o0 == own) = true := by simp [ho]
      by_cases hy : y < own
      · by_cases hz : z < own
        · have M := hidden (MB.out true)
          have HOK : Hid (AndLine T n (2 * (1 + h.2.1 + h.2.2.1 + i)) ⟨y, z⟩) := by rw [HOWN.out]; exact ⟨by rw [HQ1.out, ho], hy, hz⟩
          subst ho
          clear PAN NOT MB
          go_wp2_with fail
          go_at_call 53
          refine M.out.mono ?_
          rintro e x5 hc
          obtain ⟨he3, hw3⟩ : e = .returned (.tuple #[]) ∧ x5 = w1 := by
            rcases hc with ⟨-, h1, h2⟩ | ⟨hf, -⟩
            · exact ⟨h1, h2⟩
            · cases hf
          subst he3
          subst hw3
          clear hc M
          have KS : Hid (((x5.drew.setCell ⟨rb, 0, none⟩ (.int .i64 y)).setCell ⟨rb, 1, none⟩ (.int .i64 z)).cell? ⟨lb, 1, none⟩ = some (.int .i64 y) ∧ ((x5.drew.setCell ⟨rb, 0, none⟩ (.int .i64 y)).setCell ⟨rb, 1, none⟩ (.int .i64 z)).cell? ⟨lb, 2, none⟩ = some (.int .i64 z)) := by
            have hg : x5.grownBy ((x5.drew.setCell ⟨rb, 0, none⟩ (.int .i64 y)).setCell ⟨rb, 1, none⟩ (.int .i64 z)) (some rb) := grown_trans (gbel (Below.drew (Below.refl _ _)) _) (grown_trans (gset _ _ _ _) (gset _ _ _ _))
            exact ⟨(gcell hg hlb2 hlr).trans d1, (gcell hg hlb2 hlr).trans d2⟩
          have s0 : x5.drew.cell? ⟨rb, 0, none⟩ = some (.int .i64 0) := r0
          have s1 : x5.drew.cell? ⟨rb, 1, none⟩ = some (.int .i64 0) := r1
          have g0 : x5.drew.frozen? ⟨rb, 0, none⟩ = false := f0
          have g1 : x5.drew.frozen? ⟨rb, 1, none⟩ = false := f1
          have g2 : (x5.drew.setCell ⟨rb, 0, none⟩ (.int .i64 y)).frozen? ⟨rb, 1, none⟩ = false := heap_fz (set_self (w := x5.drew) (o := 0) (u := .int .i64 y) HR1.out) _
          have s2 : (x5.drew.setCell ⟨rb, 0, none⟩ (.int .i64 y)).cell? ⟨rb, 1, none⟩ = some (.int .i64 0) := heap_cell (set_self (w := x5.drew) (o := 0) (u := .int .i64 y) HR1.out)
          go_wp2_with fail
          (
          refine wp_region_held_drew (S := (fun w' => w'.cell? ⟨lb, 1, none⟩ = some (.int .i64 y) ∧ w'.cell? ⟨lb, 2, none⟩ = some (.int .i64 z))) (by kernel_rfl) (by first | assumption | exact ⟨d1, d2⟩ | exact KS.out) (fun hHeld => ?_)
          refine wpAnyH_take (i := 0) (oi := _) (v := ?_) rfl (by kernel_rfl) (by kernel_rfl) (by kernel_rfl) (fun _ _ _ h => h) (Or.inl ⟨by rfl, ?_⟩) (by assumption) ?_
          rotate_left
          · (intro w0 hSw; (try dsimp only at hSw); (try simp only [List.getElem_toArray, List.getElem_cons_zero]); go_simp; try (with_reducible rfl))
          try simp only [Act.put, List.getElem_toArray, List.getElem_cons_zero, List.setIfInBounds_toArray, List.set_cons_zero, List.set_cons_succ]
          refine wpAnyH_take (i := 1) (oi := _) (v := ?_) rfl (by kernel_rfl) (by kernel_rfl) (by kernel_rfl) (fun _ _ _ h => h) (Or.inl ⟨by rfl, ?_⟩) (by assumption) ?_
          rotate_left
          · (intro w0 hSw; (try dsimp only at hSw); (try simp only [List.getElem_toArray, List.getElem_cons_zero, List.getElem_cons_succ]); go_simp; try (with_reducible rfl))
          try simp only [Act.put, List.getElem_toArray, List.getElem_cons_zero, List.getElem_cons_succ, List.setIfInBounds_toArray, List.set_cons_zero, List.set_cons_succ]
          refine wpAnyH_take (i := 2) (oi := _) (v := ?_) rfl (by kernel_rfl) (by kernel_rfl) (by kernel_rfl) (fun _ _ _ h => h) (Or.inl ⟨by rfl, ?_⟩) (by assumption) ?_
          rotate_left
          · (intro w0 hSw; (try dsimp only at hSw); (try simp only [List.getElem_toArray, List.getElem_cons_zero, List.getElem_cons_succ]); go_simp; try (with_reducible rfl))
          try simp only [Act.put, List.getElem_toArray, List.getElem_cons_zero, List.getElem_cons_succ, List.setIfInBounds_toArray, List.set_cons_zero, List.set_cons_succ]
          refine wpAnyH_take (i := 3) (oi := _) (v := ?_) rfl (by kernel_rfl) (by kernel_rfl) (by kernel_rfl) (fun _ _ _ h => h) (Or.inl ⟨by rfl, ?_⟩) (by assumption) ?_
          rotate_left
          · (intro w0 hSw; (try dsimp only at hSw); (try simp only [List.getElem_toArray, List.getElem_cons_zero, List.getElem_cons_succ]); go_simp; try (with_reducible rfl))
          try simp only [Act.put, List.getElem_toArray, List.getElem_cons_zero, List.getElem_cons_succ, List.setIfInBounds_toArray, List.set_cons_zero, List.set_cons_succ]
          refine wpAnyH_take (i := 4) (oi := _) (v := ?_) rfl (by kernel_rfl) (by kernel_rfl) (by kernel_rfl) (fun _ _ _ h => h) (Or.inl ⟨by rfl, ?_⟩) (by assumption) ?_
          rotate_left
          · (intro w0 hSw; (try dsimp only at hSw); (try simp only [List.getElem_toArray, List.getElem_cons_zero, List.getElem_cons_succ]); go_simp; try (with_reducible rfl))
          try simp only [Act.put, List.getElem_toArray, List.getElem_cons_zero, List.getElem_cons_succ, List.setIfInBounds_toArray, List.set_cons_zero, List.set_cons_succ]
          refine wpAnyH_take (i := 5) (oi := _) (v := ?_) rfl (by kernel_rfl) (by kernel_rfl) (by kernel_rfl) (fun _ _ _ h => h) (Or.inl ⟨by rfl, ?_⟩) (by assumption) ?_
          rotate_left
          · (intro w0 hSw; (try dsimp only at hSw); (try simp only [List.getElem_toArray, List.getElem_cons_zero, List.getElem_cons_succ]); go_simp; try (with_reducible rfl))
          try simp only [Act.put, List.getElem_toArray, List.getElem_cons_zero, List.getElem_cons_succ, List.setIfInBounds_toArray, List.set_cons_zero, List.set_cons_succ]
          refine wpAnyH_take (i := 6) (oi := _) (v := ?_) rfl (by kernel_rfl) (by kernel_rfl) (by kernel_rfl) (fun _ _ _ h => h) (Or.inl ⟨by rfl, ?_⟩) (by assumption) ?_
          rotate_left
          · (intro w0 hSw; (try dsimp only at hSw); (try simp only [List.getElem_toArray, List.getElem_cons_zero, List.getElem_cons_succ]); go_simp; try (with_reducible rfl))
          try simp only [Act.put, List.getElem_toArray, List.getElem_cons_zero, List.getElem_cons_succ, List.setIfInBounds_toArray, List.set_cons_zero, List.set_cons_succ]
          refine wpAnyH_ready (rs := [7]) (by kernel_rfl) (by simp) ?_
          refine AllReadyH.cons (o := _) rfl (fun K hK => ?_) AllReadyH.nil
          (try simp only [List.getElem_toArray, List.getElem_cons_zero, List.getElem_cons_succ])
          go_simp
          skip
          go_wp2_with fail
          refine hK.out _ _ (by first | assumption | exact ⟨d1, d2⟩ | exact KS.out) (fun hHeld1 => ?_)
          clear hK K
          try simp only [Act.put, List.setIfInBounds_toArray, List.set_cons_zero, List.set_cons_succ]
          refine wpAnyH_done (by kernel_rfl) ?_ _
          )
          obtain ⟨w6, hw6⟩ : ∃ x, x = ((x5.setCell ⟨rb, 0, none⟩ (.int .i64 y)).setCell ⟨rb, 1, none⟩ (.int .i64 z)).drew := ⟨_, rfl⟩
          have HS6 : Hid (w6.heap[rb]? = some (.cells #[.int .i64 y, .int .i64 z] 48 (0, 0))) := by rw [hw6]; exact set2 HR1.out _ _
          have HG6 : Hid (x5.grownBy w6 (some rb)) := by rw [hw6]; exact grown_trans (grown_trans (gset _ _ _ _) (gset _ _ _ _)) (gbel (Below.drew (Below.refl _ _)) _)
          rw [← hw6]
          have z0 : w6.cell? ⟨rb, 0, none⟩ = some (.int .i64 y) := heap_cell HS6.out
          have z1 : w6.cell? ⟨rb, 1, none⟩ = some (.int .i64 z) := heap_cell HS6.out
          clear r0 r1 f0 f1 hw6 s0 s1 g0 g1 g2 s2 KS
          try clear hHeld
          try clear hHeld1
          go_wp2_with fail
          refine bodyPost_ret (v := .agg #[.int .i64 y, .int .i64 z]) (by simp [results, Tryd.results43, go_sem, *]) rfl ?_
          exact Or.inl ⟨⟨y, z⟩, HOK.out, rfl, HT1.out.grown HG6.out hrr, grown_far HG1.out HG6.out hrw⟩
        ·
          have M := hidden (MB.out false)
          have HP := PAN (fun hh => hz hh.2.2)
          clear PAN NOT MB
          go_wp2_with fail
          go_at_call 53
          refine M.out.mono ?_
          rintro e x5 hc
          obtain ⟨p0, rfl, hTh, hNo⟩ := HP.out e x5 hc
          unfold thrown
          go_wp2
          first | exact ⟨rfl, Or.inr ⟨hNo, hTh⟩⟩ | exact Or.inr ⟨hNo, hTh⟩
      ·
        have M := hidden (MB.out false)
        have HP := PAN (fun hh => hy hh.2.1)
        clear PAN NOT MB
        go_wp2_with fail
        go_at_call 53
        refine M.out.mono ?_
        rintro e x5 hc
        obtain ⟨p0, rfl, hTh, hNo⟩ := HP.out e x5 hc
        unfold thrown
        go_wp2
        first | exact ⟨rfl, Or.inr ⟨hNo, hTh⟩⟩ | exact Or.inr ⟨hNo, hTh⟩
    · have hob : (o0 == own) = false := by simp [ho]
      have M := hidden (MB.out false)
      have HP := PAN (fun hh => ho hh.1)
      clear PAN NOT MB
      go_wp2_with fail
      go_at_call 53
      refine M.out.mono ?_
      rintro e x5 hc
      obtain ⟨p0, rfl, hTh, hNo⟩ := HP.out e x5 hc
      unfold thrown
      go_wp2
      first | exact ⟨rfl, Or.inr ⟨hNo, hTh⟩⟩ | exact Or.inr ⟨hNo, hTh⟩
  · have H1 := hidden hp1
    have H2' := hidden hp2
    have H3 := hidden hp3
    have HNO : Hid (¬ ∃ d, AndLine T n (2 * (1 + h.2.1 + h.2.2.1 + i)) d) := by
      rw [HOWN.out]
      rintro ⟨d, hz, _⟩
      exact q1 _ hz ⟨by simp, by simp⟩
    clear hp1 hp2 hp3 N1 q1 c0
    unfold thrown
    go_wp2
    have hTh : Thr w r ((n + 1 : Nat) : Int) (thrown p0) w1 := ⟨p0, rfl, H1.out, Nat.le_trans HBwV.out.size H2'.out, grown_trans (gbel HBwV.out _) H3.out⟩
    first | exact ⟨rfl, Or.inr ⟨HNO.out, hTh⟩⟩ | exact Or.inr ⟨HNO.out, hTh⟩

end Go.Proofs.YtdiahnommkhkiaaDoor
