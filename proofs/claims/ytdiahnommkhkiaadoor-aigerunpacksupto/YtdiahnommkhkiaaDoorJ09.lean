import Derived.Test.YtdiahnommkhkiaaDoorJ08
namespace Go.Proofs.YtdiahnommkhkiaaDoor
open Go.RowKit

theorem cut_any (l : List UInt8) (c : UInt8) (hl : l.length ≤ 2000000) (w : World) (hv : Vars w) :
    Calls Tryd.prog 51 #[.string (bs l), .string ⟨#[c]⟩] w fun e w' => e = .returned (.tuple #[.string (bs (Lib.cut l [c]).1), .string (bs (Lib.cut l [c]).2.1), .bool (Lib.cut l [c]).2.2]) ∧ Below w.heap.size w w' := by
  obtain ⟨m, hm⟩ := hv.ml
  refine (Tryd.strings_Cut (bs l) ⟨#[c]⟩ m w (by rw [bs_size]; omega) hm).mono ?_
  rintro e w' ⟨rfl, q, rfl⟩
  refine ⟨?_, Below.drewN (Below.refl _ _) _⟩
  have e1 : (bs l).data.toList = l := by simp [bs]
  rw [e1]; rfl
theorem bs_drop (l : List UInt8) (k : Nat) : (bs l).extract k (bs l).size = bs (l.drop k) := by
  apply ByteArray.ext
  rw [ByteArray.data_extract]
  apply Array.toList_inj.1
  simp only [bs, Array.toList_extract, List.extract_eq_take_drop, ByteArray.size]
  simp [List.take_of_length_le]
set_option maxRecDepth 100000 in
set_option maxHeartbeats 4000000 in
theorem line_any (r : Nat) (R : RdS) (k n : Nat) (w : World) (h : RdAt w r R) (hv : Vars w) (hfr : R.fr = (k : Int)) (hln : R.ln = (n : Int)) (hk : k ≤ R.T.length) (hn : n ≤ R.T.length) (hT : R.T.length ≤ 1048577) :
    Calls Tryd.prog 52 #[.pointer (some ⟨r, 0, none⟩)] w fun e w' =>
      (∃ a b, 10 ∉ a ∧ R.T.drop k = a ++ 10 :: b ∧ e = .returned (.string (bs a)) ∧ RdAt w' r { R with fr := ((k + a.length + 1 : Nat) : Int), ln := ((n + 1 : Nat) : Int) } ∧ w.grownBy w' (some r)) ∨ (10 ∉ R.T.drop k ∧ Thr w r R.bg e w') := by
  have HR := hidden h
  have c6 := h.cell 6
  have c7 := h.cell 7
  simp [RdS.cells] at c6 c7
  rw [hfr] at c7
  have hlt := h.lt
  have CUT0 : Hid (∀ w', Below w.heap.size w w' → Calls Tryd.prog 51 #[.string (bs (R.T.drop k)), .string ⟨#[10]⟩] w' fun e w'' => e = .returned (.tuple #[.string (bs (Lib.cut (R.T.drop k) [10]).1), .string (bs (Lib.cut (R.T.drop k) [10]).2.1), .bool (Lib.cut (R.T.drop k) [10]).2.2]) ∧ Below w'.heap.size w' w'') := fun w' hw' => by
    obtain ⟨m, hm⟩ := hv.ml
    have hv' : Vars w' := ⟨(hw'.cell (p := ⟨0, 0, none⟩) (World.block_lt_of_cell? w _ hv.et)).trans hv.et, m, (hw'.cell (p := ⟨1, 0, none⟩) (World.block_lt_of_cell? w _ hm)).trans hm⟩
    exact cut_any (R.T.drop k) 10 (by simp; omega) w' hv'
  have hex := bs_drop R.T k
  have hsz := bs_size R.T
  obtain ⟨t1, HT1⟩ : ∃ x, Hid ((Lib.cut (R.T.drop k) [10]).1 = x) := ⟨_, rfl⟩
  obtain ⟨t2, HT2⟩ : ∃ x, Hid ((Lib.cut (R.T.drop k) [10]).2.1 = x) := ⟨_, rfl⟩
  obtain ⟨b, HT3⟩ : ∃ x, Hid ((Lib.cut (R.T.drop k) [10]).2.2 = x) := ⟨_, rfl⟩
  rw [HT1.out, HT2.out, HT3.out] at CUT0
  have HCASE : Hid ((b = true ∧ 10 ∉ t1 ∧ R.T.drop k = t1 ++ 10 :: t2) ∨ (b = false ∧ 10 ∉ R.T.drop k)) := by
    show _ ∨ _
    rcases first_or 10 (R.T.drop k) with hf | ⟨x, y, hx, he⟩
    · right
      rw [cut_free 10 _ hf] at HT3
      exact ⟨HT3.out.symm, hf⟩
    · left
      rw [he, cut_cut 10 x y hx] at HT1 HT2 HT3
      have e1 : x = t1 := HT1.out
      have e2 : y = t2 := HT2.out
      subst e1; subst e2
      exact ⟨HT3.out.symm, hx, he⟩
  have K2 : Hid (∀ w', Below w.heap.size w w' → w'.cell? ⟨r, 6, none⟩ = some (.string (bs R.T)) ∧ w'.cell? ⟨r, 7, none⟩ = some (.int .i64 k)) := fun w' hb => ⟨(hb.cell (p := ⟨r, 6, none⟩) hlt).trans c6, (hb.cell (p := ⟨r, 7, none⟩) hlt).trans c7⟩
  have hks : (k : Int) ≤ ((bs R.T).size : Int) := by omega
  have hsl : (bs R.T).size ≤ 1048577 := by omega
  generalize bs R.T = s at *
  rw [hsz] at hex
  have CUT : Hid (∀ w', Below w.heap.size w w' → Calls Tryd.prog 51 #[.string (bs (R.T.drop k)), .string ⟨#[10]⟩] w' fun e w'' => e = .returned (.tuple #[.string (bs t1), .string (bs t2), .bool b]) ∧ Below w'.heap.size w' w'') := CUT0.out
  generalize hdd : R.T.drop k = dr at *
  have HDD := hidden hdd
  generalize htl : R.T.length = tl at *
  have HTL := hidden htl
  clear hdd htl
  obtain ⟨bdr, hbd⟩ : ∃ x, x = bs dr := ⟨_, rfl⟩
  rw [← hbd] at hex CUT
  clear hbd
  clear CUT0 HT1 HT2 HT3 hv h
  go_enter Tryd.func52, Tryd.ntmps52
  go_upto_region 1 with fail
  (
  refine wp_region_noPanic ?_
  refine wp_region_held_drew (S := (fun w' => w'.cell? ⟨r, 6, none⟩ = some (.string s) ∧ w'.cell? ⟨r, 7, none⟩ = some (.int .i64 k))) (by kernel_rfl) (by first | assumption | exact ⟨c6, c7⟩ | exact K2.out _ (by assumption) | exact K2.out _ (Below.drew (Below.refl _ _))) (fun hHeld => ?_)
  refine wpAnyH_take (i := 0) (oi := _) (v := ?_) rfl (by kernel_rfl) (by kernel_rfl) (by kernel_rfl) (fun _ _ _ h => h) (Or.inl ⟨by rfl, ?_⟩) (by assumption) ?_
  rotate_left
  · (intro w0 hSw; (try dsimp only at hSw); (try simp only [List.getElem_toArray, List.getElem_cons_zero]); go_simp; try (with_reducible rfl))
  try simp only [Act.put, List.getElem_toArray, List.getElem_cons_zero, List.setIfInBounds_toArray, List.set_cons_zero, List.set_cons_succ]
  refine wpAnyH_take (i := 1) (oi := _) (v := ?_) rfl (by kernel_rfl) (by kernel_rfl) (by kernel_rfl) (fun _ _ _ h => h) (Or.inl ⟨by rfl, ?_⟩) (by assumption) ?_
  rotate_left
  · (intro w0 hSw; (try dsimp only at hSw); (try simp only [List.getElem_toArray, List.getElem_cons_zero, List.getElem_cons_succ]); go_simp; try (with_reducible rfl))
  try simp only [Act.put, List.getElem_toArray, List.getElem_cons_zero, List.getElem_cons_succ, List.setIfInBounds_toArray, List.set_cons_zero, List.set_cons_succ]
  refine wpAnyH_take (i := 2) (oi := _) (v := ?_) rfl (by kernel_rfl) (by kernel_rfl) (by kernel_rfl) (fun _ _ _ h => h) (Or.inl ⟨by rfl, ?_⟩) (by assumption) ?_
  rotate_left
  · (intro w0 hSw; (try dsimp only at hSw); (try simp only [List.getElem_toArray, List.getElem_cons_zero, List.getElem_cons_succ]); go_simp; try (with_reducible rfl))
  try simp only [Act.put, List.getElem_toArray, List.getElem_cons_zero, List.getElem_cons_succ, List.setIfInBounds_toArray, List.set_cons_zero, List.set_cons_succ]
  refine wpAnyH_take (i := 3) (oi := _) (v := ?_) rfl (by kernel_rfl) (by kernel_rfl) (by kernel_rfl) (fun _ _ _ h => h) (Or.inl ⟨by rfl, ?_⟩) (by assumption) ?_
  rotate_left
  · (intro w0 hSw; (try dsimp only at hSw); (try simp only [List.getElem_toArray, List.getElem_cons_zero, List.getElem_cons_succ]); go_simp; try (with_reducible rfl))
  try simp only [Act.put, List.getElem_toArray, List.getElem_cons_zero, List.getElem_cons_succ, List.setIfInBounds_toArray, List.set_cons_zero, List.set_cons_succ]
  refine wpAnyH_take (i := 4) (oi := _) (v := ?_) rfl (by kernel_rfl) (by kernel_rfl) (by kernel_rfl) (fun _ _ _ h => h) (Or.inl ⟨by rfl, ?_⟩) (by assumption) ?_
  rotate_left
  · (intro w0 hSw; (try dsimp only at hSw); (try simp only [List.getElem_toArray, List.getElem_cons_zero, List.getElem_cons_succ]); go_simp; try (with_reducible rfl))
  try simp only [Act.put, List.getElem_toArray, List.getElem_cons_zero, List.getElem_cons_succ, List.setIfInBounds_toArray, List.set_cons_zero, List.set_cons_succ]
  refine wpAnyH_take (i := 5) (oi := _) (v := ?_) rfl (by kernel_rfl) (by kernel_rfl) (by kernel_rfl) (fun _ _ _ h => h) (Or.inl ⟨by rfl, ?_⟩) (by assumption) ?_
  rotate_left
  · (intro w0 hSw; (try dsimp only at hSw); (try simp only [List.getElem_toArray, List.getElem_cons_zero, List.getElem_cons_succ]); go_simp; try (with_reducible rfl))
  try simp only [Act.put, List.getElem_toArray, List.getElem_cons_zero, List.getElem_cons_succ, List.setIfInBounds_toArray, List.set_cons_zero, List.set_cons_succ]
  refine wpAnyH_take (i := 6) (oi := _) (v := ?_) rfl (by kernel_rfl) (by kernel_rfl) (by kernel_rfl) (fun _ _ _ h => h) (Or.inl ⟨by rfl, ?_⟩) (by assumption) ?_
  rotate_left
  · (intro w0 hSw; (try dsimp only at hSw); (try simp only [List.getElem_toArray, List.getElem_cons_zero, List.getElem_cons_succ]); go_simp; try (with_reducible rfl))
  try simp only [Act.put, List.getElem_toArray, List.getElem_cons_zero, List.getElem_cons_succ, List.setIfInBounds_toArray, List.set_cons_zero, List.set_cons_succ]
  refine wpAnyH_take (i := 7) (oi := _) (v := ?_) rfl (by kernel_rfl) (by kernel_rfl) (by kernel_rfl) (fun _ _ _ h => h) (Or.inl ⟨by rfl, ?_⟩) (by assumption) ?_
  rotate_left
  · (intro w0 hSw; (try dsimp only at hSw); (try simp only [List.getElem_toArray, List.getElem_cons_zero, List.getElem_cons_succ]); go_simp; try (with_reducible rfl))
  try simp only [Act.put, List.getElem_toArray, List.getElem_cons_zero, List.getElem_cons_succ, List.setIfInBounds_toArray, List.set_cons_zero, List.set_cons_succ]
  refine wpAnyH_take (i := 8) (oi := _) (v := ?_) rfl (by kernel_rfl) (by kernel_rfl) (by kernel_rfl) (fun _ _ _ h => h) (Or.inl ⟨by rfl, ?_⟩) (by assumption) ?_
  rotate_left
  · (intro w0 hSw; (try dsimp only at hSw); (try simp only [List.getElem_toArray, List.getElem_cons_zero, List.getElem_cons_succ]); go_simp; try (with_reducible rfl))
  try simp only [Act.put, List.getElem_toArray, List.getElem_cons_zero, List.getElem_cons_succ, List.setIfInBounds_toArray, List.set_cons_zero, List.set_cons_succ]
  refine wpAnyH_ready (rs := [9]) (by kernel_rfl) (by simp) ?_
  refine AllReadyH.cons (o := _) rfl (fun K hK => ?_) AllReadyH.nil
  (try simp only [List.getElem_toArray, List.getElem_cons_zero, List.getElem_cons_succ])
  go_simp
  skip
  go_at_call 51
  refine (CUT.out _ (Below.drew (Below.refl _ _))).mono ?_
  rintro e x1 ⟨rfl, hb1⟩
  replace hb1 : Below w.heap.size w x1 := (Below.drew (Below.refl w.heap.size w)).trans hb1
  go_wp2_with fail
  refine hK.out _ _ (by first | assumption | exact ⟨c6, c7⟩ | exact K2.out _ (by assumption) | exact K2.out _ (Below.drew (Below.refl _ _))) (fun hHeld1 => ?_)
  clear hK K
  try simp only [Act.put, List.setIfInBounds_toArray, List.set_cons_zero, List.set_cons_succ]
  refine wpAnyH_take (i := 10) (oi := _) (v := ?_) rfl (by kernel_rfl) (by kernel_rfl) (by kernel_rfl) (fun _ _ _ h => h) (Or.inl ⟨by rfl, ?_⟩) (by assumption) ?_
  rotate_left
  · (intro w0 hSw; (try dsimp only at hSw); (try simp only [List.getElem_toArray, List.getElem_cons_zero, List.getElem_cons_succ]); go_simp; try (with_reducible rfl))
  try simp only [Act.put, List.getElem_toArray, List.getElem_cons_zero, List.getElem_cons_succ, List.setIfInBounds_toArray, List.set_cons_zero, List.set_cons_succ]
  refine wpAnyH_take (i := 11) (oi := _) (v := ?_) rfl (by kernel_rfl) (by kernel_rfl) (by kernel_rfl) (fun _ _ _ h => h) (Or.inl ⟨by rfl, ?_⟩) (by assumption) ?_
  rotate_left
  · (intro w0 hSw; (try dsimp only at hSw); (try simp only [List.getElem_toArray, List.getElem_cons_zero, List.getElem_cons_succ]); go_simp; try (with_reducible rfl))
  try simp only [Act.put, List.getElem_toArray, List.getElem_cons_zero, List.getElem_cons_succ, List.setIfInBounds_toArray, List.set_cons_zero, List.set_cons_succ]
  refine wpAnyH_take (i := 12) (oi := _) (v := ?_) rfl (by kernel_rfl) (by kernel_rfl) (by kernel_rfl) (fun _ _ _ h => h) (Or.inl ⟨by rfl, ?_⟩) (by assumption) ?_
  rotate_left
  · (intro w0 hSw; (try dsimp only at hSw); (try simp only [List.getElem_toArray, List.getElem_cons_zero, List.getElem_cons_succ]); go_simp; try (with_reducible rfl))
  try simp only [Act.put, List.getElem_toArray, List.getElem_cons_zero, List.getElem_cons_succ, List.setIfInBounds_toArray, List.set_cons_zero, List.set_cons_succ]
  refine wpAnyH_take (i := 13) (oi := _) (v := ?_) rfl (by kernel_rfl) (by kernel_rfl) (by kernel_rfl) (fun _ _ _ h => h) (Or.inl ⟨by rfl, ?_⟩) (by assumption) ?_
  rotate_left
  · (intro w0 hSw; (try dsimp only at hSw); (try simp only [List.getElem_toArray, List.getElem_cons_zero, List.getElem_cons_succ]); go_simp; try (with_reducible rfl))
  try simp only [Act.put, List.getElem_toArray, List.getElem_cons_zero, List.getElem_cons_succ, List.setIfInBounds_toArray, List.set_cons_zero, List.set_cons_succ]
  refine wpAnyH_take (i := 14) (oi := _) (v := ?_) rfl (by kernel_rfl) (by kernel_rfl) (by kernel_rfl) (fun _ _ _ h => h) (Or.inl ⟨by rfl, ?_⟩) (by assumption) ?_
  rotate_left
  · (intro w0 hSw; (try dsimp only at hSw); (try simp only [List.getElem_toArray, List.getElem_cons_zero, List.getElem_cons_succ]); go_simp; try (with_reducible rfl))
  try simp only [Act.put, List.getElem_toArray, List.getElem_cons_zero, List.getElem_cons_succ, List.setIfInBounds_toArray, List.set_cons_zero, List.set_cons_succ]
  refine wpAnyH_take (i := 15) (oi := _) (v := ?_) rfl (by kernel_rfl) (by kernel_rfl) (by kernel_rfl) (fun _ _ _ h => h) (Or.inl ⟨by rfl, ?_⟩) (by assumption) ?_
  rotate_left
  · (intro w0 hSw; (try dsimp only at hSw); (try simp only [List.getElem_toArray, List.getElem_cons_zero, List.getElem_cons_succ]); go_simp; try (with_reducible rfl))
  try simp only [Act.put, List.getElem_toArray, List.getElem_cons_zero, List.getElem_cons_succ, List.setIfInBounds_toArray, List.set_cons_zero, List.set_cons_succ]
  refine wpAnyH_take (i := 16) (oi := _) (v := ?_) rfl (by kernel_rfl) (by kernel_rfl) (by kernel_rfl) (fun _ _ _ h => h) (Or.inl ⟨by rfl, ?_⟩) (by assumption) ?_
  rotate_left
  · (intro w0 hSw; (try dsimp only at hSw); (try simp only [List.getElem_toArray, List.getElem_cons_zero, List.getElem_cons_succ]); go_simp; try (with_reducible rfl))
  try simp only [Act.put, List.getElem_toArray, List.getElem_cons_zero, List.getElem_cons_succ, List.setIfInBounds_toArray, List.set_cons_zero, List.set_cons_succ]
  refine wpAnyH_done (by kernel_rfl) ?_ _
  refine NoPanic.normal ?_
  )
  have HB1 := hidden hb1
  have HR1 := hidden (HR.out.to hb1)
  have MU := hidden (must_any r R b x1 HR1.out)
  clear hb1 CUT c6 c7
  try clear hHeld
  try clear hHeld1
  go_wp2_with fail
  go_at_call 53
  refine MU.out.mono ?_
  rintro e x2 (⟨rfl, rfl, rfl⟩ | ⟨rfl, hth⟩)
  · obtain ⟨-, hn10, hdr⟩ | ⟨hbf, -⟩ := HCASE.out
    · have HN := hidden hn10
      have HD := hidden hdr
      have hlen : k + t1.length + 1 ≤ tl := by
        have h1 := congrArg List.length hdr
        have h2 := congrArg List.length HDD.out
        have h3 := HTL.out
        simp at h1 h2; omega
      have hz1 := bs_size t1
      have c7 := HR1.out.cell 7
      have c8 := HR1.out.cell 8
      have f7 := HR1.out.fz 7
      simp [RdS.cells] at c7 c8
      rw [hfr] at c7
      rw [hln] at c8
      have h3 := HR1.out.fr ((k + t1.length + 1 : Nat) : Int)
      have d8 := h3.cell 8
      have g8 := h3.fz 8
      simp [RdS.cells] at d8
      rw [hln] at d8
      have HR3 := hidden h3
      have e1 : IntKind.i64.wrap ((t1.length : Int) + 1) = (t1.length : Int) + 1 := wrapI _ (by omega) (by omega)
      have e2 : IntKind.i64.wrap ((k : Int) + ((t1.length : Int) + 1)) = ((k + t1.length + 1 : Nat) : Int) := by rw [wrapI _ (by omega) (by omega)]; omega
      have e4 : IntKind.i64.wrap ((n : Int) + 1) = ((n + 1 : Nat) : Int) := by rw [wrapI _ (by omega) (by omega)]; omega
      generalize hkk : ((k + t1.length + 1 : Nat) : Int) = kk at *
      have HKK := hidden hkk
      clear hn10 hdr h3 MU HCASE hkk
      go_wp2
      go_ret
      refine Or.inl ⟨t1, t2, HN.out, HD.out, rfl, ?_, ?_⟩
      · rw [HKK.out]
        exact (HR3.out.ln ((n + 1 : Nat) : Int)).trans rfl
      · exact grown_trans (gbel HB1.out _) (grown_trans (gset _ _ _ _) (gset _ _ _ _))
    · cases hbf
  · obtain ⟨hbf, -, -⟩ | ⟨-, hno⟩ := HCASE.out
    · cases hbf
    · obtain ⟨p, rfl, hp1, hp2, hp3⟩ := hth
      have H1 := hidden hp1
      have H2 := hidden hp2
      have H3 := hidden hp3
      have HNO := hidden hno
      clear hp1 hp2 hp3 hno MU HCASE
      unfold thrown
      go_wp2
      have hT : Thr w r R.bg (thrown p) x2 := ⟨p, rfl, H1.out, Nat.le_trans HB1.out.size H2.out, grown_trans (gbel HB1.out _) H3.out⟩
      first | exact ⟨rfl, Or.inr ⟨HNO.out, hT⟩⟩ | exact Or.inr ⟨HNO.out, hT⟩


end Go.Proofs.YtdiahnommkhkiaaDoor
