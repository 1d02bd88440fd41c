import Derived.Test.YtdiahnommkhkiaaDoorJ24
namespace Go.Proofs.YtdiahnommkhkiaaDoor
open Go.RowKit

set_option maxRecDepth 100000 in
set_option maxHeartbeats 8000000 in
theorem gbOuts (we wc : World) (r gb N : Nat) (off : Nat → Nat) (T : List UInt8) (h : Int × Int × Int × Int × Int) (HX : Hid (ByAt wc r T (off 0) h)) (HV : Hid (Vars wc)) (HWE : Hid (we.grownBy wc (some r))) (hge0 : we.heap.size ≤ gb) (hgr : gb ≠ r) (hgbl : gb < wc.heap.size) (hrl : r < wc.heap.size) (hr2 : 2 ≤ r) (hg2 : 2 ≤ gb) (hN : N ≤ 60000) (hq : wc.cell? ⟨gb, 3, none⟩ = some (.slice none 0 0)) (hfr : ∀ j, wc.frozen? ⟨gb, j, none⟩ = false)
    (CT : Hid (∀ (k : Nat) w', k < N → ByAt w' r T (off k) h → Vars w' → Calls Tryd.prog 42 #[.pointer (some ⟨r, 0, none⟩)] w' fun e w'' => (∃ d, OutB T (off k) (2 * (h.1 + 1)) d ∧ e = .returned (.int .i64 d) ∧ ByAt w'' r T (off (k + 1)) h ∧ w'.grownBy w'' (some r)) ∨ ((¬ ∃ d, OutB T (off k) (2 * (h.1 + 1)) d) ∧ Thr w' r ((off k : Nat) : Int) e w''))) (K' : Act → World → Prop) (Q0 : Exit → Act → World → Prop) (x1 x2 x4 x5 x6 x7 x8 x9 x10 x11 x12 x13 x14 x15 x16 x17 x18 x19 x20 x21 x22 x23 x24 x25 x26 x27 x28 x29 x30 x31 x32 x33 x34 x35 x36 x37 x38 x39 x40 x41 x44 x45 x46 x47 x48 x49 x50 x51 x52 x53 x54 x55 x56 x57 x58 x59 x60 x61 x62 x63 x64 x65 x66 x67 x68 x69 x70 x71 x72 : Value)
    (HK : Hid (∀ (w' : World) (s43 s44 s45 s46 s47 s48 s49 s50 s51 s52 : Value), (∃ (ds : List Int) (u : Value), ds.length = N ∧ (∀ i d, ds[i]? = some d → OutB T (off i) (2 * (h.1 + 1)) d) ∧ ByAt w' r T (off N) h ∧ w'.cell? ⟨gb, 3, none⟩ = some u ∧ w'.ownsRow wc.heap.size 3 1 u N (ds.flatMap intC) ∧ Gr2 r gb wc w' ∧ (∀ j, w'.frozen? ⟨gb, j, none⟩ = false) ∧ (∀ j, j ≠ 3 → w'.cell? ⟨gb, j, none⟩ = wc.cell? ⟨gb, j, none⟩)) → K' ⟨#[.pointer (some ⟨r, 0, none⟩), x1, x2, .pointer (some ⟨gb, 0, none⟩), x4, x5, x6, x7, x8, x9, x10, x11, x12, x13, x14, x15, x16, x17, x18, x19, x20, x21, x22, x23, x24, x25, x26, x27, x28, x29, x30, x31, x32, x33, x34, x35, x36, x37, x38, x39, x40, x41, .int .i64 (N : Int), s43, s44, s45, s46, s47, s48, s49, s50, s51, s52, x53, x54, x55, x56, x57, x58, x59, x60, x61, x62, x63, x64, x65, x66, x67, x68, x69, x70, x71, x72], []⟩ w'))
    (HQ : Hid (∀ (k : Nat) (a : Act) (w' : World) (p0 : Nat), a.defers = [] → k < N → (∀ j, j < k → ∃ d, OutB T (off j) (2 * (h.1 + 1)) d) → (¬ ∃ d, OutB T (off k) (2 * (h.1 + 1)) d) → FtAt w' p0 16 ((off k : Nat) : Int) → we.heap.size ≤ p0 → we.grownBy w' (some r) → Q0 (.panic [{ v := .iface 85 (.pointer (some ⟨p0, 0, none⟩)), recovered := false }]) a w')) :
    Code.wp Tryd.prog ((Tryd.f35.body.bind (blockAt 2)).getD .skip) (Exit.then K' Q0) ⟨#[.pointer (some ⟨r, 0, none⟩), x1, x2, .pointer (some ⟨gb, 0, none⟩), x4, x5, x6, x7, x8, x9, x10, x11, x12, x13, x14, x15, x16, x17, x18, x19, x20, x21, x22, x23, x24, x25, x26, x27, x28, x29, x30, x31, x32, x33, x34, x35, x36, x37, x38, x39, x40, x41, .int .i64 (N : Int), .int .i64 0, x44, x45, x46, x47, x48, x49, x50, x51, x52, x53, x54, x55, x56, x57, x58, x59, x60, x61, x62, x63, x64, x65, x66, x67, x68, x69, x70, x71, x72], []⟩ wc := by
  conv => arg 2; whnf
  obtain ⟨i3, hi3, hz3, hs3, hb3⟩ := info_int
  have HI2 := hidden hi3
  have HZ2 := hidden hz3
  have HS2 := hidden hs3
  have HBY2 := hidden hb3
  clear hi3 hz3 hs3 hb3
  go_wp2_with fail
  go_loopw [43] (fun i' w' => ∃ (k : Nat) (ds : List Int) (u : Value), k ≤ N ∧ i' = .int .i64 k ∧ ds.length = k ∧ Hid (∀ i d, ds[i]? = some d → OutB T (off i) (2 * (h.1 + 1)) d) ∧ Hid (ByAt w' r T (off k) h) ∧ Hid (w'.cell? ⟨gb, 3, none⟩ = some u) ∧ Hid (w'.ownsRow wc.heap.size 3 1 u k (ds.flatMap intC)) ∧ Hid (Gr2 r gb wc w') ∧ Hid (∀ j, w'.frozen? ⟨gb, j, none⟩ = false) ∧ Hid (∀ j, j ≠ 3 → w'.cell? ⟨gb, j, none⟩ = wc.cell? ⟨gb, j, none⟩)) (fun i' _ => N - (intOf i').toNat)
  case atStart => exact ⟨0, [], _, Nat.zero_le _, rfl, rfl, fun i d hi => by simp at hi, HX.out, hq, World.ownsRow_nil _ _ _ _, Gr2.refl _ _ _, hfr, fun _ _ => rfl⟩
  case round =>
    obtain ⟨k, ds, u, hk, rfl, hds, HP, HT, HU, HO, HG, HF, HJ⟩ := hrel
    by_cases hlt : k < N
    · have hltI : (k : Int) < (N : Int) := by omega
      have e3 : IntKind.i64.wrap ((k : Int) + 1) = (k : Int) + 1 := wrapI _ (by omega) (by omega)
      have hm1 : k + 1 ≤ maxLen := by simp only [maxLen]; omega
      have hm2 : (k + 1) * 8 ≤ 140737488355328 := by omega
      have hsz := HG.out.size
      have hu := HU.out
      have HPre : Hid (∀ j, j < k → ∃ d, OutB T (off j) (2 * (h.1 + 1)) d) := fun j hj => ⟨_, HP.out j _ (List.getElem?_eq_getElem (by omega : j < ds.length))⟩
      have C1 : Hid (∀ w', Below wr.heap.size wr w' → Calls Tryd.prog 42 #[.pointer (some ⟨r, 0, none⟩)] w' fun e w'' => (∃ d, OutB T (off k) (2 * (h.1 + 1)) d ∧ e = .returned (.int .i64 d) ∧ ByAt w'' r T (off (k + 1)) h ∧ w'.grownBy w'' (some r)) ∨ ((¬ ∃ d, OutB T (off k) (2 * (h.1 + 1)) d) ∧ Thr w' r ((off k : Nat) : Int) e w'')) := fun w' hw' => CT.out k w' hlt (HT.out.to hw') ((HV.out.gr2 HG.out hr2 (by omega) (by omega)).to hw' (by omega))
      have TH : Hid (∀ w1 p0, FtAt w1 p0 16 ((off k : Nat) : Int) → wr.heap.size ≤ p0 → wr.drew.grownBy w1 (some r) → FtAt w1 p0 16 ((off k : Nat) : Int) ∧ we.heap.size ≤ p0 ∧ we.grownBy w1 (some r)) := fun w1 p0 a1 a2 a3 => ⟨a1, by have := HWE.out.size; omega, (HG.out.grow (grown_of_drew a3) (fun y hy => .inl (Option.some.inj hy).symm)).grown HWE.out hge0⟩
      have AF : Hid (∀ w1, wr.drew.grownBy w1 (some r) → Aft wc w1 r gb 3 3 1 u k (ds.flatMap intC)) := fun w1 hg => aft_of hg HG.out HU.out HO.out HF.out HJ.out hgr hgbl hrl
      go_upto_region 12 with fail
      refine wp_region_anyPanic ?_
      refine wp_region_held_drew (S := (fun _ => True)) (by kernel_rfl) trivial (fun hHeld => ?_)
      refine wpAnyH_take (i := 0) (oi := _) (v := ?_) rfl (by kernel_rfl) (by kernel_rfl) (by kernel_rfl) (fun _ _ _ h => h) (Or.inl ⟨by rfl, ?_⟩) (by assumption) ?_
      rotate_left
      · (intro w0 hSw; (try dsimp only at hSw); (try simp only [List.getElem_toArray, List.getElem_cons_zero]); go_simp; try (with_reducible rfl))
      try simp only [Act.put, List.getElem_toArray, List.getElem_cons_zero, List.setIfInBounds_toArray, List.set_cons_zero, List.set_cons_succ]
      refine wpAnyH_take (i := 2) (oi := _) (v := ?_) rfl (by kernel_rfl) (by kernel_rfl) (by kernel_rfl) (fun _ _ _ h => h) (Or.inl ⟨by rfl, ?_⟩) (by assumption) ?_
      rotate_left
      · (intro w0 hSw; (try dsimp only at hSw); (try simp only [List.getElem_toArray, List.getElem_cons_zero, List.getElem_cons_succ]); go_simp; try (with_reducible rfl))
      try simp only [Act.put, List.getElem_toArray, List.getElem_cons_zero, List.getElem_cons_succ, List.setIfInBounds_toArray, List.set_cons_zero, List.set_cons_succ]
      refine wpAnyH_ready (rs := [1, 3]) (by kernel_rfl) (by simp) ?_
      refine AllReadyH.cons (o := _) rfl (fun K hK => ?_) ?_
      · (try simp only [List.getElem_toArray, List.getElem_cons_zero, List.getElem_cons_succ])
        go_simp
        refine hK.out _ _ trivial (fun hHeld1 => ?_)
        clear hK K
        (try simp only [Act.put]); (try simp only [List.setIfInBounds_toArray]); (try simp only [List.set_cons_zero, List.set_cons_succ])
        refine wpAnyH_ready (rs := [3]) (by kernel_rfl) (by simp) ?_
        refine AllReadyH.cons (o := _) rfl (fun K hK => ?_) AllReadyH.nil
        (try simp only [List.getElem_toArray, List.getElem_cons_zero, List.getElem_cons_succ])
        go_simp
        go_at_call 42
        refine (C1.out _ (by first | exact Below.drew (Below.refl _ _) | exact Below.refl _ _)).mono ?_
        rintro e w1 (⟨d, hP, rfl, hT1, hg1⟩ | ⟨hN, p0, rfl, hp1, hp2, hp3⟩)
        rotate_left
        · have HN := hidden hN
          have HTh := hidden (TH.out w1 p0 hp1 hp2 hp3)
          clear hN hp1 hp2 hp3
          unfold thrown
          go_wp2_with fail
          refine AnyPanic.panic (fun a' ha' => ?_)
          have HA' : Hid (a'.defers = []) := ha'
          clear ha'
          go_wp2
          exact HQ.out k _ _ p0 HA'.out hlt HPre.out HN.out HTh.out.1 HTh.out.2.1 HTh.out.2.2
        have HNX := hidden (line_next (P := fun i d => OutB T (off i) (2 * (h.1 + 1)) d) hds HP.out hP)
        skip
        have HT1 := hidden hT1
        have HG1 := hidden (AF.out w1 hg1)
        have huW : w1.cell? ⟨gb, 3, none⟩ = some u := HG1.out.hu
        have HO1 := hidden HG1.out.o
        have hm3 : wc.heap.size ≤ (w1.alloc (.cells #[.int .i64 d] 3)).heap.size := by have := HG1.out.gr.size; simp; omega
        have huA : (w1.alloc (.cells #[.int .i64 d] 3)).cell? ⟨gb, 3, none⟩ = some u := by
          rw [World.cell?_alloc_lt _ _ _ (by have := HG1.out.gr.size; show gb < _; omega)]; exact huW
        clear hT1 hg1 hP
        go_wp2_with fail
        refine hK.out _ _ trivial (fun hHeldc => ?_)
        clear hK K
        (try simp only [Act.put]); (try simp only [List.setIfInBounds_toArray]); (try simp only [List.set_cons_zero, List.set_cons_succ])
        refine wpAnyH_ready (rs := [4]) (by kernel_rfl) (by simp) ?_
        refine AllReadyH.cons (o := _) rfl (fun K hK => ?_) AllReadyH.nil
        (try simp only [List.getElem_toArray, List.getElem_cons_zero, List.getElem_cons_succ])
        go_simp
        refine hK.out _ _ trivial (fun hHeld4 => ?_)
        clear hK K
        (try simp only [Act.put]); (try simp only [List.setIfInBounds_toArray]); (try simp only [List.set_cons_zero, List.set_cons_succ])
        refine wpAnyH_ready (rs := [5]) (by kernel_rfl) (by simp) ?_
        refine AllReadyH.cons (o := _) rfl (fun K hK => ?_) AllReadyH.nil
        refine step_append_lies _ rfl (.tmp 46) (.tmp 49) 26 rfl wc.heap.size 3 i3 _ 1 8 Tryd.underlying26 HI2.out HZ2.out HS2.out HBY2.out rfl (by decide) u k _ rfl (HO1.out.alloc _) ⟨w1.heap.size, 0, none⟩ 1 1 [.int .i64 d] rfl rfl (World.news_of_block (heap_new _ _)) (by simp [Value.oneCell']) (by decide) hm1 hm2 hm3 _ rfl ?_
        intro g cap w5 hown hgrow hat hlt5
        have HW5 := hidden (aft_app HG1.out hgbl hrl hgrow hat)
        have hc5 := HW5.out.hu
        have hf5 := HW5.out.z 3
        refine hK.out _ _ trivial (fun hHeldp => ?_)
        clear hK K
        (try simp only [Act.put]); (try simp only [List.setIfInBounds_toArray]); (try simp only [List.set_cons_zero, List.set_cons_succ])
        refine wpAnyH_take (i := 6) (oi := _) (v := ?_) rfl (by kernel_rfl) (by kernel_rfl) (by kernel_rfl) (fun _ _ _ h => h) (Or.inl ⟨by rfl, ?_⟩) (by assumption) ?_
        rotate_left
        · (intro w0 hSw; (try dsimp only at hSw); (try simp only [List.getElem_toArray, List.getElem_cons_zero, List.getElem_cons_succ]); go_simp; try (with_reducible rfl))
        try simp only [Act.put, List.getElem_toArray, List.getElem_cons_zero, List.getElem_cons_succ, List.setIfInBounds_toArray, List.set_cons_zero, List.set_cons_succ]
        refine wpAnyH_ready (rs := [7]) (by kernel_rfl) (by simp) ?_
        refine AllReadyH.cons (o := _) rfl (fun K hK => ?_) AllReadyH.nil
        (try simp only [List.getElem_toArray, List.getElem_cons_zero, List.getElem_cons_succ])
        go_simp
        refine hK.out _ _ trivial (fun hHeld7 => ?_)
        clear hK K
        (try simp only [Act.put]); (try simp only [List.setIfInBounds_toArray]); (try simp only [List.set_cons_zero, List.set_cons_succ])
        refine wpAnyH_done (by kernel_rfl) ?_ _
        refine AnyPanic.normal ?_
        generalize hW6 : World.setCell w5 _ _ = w6
        have HU6 : Hid (w6.cell? ⟨gb, 3, none⟩ = some (.slice (some ⟨g, 0, none⟩) (k + 1) cap)) := by rw [← hW6]; exact World.cell?_setCell_same (h := hc5) ..
        have hgs : w5.grownBy w6 (some gb) := by rw [← hW6]; exact gset _ _ _ _
        have hgh : g ≠ gb := HW5.out.hn
        have HO6 : Hid (w6.ownsRow wc.heap.size 3 1 (.slice (some ⟨g, 0, none⟩) (k + 1) cap) (k + 1) ((ds ++ [d]).flatMap intC)) := by
          have := hown.kept hgs (.inr (fun e => hgh (by cases e; rfl)))
          rw [List.flatMap_append]; exact this
        have HG6 : Hid (Gr2 r gb wc w6) := HW5.out.gr.grow hgs (fun y hy => .inr (.inl (Option.some.inj hy).symm))
        have HF6 : Hid (∀ j, w6.frozen? ⟨gb, j, none⟩ = false) := fun j => by rw [← hW6]; exact (World.frozen?_setCell _ _ _ _).trans (HW5.out.z j)
        have HJ6 : Hid (∀ j, j ≠ 3 → w6.cell? ⟨gb, j, none⟩ = wc.cell? ⟨gb, j, none⟩) := fun j hj => by
          rw [← hW6]
          exact (World.cell?_setCell_other (h := fun e => hj (by cases e; rfl)) ..).trans (HW5.out.hj j hj)
        have HT6 : Hid (ByAt w6 r T (off (k + 1)) h) := HT1.out.set2 HW5.out.hr hgs (Ne.symm hgr) rfl
        clear hW6 hgs hgh hown hgrow hat hlt5 HW5 hc5 hf5 HO HG HJ HU HF huW huA HO1 HG1 HT1 HT C1 TH AF HPre HP
        go_wp2
        go_roundw
        case measure => simp [intOf]; omega
        case rel => exact ⟨k + 1, ds ++ [d], _, by omega, by simp, HNX.out.1, HNX.out.2, HT6.out, HU6.out, HO6.out, HG6.out, HF6.out, HJ6.out⟩
      refine AllReadyH.cons (o := _) rfl (fun K hK => ?_) AllReadyH.nil
      (try simp only [List.getElem_toArray, List.getElem_cons_zero, List.getElem_cons_succ])
      go_simp
      go_at_call 42
      refine (C1.out _ (by first | exact Below.drew (Below.refl _ _) | exact Below.refl _ _)).mono ?_
      rintro e w1 (⟨d, hP, rfl, hT1, hg1⟩ | ⟨hN, p0, rfl, hp1, hp2, hp3⟩)
      rotate_left
      · have HN := hidden hN
        have HTh := hidden (TH.out w1 p0 hp1 hp2 hp3)
        clear hN hp1 hp2 hp3
        unfold thrown
        go_wp2_with fail
        refine AnyPanic.panic (fun a' ha' => ?_)
        have HA' : Hid (a'.defers = []) := ha'
        clear ha'
        go_wp2
        exact HQ.out k _ _ p0 HA'.out hlt HPre.out HN.out HTh.out.1 HTh.out.2.1 HTh.out.2.2
      have HNX := hidden (line_next (P := fun i d => OutB T (off i) (2 * (h.1 + 1)) d) hds HP.out hP)
      skip
      have HT1 := hidden hT1
      have HG1 := hidden (AF.out w1 hg1)
      have huW : w1.cell? ⟨gb, 3, none⟩ = some u := HG1.out.hu
      have HO1 := hidden HG1.out.o
      have hm3 : wc.heap.size ≤ (w1.alloc (.cells #[.int .i64 d] 3)).heap.size := by have := HG1.out.gr.size; simp; omega
      have huA : (w1.alloc (.cells #[.int .i64 d] 3)).cell? ⟨gb, 3, none⟩ = some u := by
        rw [World.cell?_alloc_lt _ _ _ (by have := HG1.out.gr.size; show gb < _; omega)]; exact huW
      clear hT1 hg1 hP
      go_wp2_with fail
      refine hK.out _ _ trivial (fun hHeldc => ?_)
      clear hK K
      (try simp only [Act.put]); (try simp only [List.setIfInBounds_toArray]); (try simp only [List.set_cons_zero, List.set_cons_succ])
      refine wpAnyH_ready (rs := [1, 4]) (by kernel_rfl) (by simp) ?_
      refine AllReadyH.cons (o := _) rfl (fun K hK => ?_) ?_
      · (try simp only [List.getElem_toArray, List.getElem_cons_zero, List.getElem_cons_succ])
        go_simp
        refine hK.out _ _ trivial (fun hHeld1 => ?_)
        clear hK K
        (try simp only [Act.put]); (try simp only [List.setIfInBounds_toArray]); (try simp only [List.set_cons_zero, List.set_cons_succ])
        refine wpAnyH_ready (rs := [4]) (by kernel_rfl) (by simp) ?_
        refine AllReadyH.cons (o := _) rfl (fun K hK => ?_) AllReadyH.nil
        (try simp only [List.getElem_toArray, List.getElem_cons_zero, List.getElem_cons_succ])
        go_simp
        refine hK.out _ _ trivial (fun hHeld4 => ?_)
        clear hK K
        (try simp only [Act.put]); (try simp only [List.setIfInBounds_toArray]); (try simp only [List.set_cons_zero, List.set_cons_succ])
        refine wpAnyH_ready (rs := [5]) (by kernel_rfl) (by simp) ?_
        refine AllReadyH.cons (o := _) rfl (fun K hK => ?_) AllReadyH.nil
        refine step_append_lies _ rfl (.tmp 46) (.tmp 49) 26 rfl wc.heap.size 3 i3 _ 1 8 Tryd.underlying26 HI2.out HZ2.out HS2.out HBY2.out rfl (by decide) u k _ rfl (HO1.out.alloc _) ⟨w1.heap.size, 0, none⟩ 1 1 [.int .i64 d] rfl rfl (World.news_of_block (heap_new _ _)) (by simp [Value.oneCell']) (by decide) hm1 hm2 hm3 _ rfl ?_
        intro g cap w5 hown hgrow hat hlt5
        have HW5 := hidden (aft_app HG1.out hgbl hrl hgrow hat)
        have hc5 := HW5.out.hu
        have hf5 := HW5.out.z 3
        refine hK.out _ _ trivial (fun hHeldp => ?_)
        clear hK K
        (try simp only [Act.put]); (try simp only [List.setIfInBounds_toArray]); (try simp only [List.set_cons_zero, List.set_cons_succ])
        refine wpAnyH_take (i := 6) (oi := _) (v := ?_) rfl (by kernel_rfl) (by kernel_rfl) (by kernel_rfl) (fun _ _ _ h => h) (Or.inl ⟨by rfl, ?_⟩) (by assumption) ?_
        rotate_left
        · (intro w0 hSw; (try dsimp only at hSw); (try simp only [List.getElem_toArray, List.getElem_cons_zero, List.getElem_cons_succ]); go_simp; try (with_reducible rfl))
        try simp only [Act.put, List.getElem_toArray, List.getElem_cons_zero, List.getElem_cons_succ, List.setIfInBounds_toArray, List.set_cons_zero, List.set_cons_succ]
        refine wpAnyH_ready (rs := [7]) (by kernel_rfl) (by simp) ?_
        refine AllReadyH.cons (o := _) rfl (fun K hK => ?_) AllReadyH.nil
        (try simp only [List.getElem_toArray, List.getElem_cons_zero, List.getElem_cons_succ])
        go_simp
        refine hK.out _ _ trivial (fun hHeld7 => ?_)
        clear hK K
        (try simp only [Act.put]); (try simp only [List.setIfInBounds_toArray]); (try simp only [List.set_cons_zero, List.set_cons_succ])
        refine wpAnyH_done (by kernel_rfl) ?_ _
        refine AnyPanic.normal ?_
        generalize hW6 : World.setCell w5 _ _ = w6
        have HU6 : Hid (w6.cell? ⟨gb, 3, none⟩ = some (.slice (some ⟨g, 0, none⟩) (k + 1) cap)) := by rw [← hW6]; exact World.cell?_setCell_same (h := hc5) ..
        have hgs : w5.grownBy w6 (some gb) := by rw [← hW6]; exact gset _ _ _ _
        have hgh : g ≠ gb := HW5.out.hn
        have HO6 : Hid (w6.ownsRow wc.heap.size 3 1 (.slice (some ⟨g, 0, none⟩) (k + 1) cap) (k + 1) ((ds ++ [d]).flatMap intC)) := by
          have := hown.kept hgs (.inr (fun e => hgh (by cases e; rfl)))
          rw [List.flatMap_append]; exact this
        have HG6 : Hid (Gr2 r gb wc w6) := HW5.out.gr.grow hgs (fun y hy => .inr (.inl (Option.some.inj hy).symm))
        have HF6 : Hid (∀ j, w6.frozen? ⟨gb, j, none⟩ = false) := fun j => by rw [← hW6]; exact (World.frozen?_setCell _ _ _ _).trans (HW5.out.z j)
        have HJ6 : Hid (∀ j, j ≠ 3 → w6.cell? ⟨gb, j, none⟩ = wc.cell? ⟨gb, j, none⟩) := fun j hj => by
          rw [← hW6]
          exact (World.cell?_setCell_other (h := fun e => hj (by cases e; rfl)) ..).trans (HW5.out.hj j hj)
        have HT6 : Hid (ByAt w6 r T (off (k + 1)) h) := HT1.out.set2 HW5.out.hr hgs (Ne.symm hgr) rfl
        clear hW6 hgs hgh hown hgrow hat hlt5 HW5 hc5 hf5 HO HG HJ HU HF huW huA HO1 HG1 HT1 HT C1 TH AF HPre HP
        go_wp2
        go_roundw
        case measure => simp [intOf]; omega
        case rel => exact ⟨k + 1, ds ++ [d], _, by omega, by simp, HNX.out.1, HNX.out.2, HT6.out, HU6.out, HO6.out, HG6.out, HF6.out, HJ6.out⟩
      refine AllReadyH.cons (o := _) rfl (fun K hK => ?_) AllReadyH.nil
      (try simp only [List.getElem_toArray, List.getElem_cons_zero, List.getElem_cons_succ])
      go_simp
      refine hK.out _ _ trivial (fun hHeld4 => ?_)
      clear hK K
      (try simp only [Act.put]); (try simp only [List.setIfInBounds_toArray]); (try simp only [List.set_cons_zero, List.set_cons_succ])
      refine wpAnyH_ready (rs := [1]) (by kernel_rfl) (by simp) ?_
      refine AllReadyH.cons (o := _) rfl (fun K hK => ?_) AllReadyH.nil
      (try simp only [List.getElem_toArray, List.getElem_cons_zero, List.getElem_cons_succ])
      go_simp
      refine hK.out _ _ trivial (fun hHeld1 => ?_)
      clear hK K
      (try simp only [Act.put]); (try simp only [List.setIfInBounds_toArray]); (try simp only [List.set_cons_zero, List.set_cons_succ])
      refine wpAnyH_ready (rs := [5]) (by kernel_rfl) (by simp) ?_
      refine AllReadyH.cons (o := _) rfl (fun K hK => ?_) AllReadyH.nil
      refine step_append_lies _ rfl (.tmp 46) (.tmp 49) 26 rfl wc.heap.size 3 i3 _ 1 8 Tryd.underlying26 HI2.out HZ2.out HS2.out HBY2.out rfl (by decide) u k _ rfl (HO1.out.alloc _) ⟨w1.heap.size, 0, none⟩ 1 1 [.int .i64 d] rfl rfl (World.news_of_block (heap_new _ _)) (by simp [Value.oneCell']) (by decide) hm1 hm2 hm3 _ rfl ?_
      intro g cap w5 hown hgrow hat hlt5
      have HW5 := hidden (aft_app HG1.out hgbl hrl hgrow hat)
      have hc5 := HW5.out.hu
      have hf5 := HW5.out.z 3
      refine hK.out _ _ trivial (fun hHeldp => ?_)
      clear hK K
      (try simp only [Act.put]); (try simp only [List.setIfInBounds_toArray]); (try simp only [List.set_cons_zero, List.set_cons_succ])
      refine wpAnyH_take (i := 6) (oi := _) (v := ?_) rfl (by kernel_rfl) (by kernel_rfl) (by kernel_rfl) (fun _ _ _ h => h) (Or.inl ⟨by rfl, ?_⟩) (by assumption) ?_
      rotate_left
      · (intro w0 hSw; (try dsimp only at hSw); (try simp only [List.getElem_toArray, List.getElem_cons_zero, List.getElem_cons_succ]); go_simp; try (with_reducible rfl))
      try simp only [Act.put, List.getElem_toArray, List.getElem_cons_zero, List.getElem_cons_succ, List.setIfInBounds_toArray, List.set_cons_zero, List.set_cons_succ]
      refine wpAnyH_ready (rs := [7]) (by kernel_rfl) (by simp) ?_
      refine AllReadyH.cons (o := _) rfl (fun K hK => ?_) AllReadyH.nil
      (try simp only [List.getElem_toArray, List.getElem_cons_zero, List.getElem_cons_succ])
      go_simp
      refine hK.out _ _ trivial (fun hHeld7 => ?_)
      clear hK K
      (try simp only [Act.put]); (try simp only [List.setIfInBounds_toArray]); (try simp only [List.set_cons_zero, List.set_cons_succ])
      refine wpAnyH_done (by kernel_rfl) ?_ _
      refine AnyPanic.normal ?_
      generalize hW6 : World.setCell w5 _ _ = w6
      have HU6 : Hid (w6.cell? ⟨gb, 3, none⟩ = some (.slice (some ⟨g, 0, none⟩) (k + 1) cap)) := by rw [← hW6]; exact World.cell?_setCell_same (h := hc5) ..
      have hgs : w5.grownBy w6 (some gb) := by rw [← hW6]; exact gset _ _ _ _
      have hgh : g ≠ gb := HW5.out.hn
      have HO6 : Hid (w6.ownsRow wc.heap.size 3 1 (.slice (some ⟨g, 0, none⟩) (k + 1) cap) (k + 1) ((ds ++ [d]).flatMap intC)) := by
        have := hown.kept hgs (.inr (fun e => hgh (by cases e; rfl)))
        rw [List.flatMap_append]; exact this
      have HG6 : Hid (Gr2 r gb wc w6) := HW5.out.gr.grow hgs (fun y hy => .inr (.inl (Option.some.inj hy).symm))
      have HF6 : Hid (∀ j, w6.frozen? ⟨gb, j, none⟩ = false) := fun j => by rw [← hW6]; exact (World.frozen?_setCell _ _ _ _).trans (HW5.out.z j)
      have HJ6 : Hid (∀ j, j ≠ 3 → w6.cell? ⟨gb, j, none⟩ = wc.cell? ⟨gb, j, none⟩) := fun j hj => by
        rw [← hW6]
        exact (World.cell?_setCell_other (h := fun e => hj (by cases e; rfl)) ..).trans (HW5.out.hj j hj)
      have HT6 : Hid (ByAt w6 r T (off (k + 1)) h) := HT1.out.set2 HW5.out.hr hgs (Ne.symm hgr) rfl
      clear hW6 hgs hgh hown hgrow hat hlt5 HW5 hc5 hf5 HO HG HJ HU HF huW huA HO1 HG1 HT1 HT C1 TH AF HPre HP
      go_wp2
      go_roundw
      case measure => simp [intOf]; omega
      case rel => exact ⟨k + 1, ds ++ [d], _, by omega, by simp, HNX.out.1, HNX.out.2, HT6.out, HU6.out, HO6.out, HG6.out, HF6.out, HJ6.out⟩
    · have hge : ¬ ((k : Int) < (N : Int)) := by omega
      have hkN : k = N := by omega
      clear hge
      subst hkN
      have hge : ¬ ((k : Int) < (k : Int)) := by omega
      go_wp2
      exact HK.out _ _ _ _ _ _ _ _ _ _ _ ⟨ds, u, hds, HP.out, HT.out, HU.out, HO.out, HG.out, HF.out, HJ.out⟩


end Go.Proofs.YtdiahnommkhkiaaDoor
