import Derived.Test.YtcmfiamejncboaaLrJ
namespace Go.Proofs.Ytcmfiamejncboaa
open Go.RowKit

theorem row_of_made {w : World} {B g nv : Nat} (h : w.ownsRow B 4 1 (.slice (some ⟨g, 0, none⟩) nv nv) nv (madeCells (Value.bool false).cells (nv * 1)).toList) : w.heap[g]? = some (.cells ((List.replicate nv false).map bV).toArray 4 (0, 0)) := by
  rw [made_false] at h
  rcases h.2 with ⟨h', _⟩ | ⟨g', cap', cur, h', _, hh, _, _, hcs, htake⟩
  · simp at h'
  · simp only [Value.slice.injEq, Option.some.injEq, Addr.mk.injEq, and_true, true_and] at h'
    obtain ⟨rfl, rfl⟩ := h'
    rw [hh]
    rw [List.take_of_length_le (by rw [Array.length_toList, hcs]; exact Nat.le_refl _)] at htake
    rw [← htake]
def firstT (nv lo : Nat) (init : List Bool) : List Bool := splice ((List.replicate nv false).set 1 true) lo init

set_option maxRecDepth 100000 in
set_option maxHeartbeats 8000000 in
theorem startT_any (w : World) (gb : Nat) (S : NtS) (N : NtD) (hx : BoxAt w gb S N) (ni : Nat) (hni : N.ins = (ni : Int)) (hnl : ni ≤ 60000) (hil : N.init.length ≤ 17592186044416) (htl : N.tabs.length ≤ 4398046511104) (HI0 : Hid (RowAt w.heap.size w S.a1 1 (N.init.map boolC))) :
    Calls Try.prog 20 #[.pointer (some ⟨gb, 0, none⟩)] w fun e w' => ∃ mk g, e = .returned (.pointer (some ⟨mk, 0, none⟩)) ∧ MkT w' mk gb g S N (firstT (2 + ni + N.init.length + N.tabs.length) (2 + ni) N.init) ∧ w.heap.size ≤ g ∧ w.heap.size ≤ mk ∧ mk ≠ g ∧ Below w.heap.size w w' := by
  obtain ⟨ib, hib, hzb, hsb, hbb⟩ := info_bool
  have HI := hidden hib
  have HZ := hidden hzb
  have HS := hidden hsb
  have HBY := hidden hbb
  clear hib hzb hsb hbb
  have SA : Hid (∀ q, Calls Try.prog 12 #[.pointer (some ⟨gb, 0, none⟩)] (w.drewN q) fun e w' => e = .returned (.int .i64 N.sigs) ∧ ∃ n, w' = (w.drewN q).drewN n) := fun q => signals_any (w.drewN q) gb S N (hx.to hx.lt (Below.drewN (Below.refl _ _) q)) (by omega) (by omega) (by simp only [huge]; omega) (by simp only [big]; omega)
  obtain ⟨nv, HNV⟩ : ∃ n : Nat, Hid (n = 2 + ni + N.init.length + N.tabs.length) := ⟨_, rfl⟩
  rw [← HNV.out]
  have hnv : nv ≤ 22000000000000 := by have := HNV.out; omega
  have hv2 : 2 + ni + N.init.length ≤ nv := by have := HNV.out; omega
  have HSG : Hid (N.sigs = (nv : Int)) := by show _ = _; unfold NtD.sigs NtD.first; rw [hni, HNV.out]; omega
  rw [HSG.out] at SA
  obtain ⟨lo, HLO⟩ : ∃ f : Nat, Hid (f = 2 + ni) := ⟨_, rfl⟩
  have HBX0 := hidden hx
  have blt := hx.lt
  have hmkb : ib.bytes * nv ≤ 281474976710656 := by rw [HBY.out]; omega
  have hmx : nv ≤ maxLen := by simp only [maxLen]; omega
  have HNI := hidden hni
  clear hx HSG
  unfold firstT
  obtain ⟨vals0, HV0⟩ : ∃ v, Hid (v = (List.replicate nv false).set 1 true) := ⟨_, rfl⟩
  obtain ⟨init, HINI⟩ : ∃ i, Hid (i = N.init) := ⟨_, rfl⟩
  rw [← HLO.out, ← HV0.out, ← HINI.out]
  obtain ⟨sa1, sc1, sa2, sc2, sa3, sc3, sa4, sc4⟩ := S
  dsimp only at *
  have tok : True := trivial
  go_enter Try.func20, Try.ntmps20
  go_wp2_with fail
  go_at_call 12
  refine (SA.out 0).mono ?_
  rintro e w0 ⟨rfl, q, hw0⟩
  have HB0 : Hid (Below w.heap.size w w0) := by rw [hw0]; exact Below.drewN (Below.drewN (Below.refl _ _) 0) _
  have HS0 : Hid (w0.heap.size = w.heap.size) := by show _ = _; rw [hw0]; rfl
  clear hw0 SA
  go_upto_region 2 with (have _t := tok; at_make; (refine wpList_make_full _ rfl (.tmp 6) (.tmp 6) 22 rfl w0.heap.size 4 ib _ 1 Try.underlying22 HI.out HZ.out HS.out .i64 .i64 (nv : Int) (nv : Int) nv rfl rfl rfl rfl hmkb hmx (Nat.le_refl _) ?_; intro w1 hown1 hgrow1; have HB1 := hidden (none_below hgrow1); have HR1 := hidden (row_of_made hown1); have hgl := (hown1.lt w0.heap.size rfl).2; clear tok hown1 hgrow1))
  generalize hW : World.alloc w1 _ = W
  have hs0 := HS0.out
  obtain ⟨g, hg⟩ : ∃ x, x = w0.heap.size := ⟨_, rfl⟩
  obtain ⟨mk, hmk⟩ : ∃ x, x = w1.heap.size := ⟨_, rfl⟩
  have HBW1 : Hid (Below w1.heap.size w1 W) := by rw [← hW]; exact (Below.refl _ _).alloc (Nat.le_refl _) _
  have HBW : Hid (Below w.heap.size w W) := HB0.out.trans (by have := HB1.out.trans (HBW1.out.mono HB1.out.size); rwa [hs0] at this)
  have hWs : W.heap.size = w1.heap.size + 1 := by rw [← hW]; simp
  have hgw : w.heap.size ≤ g := by omega
  have hmw : w.heap.size ≤ mk := by have := HB1.out.size; omega
  have hmg : mk ≠ g := by omega
  have hbg : gb ≠ g := by omega
  have HMK : Hid (MkT W mk gb g ⟨sa1, sc1, sa2, sc2, sa3, sc3, sa4, sc4⟩ N (List.replicate nv false)) := by
    refine ⟨?_, ?_, by omega, by omega, HBX0.out.to HBX0.out.lt HBW.out, (HBW1.out.block g (by omega)).trans (by rw [hg]; exact HR1.out)⟩
    · rw [← hW, hmk, cell_new rfl]; rfl
    · rw [← hW, hmk, cell_new rfl, List.length_replicate, hg]; rfl
  rw [← hg, ← hmk]
  clear hW hg hmk HR1 HBW1 HB1 HB0 hgl hs0 HS0
  have m1W := HMK.out.m1
  rw [List.length_replicate] at m1W
  have hold : W.cell? ⟨g, 1, none⟩ = some (.bool false) := HMK.out.cell (by rw [List.getElem?_replicate, if_pos (by omega)])
  have hfz : W.frozen? ⟨g, 1, none⟩ = false := frozen_of_row W g 1 _ _ HMK.out.row
  have hn1 : (1 : Int) < (nv : Int) := by omega
  have hn1' : 1 < nv := by omega
  go_upto_region 3 with fail
  generalize hX : World.setCell W _ _ = X
  have HGX : Hid (W.grownBy X (some g)) := by rw [← hX]; exact grown_setCell _ _ _ _
  have HRX : Hid (X.heap[g]? = some (.cells (vals0.map bV).toArray 4 (0, 0))) := by
    show _ = _
    rw [← hX, heap_setCell_same _ g _ _ _ _ HMK.out.row, HV0.out]
    simp only [List.map_set, List.setIfInBounds_toArray, bV]
  have hv0l : vals0.length = nv := by rw [HV0.out]; simp
  have HMX : Hid (MkT X mk gb g ⟨sa1, sc1, sa2, sc2, sa3, sc3, sa4, sc4⟩ N vals0) := HMK.out.turn HGX.out hmg hbg (by rw [hv0l]; simp) HRX.out
  have HBX : Hid (Below w.heap.size w X) := HBW.out.trans (below_grown HGX.out HBW.out.size (fun k hk => by cases hk; exact hgw))
  clear hX m1W hold hfz HMK HGX HBW HBX0 hWs
  have q1 := HMX.out.box.c1
  dsimp only at q1
  have RG : Hid (∀ q, Calls Try.prog 28 #[.pointer (some ⟨mk, 0, none⟩)] (X.drewN q) fun e w' => (∃ dp dc, e = .returned (.slice dp N.init.length dc) ∧ (0 < N.init.length → dp = some ⟨g, lo, none⟩)) ∧ ∃ n, w' = (X.drewN q).drewN n) := fun q => by
    rw [HLO.out]
    exact registers_any (X.drewN q) mk gb g _ N vals0 (HMX.out.to (Below.drewN (Below.refl _ _) q)) ni HNI.out hnl hil (by rw [hv0l]; omega) (by rw [hv0l]; exact hnv)
  have HRI : Hid (RowAt w.heap.size X sa1 1 (N.init.map boolC)) := HI0.out.to HBX.out
  have HFIT : Hid (lo + (N.init.map bV).length ≤ (vals0.map bV).length) := by show _ ≤ _; rw [List.length_map, List.length_map, HLO.out, hv0l]; omega
  have HNM : Hid ((N.init.map bV).length = Nat.min N.init.length N.init.length) := by show _ = _; rw [List.length_map]; exact (Nat.min_self _).symm
  have HSL : Hid ((splice vals0 lo N.init).length = vals0.length) := by show _ = _; rw [length_splice _ _ _ (by rw [HLO.out, hv0l]; omega)]
  have HPOS : Hid (∀ (v1 : World) (dp : Option Addr), (0 < N.init.length → dp = some ⟨g, lo, none⟩) → (∀ (ad : Addr) (v : Value), X.cell? ad = some v → v1.cell? ad = some v) → 0 < (N.init.map bV).length → dp = some ⟨g, lo, none⟩ ∧ ∃ ad : Addr, sa1 = some ad ∧ ∀ (j : Nat) (v : Value), (N.init.map bV)[j]? = some v → v1.cell? (ad.add j) = some v) := by
    intro v1 dp hd ho hp
    rw [List.length_map] at hp
    obtain ⟨x0, hx0⟩ := getElem_lt hp
    obtain ⟨rb, ro, ea, hrb, -⟩ := rowB HRI.out hx0
    refine ⟨hd hp, ⟨rb, ro, none⟩, ea, fun j v hv => ?_⟩
    obtain ⟨bj, hbj, hv'⟩ : ∃ b, N.init[j]? = some b ∧ bV b = v := by
      rw [List.getElem?_map] at hv
      cases hq : N.init[j]? with
      | none => rw [hq] at hv; cases hv
      | some b => rw [hq] at hv; exact ⟨b, rfl, by simpa using hv⟩
    obtain ⟨rb', ro', ea', _, hcj⟩ := rowB HRI.out hbj
    have e2 : rb' = rb ∧ ro' = ro := by rw [ea] at ea'; cases ea'; exact ⟨rfl, rfl⟩
    obtain ⟨rfl, rfl⟩ := e2
    rw [show (⟨rb', ro', none⟩ : Addr).add j = ⟨rb', ro' + j, none⟩ by unfold Addr.add; split <;> simp_all, ← hv']
    exact ho _ _ hcj
  clear hil htl hv2 hnv hv0l HI0 HRI
  generalize hil' : N.init.length = il at *
  rw [← HINI.out] at HFIT HNM HSL HPOS
  have KP : Hid (∀ w', X.grownBy w' (some g) → w'.cell? ⟨gb, 1, none⟩ = some (.slice sa1 il sc1)) := fun w' hw' => hw'.cell q1 (by intro e; cases e; exact hbg rfl)
  have HG0 : X.grownBy X.drew (some g) := grown_drew _ _
  refine wp_region_noPanic ?_
  refine wp_region_held_drew (S := (fun w' => w'.cell? ⟨gb, 1, none⟩ = some (.slice sa1 il sc1))) (by kernel_rfl) (by first | assumption | exact KP.out _ (by assumption)) (fun hHeld => ?_)
  refine wpAnyH_take (i := 0) (oi := _) (v := ?_) rfl (by kernel_rfl) (by kernel_rfl) (by kernel_rfl) (fun _ _ _ h => h) (Or.inl ⟨by rfl, ?_⟩) (by assumption) ?_
  rotate_left
  · (intro w0 hSw; (try dsimp only at hSw); (try simp only [List.getElem_toArray, List.getElem_cons_zero]); go_simp; try (with_reducible rfl))
  try simp only [Act.put, List.getElem_toArray, List.getElem_cons_zero, List.setIfInBounds_toArray, List.set_cons_zero, List.set_cons_succ]
  refine wpAnyH_take (i := 2) (oi := _) (v := ?_) rfl (by kernel_rfl) (by kernel_rfl) (by kernel_rfl) (fun _ _ _ h => h) (Or.inl ⟨by rfl, ?_⟩) (by assumption) ?_
  rotate_left
  · (intro w0 hSw; (try dsimp only at hSw); (try simp only [List.getElem_toArray, List.getElem_cons_zero, List.getElem_cons_succ]); go_simp; try (with_reducible rfl))
  try simp only [Act.put, List.getElem_toArray, List.getElem_cons_zero, List.getElem_cons_succ, List.setIfInBounds_toArray, List.set_cons_zero, List.set_cons_succ]
  refine wpAnyH_take (i := 3) (oi := _) (v := ?_) rfl (by kernel_rfl) (by kernel_rfl) (by kernel_rfl) (fun _ _ _ h => h) (Or.inl ⟨by rfl, ?_⟩) (by assumption) ?_
  rotate_left
  · (intro w0 hSw; (try dsimp only at hSw); (try simp only [List.getElem_toArray, List.getElem_cons_zero, List.getElem_cons_succ]); go_simp; try (with_reducible rfl))
  try simp only [Act.put, List.getElem_toArray, List.getElem_cons_zero, List.getElem_cons_succ, List.setIfInBounds_toArray, List.set_cons_zero, List.set_cons_succ]
  refine wpAnyH_take (i := 4) (oi := _) (v := ?_) rfl (by kernel_rfl) (by kernel_rfl) (by kernel_rfl) (fun _ _ _ h => h) (Or.inl ⟨by rfl, ?_⟩) (by assumption) ?_
  rotate_left
  · (intro w0 hSw; (try dsimp only at hSw); (try simp only [List.getElem_toArray, List.getElem_cons_zero, List.getElem_cons_succ]); go_simp; try (with_reducible rfl))
  try simp only [Act.put, List.getElem_toArray, List.getElem_cons_zero, List.getElem_cons_succ, List.setIfInBounds_toArray, List.set_cons_zero, List.set_cons_succ]
  refine wpAnyH_take (i := 5) (oi := _) (v := ?_) rfl (by kernel_rfl) (by kernel_rfl) (by kernel_rfl) (fun _ _ _ h => h) (Or.inl ⟨by rfl, ?_⟩) (by assumption) ?_
  rotate_left
  · (intro w0 hSw; (try dsimp only at hSw); (try simp only [List.getElem_toArray, List.getElem_cons_zero, List.getElem_cons_succ]); go_simp; try (with_reducible rfl))
  try simp only [Act.put, List.getElem_toArray, List.getElem_cons_zero, List.getElem_cons_succ, List.setIfInBounds_toArray, List.set_cons_zero, List.set_cons_succ]
  refine wpAnyH_ready (rs := [1]) (by kernel_rfl) (by simp) ?_
  refine AllReadyH.cons (o := _) rfl (fun K hK => ?_) AllReadyH.nil
  (try simp only [List.getElem_toArray, List.getElem_cons_zero, List.getElem_cons_succ])
  go_simp
  go_at_call 28
  refine (RG.out _).mono ?_
  rintro e v1 ⟨⟨dp, dc, rfl, hdp⟩, n1, hv1⟩
  have HG1 : X.grownBy v1 (some g) := by rw [hv1]; exact grown_drewN (grown_drew _ _) _
  have HRV : v1.heap[g]? = some (.cells (vals0.map bV).toArray 4 (0, 0)) := by rw [hv1]; exact HMX.out.row
  have HDP := hidden hdp
  have HCV : Hid (∀ (ad : Addr) (v : Value), X.cell? ad = some v → v1.cell? ad = some v) := by intro ad v ha; rw [hv1]; exact ha
  clear hv1 hdp
  go_wp2_with fail
  refine hK.out _ _ (by first | assumption | exact KP.out _ (by assumption)) (fun hHeld1 => ?_)
  clear hK K
  (try simp only [Act.put]); (try simp only [List.setIfInBounds_toArray]); (try simp only [List.set_cons_zero, List.set_cons_succ])
  refine wpAnyH_ready (rs := [6]) (by kernel_rfl) (by simp) ?_
  refine AllReadyH.cons (o := _) rfl (fun K hK => ?_) AllReadyH.nil
  refine step_copy_grown rfl (.tmp 16) (.tmp 20) 22 22 rfl 4 Try.underlying22 bool_size _ _ _ _ _ _ rfl rfl g lo (vals0.map bV) 4 HRV (init.map bV) HNM.out (HPOS.out _ _ HDP.out HCV.out) HFIT.out (oneB init) ?_
  intro v3 hg3 hr3
  have HG3 : X.grownBy v3 (some g) := grown_trans HG1 hr3
  clear hr3
  refine hK.out _ _ (by first | assumption | exact KP.out _ (by assumption)) (fun hHeld3 => ?_)
  clear hK K
  (try simp only [Act.put]); (try simp only [List.setIfInBounds_toArray]); (try simp only [List.set_cons_zero, List.set_cons_succ])
  refine wpAnyH_done (by kernel_rfl) ?_ _
  refine NoPanic.normal ?_
  have HSP : Hid (v3.heap[g]? = some (.cells ((splice vals0 lo init).map bV).toArray 4 (0, 0))) := by
    have := hg3.out
    rw [splice_map] at this
    exact this
  have HG4 := hidden HG3
  have HMV : Hid (MkT v3 mk gb g ⟨sa1, sc1, sa2, sc2, sa3, sc3, sa4, sc4⟩ N (splice vals0 lo init)) := HMX.out.turn HG4.out hmg hbg HSL.out HSP.out
  have HBE : Hid (Below w.heap.size w v3) := HBX.out.trans (below_grown HG4.out HBX.out.size (fun k hk => by cases hk; exact hgw))
  clear hg3
  go_wp2_with fail
  go_ret
  exact ⟨mk, g, rfl, HMV.out, hgw, hmw, hmg, HBE.out⟩

end Go.Proofs.Ytcmfiamejncboaa
