import Derived.Test.YtmifbcpinhpnnaaDoorAsD
namespace Go.Proofs.YtmifbcpinhpnnaaDoor
open Go.RowKit

theorem txt_conv (w : World) (t : List UInt8) (cap : Nat) (W : World) (hc : cap = grownCap w t.length 0 5) (hW : W = Lib.bytesWorld w 5 (bs t)) (hl : t.length ≤ 1000000000) : Txt w.heap.size W (.slice (some ⟨w.heap.size, 0, none⟩) t.length cap) t := by
  have hge := grownCap_ge w t.length 0 5
  have hle := grownCap_le_maxLen w t.length 0 5 (by simp only [maxLen]; omega)
  have hsz : (Lib.bytesCells w 5 (bs t)).size = cap := by
    rw [hc]; unfold Lib.bytesCells; simp [bs, ByteArray.size]; omega
  refine ⟨bC8_len t, .inr ⟨w.heap.size, cap, Lib.bytesCells w 5 (bs t), (_, _), rfl, Nat.le_refl _, by rw [hW]; exact Lib.bytesWorld_at_new _ _ _, .inr (by rw [hsz]; exact Nat.le_refl _), by rw [hc]; exact hge, by rw [hc]; exact hle, hsz, ?_⟩⟩
  have e : (Lib.bytesCells w 5 (bs t)).toList = bC8 t ++ List.replicate (grownCap w (bs t).size 0 5 - (bs t).size) (.int .u8 0) := by
    unfold Lib.bytesCells; simp [bs, Lib.byteCells]
  rw [e]
  exact List.take_left' (bC8_len t)

set_option maxRecDepth 100000 in
set_option maxHeartbeats 8000000 in
theorem aigPack_any (B : Nat) (w : World) (S : GrS) (G : GrD) (h : GrAt B w S G) (hB : B ≤ w.heap.size) (hok : GrOk G = true) :
    Calls Tryd.prog 12 #[.agg (S.cells G)] w fun e w' => (∃ v B', e = .returned v ∧ w.heap.size ≤ B' ∧ Txt B' w' v (packT G)) ∧ Below w.heap.size w w' := by
  obtain ⟨ni, n, hF⟩ := fine_of hok
  have HD : Hid (∀ w' : World, Calls Tryd.prog 16 #[.string (bs [97, 105, 103]), .agg (S.cells G)] w' fun e w'' => e = .returned (.string (bs (headT [97, 105, 103] G))) ∧ Below w'.heap.size w' w'') := fun w' => head_any [97, 105, 103] (by decide) w' S G ni n hF
  have hl0 := headT_len hF [97, 105, 103] (by decide)
  have HLE := hidden (lens_of hF)
  have HLP : Hid ((∀ i, i < G.lats.length → (fF G i).length ≤ 60) ∧ (∀ i, i < G.ands.length → (pA pkT G (firstN G) i).length ≤ 60)) := ⟨fun i hi => by rw [← pL_bytes G ni i]; exact (lensP_bytes hF).1 i hi, (lensP_bytes hF).2⟩
  have HF := hidden hF
  have HIN := hidden hF.ins
  have f1 := hF.first
  have f2 := hF.all
  have f3 := hF.le
  have f4 := hF.ll
  have f5 := hF.lo
  obtain ⟨first, hfd⟩ : ∃ f, f = firstN G := ⟨_, rfl⟩
  have HFD := hidden hfd
  rw [← hfd] at f1 f2
  rw [← hfd] at HLE HLP
  have HAT := hidden h
  obtain ⟨t0, HT0⟩ : ∃ t0, Hid (headT [97, 105, 103] G = t0) := ⟨_, rfl⟩
  rw [HT0.out] at HD hl0
  have hfl : 1 + ni + G.lats.length ≤ first := by omega
  have hfl' : first ≤ 1 + ni + G.lats.length := by omega
  have hcs : S.cells G = #[.int .i64 (ni : Int), .slice S.a1 G.lats.length S.c1, .slice S.a2 G.ands.length S.c2, .slice S.a3 G.outs.length S.c3] := by unfold GrS.cells; rw [HIN.out]
  rw [hcs] at HD ⊢
  clear hcs h hF hok hfd f1
  go_enter Tryd.func12, Tryd.ntmps12
  go_upto_region 1 with fail
  generalize hW : World.alloc w _ = W0
  obtain ⟨gx, hgd⟩ : ∃ x, x = w.heap.size := ⟨_, rfl⟩
  have HB0 : Hid (Below w.heap.size w W0) := by rw [← hW]; exact (Below.refl _ _).alloc (Nat.le_refl _) _
  have HQ : Hid (∀ j, W0.cell? ⟨gx, j, none⟩ = (#[.int .i64 (ni : Int), .slice S.a1 G.lats.length S.c1, .slice S.a2 G.ands.length S.c2, .slice S.a3 G.outs.length S.c3] : Array Value)[j]?) := by
    rw [← hW, hgd]; intro j; exact cell_new rfl
  have hN : gx < W0.heap.size := by rw [← hW, hgd]; simp
  rw [← hgd]
  clear hW hgd
  have q0 := HQ.out 0
  have q1 := HQ.out 1
  have q2 := HQ.out 2
  have q3 := HQ.out 3
  simp at q0 q1 q2 q3
  go_wp2_with fail
  go_at_call 16
  refine (HD.out _).mono ?_
  rintro e w1 ⟨rfl, hb1⟩
  have HB1 := hidden hb1
  have hs1 := hb1.size
  have HBw1 : Hid (Below w.heap.size w w1) := HB0.out.trans (hb1.mono HB0.out.size)
  have K0 : Hid (∀ w', Below w1.heap.size w1 w' → ∀ j, w'.cell? ⟨gx, j, none⟩ = (#[.int .i64 (ni : Int), .slice S.a1 G.lats.length S.c1, .slice S.a2 G.ands.length S.c2, .slice S.a3 G.outs.length S.c3] : Array Value)[j]?) := fun w' hb j => (hb.cell (p := ⟨gx, j, none⟩) (by show gx < _; omega)).trans ((HB1.out.cell (p := ⟨gx, j, none⟩) hN).trans (HQ.out j))
  have KA : Hid (∀ w', Below w1.heap.size w1 w' → GrAt B w' S G) := fun w' hb => HAT.out.to ((HBw1.out.trans (hb.mono HBw1.out.size)).mono hB)
  have hsw := HBw1.out.size
  clear hb1 q0 q1 q2 q3 HQ HD HB0 HAT HB1
  go_upto_block 0 with fail
  refine apLats w1 t0 (by omega) gx (by omega) G B n S.a1 S.c1 (by simpa using K0.out w1 (Below.refl _ _) 1) (KA.out w1 (Below.refl _ _)).l (by omega) f3 HF.out.lats (by omega) HLP.out.1 _ _ _ _ _ _ _ _ _ _ _ _ _ _ _ _ _ _ _ _ _ _ _ _ _ _ _ _ _ _ _ _ _ _ _ _ _ _ _ _ _ _ _ _ _ _ _ _ _ _ _ _ _ _ _ _ _ _ _ _ _ _ _ _ _ _ _ _ _ _ _ _ _ _ _ _ _ _ _ _ _ _ _ _ _ _ _ _ _ _ _ _ _ _ _ _ _ _ _ _ _ _ _ (hidden ?_)
  intro w2 v4 v13 v14 v15 v16 v17 v18 v19 v20 v21 v22 v23 v24 v25 v26 v27 hcut
  have HB2 := hidden hcut
  have hs2 := hcut.size
  clear hcut
  have hlL : (cat (fF G) G.lats.length).length ≤ 60 * G.lats.length := cat_len _ HLP.out.1
  generalize hT1 : t0 ++ cat (fF G) G.lats.length = t1
  have HT1 := hidden hT1
  have hl1 : t1.length ≤ 100 + 60 * G.lats.length := by rw [← hT1, List.length_append]; omega
  clear hT1
  go_upto_block 2 with fail
  refine apOuts w2 t1 (by omega) gx (by omega) G B n S.a3 S.c3 (by simpa using K0.out w2 HB2.out 3) (KA.out w2 HB2.out).o (by omega) f3 HF.out.outs f5 HLE.out.o _ _ _ _ _ _ _ _ _ _ _ _ _ _ _ _ _ _ _ _ _ _ _ _ _ _ _ _ _ _ _ _ _ _ _ _ _ _ _ _ _ _ _ _ _ _ _ _ _ _ _ _ _ _ _ _ _ _ _ _ _ _ _ _ _ _ _ _ _ _ _ _ _ _ _ _ _ _ _ _ _ _ _ _ _ _ _ _ _ _ _ _ _ _ _ _ _ _ _ _ _ _ _ (hidden ?_)
  intro w3 v5 v28 v29 v30 v31 v32 v33 v34 v35 v36 v37 v38 v39 v40 v41 v42 v43 hcut
  have HB3 : Hid (Below w1.heap.size w1 w3) := HB2.out.trans (hcut.mono HB2.out.size)
  have hs3 := hcut.size
  clear hcut
  have hlO : (cat (fO G) G.outs.length).length ≤ 60 * G.outs.length := cat_len _ HLE.out.o
  generalize hT2 : t1 ++ cat (fO G) G.outs.length = t2
  have HT2 := hidden hT2
  have hl2 : t2.length ≤ 100 + 60 * G.lats.length + 60 * G.outs.length := by rw [← hT2, List.length_append]; omega
  clear hT2
  obtain ⟨W4, HW4⟩ : ∃ W4, Hid (W4 = Lib.bytesWorld w3 5 (bs t2)) := ⟨_, rfl⟩
  obtain ⟨cap, HCP⟩ : ∃ c, Hid (c = grownCap w3 t2.length 0 5) := ⟨_, rfl⟩
  have hcv : (convert 9 33 (.string (bs t2))).run Tryd.prog w3 = .ok (.slice (some ⟨w3.heap.size, 0, none⟩) t2.length cap) W4 := by
    rw [HW4.out, HCP.out]
    have := Lib.run_convert_string_bytes (P := Tryd.prog) w3 9 33 5 (bs t2) Tryd.underlying9 Tryd.underlying33 Tryd.underlying5
    rw [bs_size] at this
    exact this
  have HO4 := hidden (txt_conv w3 t2 cap W4 HCP.out HW4.out (by omega))
  have HB34 : Hid (Below w3.heap.size w3 W4) := by
    rw [HW4.out]
    exact ⟨rfl, rfl, rfl, by rw [Lib.bytesWorld_size]; omega, fun k hk => Lib.bytesWorld_at_old _ _ _ k hk⟩
  have hs4 := HB34.out.size
  have HB4 : Hid (Below w1.heap.size w1 W4) := HB3.out.trans (HB34.out.mono HB3.out.size)
  have r0 := K0.out W4 HB4.out 0
  have r1 := K0.out W4 HB4.out 1
  simp at r0 r1
  have eA : IntKind.i64.wrap ((1 : Int) + (ni : Int)) = (1 : Int) + (ni : Int) := wrapI _ (by omega) (by omega)
  have eB : IntKind.i64.wrap ((1 : Int) + (ni : Int) + (G.lats.length : Int)) = (first : Int) := by rw [wrapI _ (by omega) (by omega)]; omega
  go_upto_block 4 with fail
  refine apAnds W4 w3.heap.size (.slice (some ⟨w3.heap.size, 0, none⟩) t2.length cap) t2 HO4 hs4 (by omega) gx (by omega) G B n first S.a2 S.c2 (by simpa using K0.out W4 HB4.out 2) (KA.out W4 HB4.out).a (by omega) f3 f2 (by rw [HFD.out]; exact HF.out.ands) HLP.out.2 _ _ _ _ _ _ _ _ _ _ _ _ _ _ _ _ _ _ _ _ _ _ _ _ _ _ _ _ _ _ _ _ _ _ _ _ _ _ _ _ _ _ _ _ _ _ _ _ _ _ _ _ _ _ _ _ _ _ _ _ _ _ _ _ _ _ _ _ _ _ _ _ _ _ _ _ _ _ _ _ _ _ _ _ _ _ _ _ _ _ _ _ _ _ _ _ _ _ _ _ _ _ (hidden ?_)
  intro w5 v6 v8 v9 v10 v53 v54 v55 v56 v57 v58 v59 v60 v61 v62 v63 v64 v65 v66 v67 v68 v69 v70 v71 v72 v73 v74 v75 v76 v77 v78 v79 v80 v81 v82 v83 v84 v85 v86 v87 v88 v89 v90 v91 v92 v93 v94 v95 v96 v97 v98 v99 v100 v101 v102 hcut
  obtain ⟨hT5, hS5⟩ := hcut
  have HB5 : Hid (Below w1.heap.size w1 w5) := HB4.out.trans ((hS5.below hs4 HO4.out.ge).mono (by omega))
  have HT5 : Hid (Txt w3.heap.size w5 v6 (packT G)) := by
    show Txt _ _ _ _
    unfold packT
    rw [← HFD.out, HT0.out, HT1.out, HT2.out]; exact hT5
  clear hT5 hS5
  go_wp2
  go_ret
  exact ⟨⟨v6, w3.heap.size, rfl, by omega, HT5.out⟩, HBw1.out.trans (HB5.out.mono HBw1.out.size)⟩

end Go.Proofs.YtmifbcpinhpnnaaDoor
