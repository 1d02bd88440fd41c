import Derived.Test.YtdiahnommkhkiaaDoorArC
namespace Go.Proofs.YtdiahnommkhkiaaDoor
open Go.RowKit

def aigT (G : GrD) : List UInt8 := headT [97, 97, 103] G ++ cat fI G.ins.toNat ++ cat (fL G G.ins.toNat) G.lats.length ++ cat (fO G) G.outs.length ++ cat (fA G (firstN G)) G.ands.length
/-- how long lines are -/
structure Lens (G : GrD) (ni first : Nat) : Prop where
  i : ∀ i, i < ni → (fI i).length ≤ 60
  l : ∀ i, i < G.lats.length → (fL G ni i).length ≤ 60
  o : ∀ i, i < G.outs.length → (fO G i).length ≤ 60
  a : ∀ i, i < G.ands.length → (fA G first i).length ≤ 60
theorem lens_of {G : GrD} {ni n : Nat} (hF : FineG G ni n) : Lens G ni (firstN G) := by
  have h1 := hF.first
  have h2 := hF.all
  have h3 := hF.le
  have h4 := hF.ll
  refine ⟨fun i hi => ?_, fun i hi => ?_, fun i hi => ?_, fun i hi => ?_⟩
  · unfold fI
    have := decI_len (x := 2 * (1 + (i : Int))) (by omega)
    simp; omega
  · unfold fL
    obtain ⟨x, hx⟩ := getElem_lt hi
    rw [hx]
    have hin := hF.lats x (List.mem_of_getElem? hx)
    have := decI_len (x := 2 * (1 + (ni : Int) + (i : Int))) (by omega)
    have := firstT_len (l := x) (by omega)
    simp; omega
  · unfold fO
    obtain ⟨x, hx⟩ := getElem_lt hi
    rw [hx]
    have hin := hF.outs x (List.mem_of_getElem? hx)
    have := decI_len (x := x) (by omega)
    simp; omega
  · unfold fA
    obtain ⟨x, hx⟩ := getElem_lt hi
    rw [hx]
    have hin := hF.ands i x hx
    have := decI_len (x := 2 * ((firstN G : Int) + (i : Int))) (by omega)
    have := decI_len (x := x.x) (by omega)
    have := decI_len (x := x.y) (by omega)
    simp; omega
theorem headT_len {G : GrD} {ni n : Nat} (hF : FineG G ni n) (wd : List UInt8) (h : wd.length ≤ 10) : (headT wd G).length ≤ 100 := by
  have h1 := hF.first
  have h2 := hF.all
  have h3 := hF.le
  have h4 := hF.ll
  have h5 := hF.lo
  have h6 := hF.ins
  unfold headT
  have := decI_len (x := G.ins + G.lats.length + G.ands.length) (by omega)
  have := decI_len (x := G.ins) (by omega)
  have := decI_len (x := (G.lats.length : Int)) (by omega)
  have := decI_len (x := (G.outs.length : Int)) (by omega)
  have := decI_len (x := (G.ands.length : Int)) (by omega)
  simp; omega

set_option maxRecDepth 100000 in
set_option maxHeartbeats 8000000 in
theorem aigText_any (B : Nat) (w : World) (S : GrS) (G : GrD) (h : GrAt B w S G) (hB : B ≤ w.heap.size) (hok : GrOk G = true) :
    Calls Tryd.prog 6 #[.agg (S.cells G)] w fun e w' => e = .returned (.string (bs (aigT G))) ∧ Below w.heap.size w w' := by
  obtain ⟨ni, n, hF⟩ := fine_of hok
  have HD : Hid (∀ w' : World, Calls Tryd.prog 14 #[.string (bs [97, 97, 103]), .agg (S.cells G)] w' fun e w'' => e = .returned (.string (bs (headT [97, 97, 103] G))) ∧ Below w'.heap.size w' w'') := fun w' => head_any [97, 97, 103] (by decide) w' S G ni n hF
  have hl0 := headT_len hF [97, 97, 103] (by decide)
  have HLE := hidden (lens_of hF)
  have HF := hidden hF
  have HIN := hidden hF.ins
  have f1 := hF.first
  have f2 := hF.all
  have f3 := hF.le
  have f4 := hF.ll
  have f5 := hF.lo
  obtain ⟨first, hfd⟩ : ∃ f, f = firstN G := ⟨_, rfl⟩
  have HFD := hidden hfd
  rw [← hfd] at f1 f2
  rw [← hfd] at HLE
  have HAT := hidden h
  obtain ⟨t0, HT0⟩ : ∃ t0, Hid (headT [97, 97, 103] G = t0) := ⟨_, rfl⟩
  rw [HT0.out] at HD hl0
  have hfl : 1 + ni + G.lats.length ≤ first := by omega
  have hfl' : first ≤ 1 + ni + G.lats.length := by omega
  have hcs : S.cells G = #[.int .i64 (ni : Int), .slice S.a1 G.lats.length S.c1, .slice S.a2 G.ands.length S.c2, .slice S.a3 G.outs.length S.c3] := by unfold GrS.cells; rw [HIN.out]
  rw [hcs] at HD ⊢
  clear hcs h hF hok hfd f1
  go_enter Tryd.func6, Tryd.ntmps6
  go_upto_region 1 with fail
  generalize hW : World.alloc w _ = W0
  obtain ⟨gx, hgd⟩ : ∃ x, x = w.heap.size := ⟨_, rfl⟩
  have HB0 : Hid (Below w.heap.size w W0) := by rw [← hW]; exact (Below.refl _ _).alloc (Nat.le_refl _) _
  have HQ : Hid (∀ j, W0.cell? ⟨gx, j, none⟩ = (#[.int .i64 (ni : Int), .slice S.a1 G.lats.length S.c1, .slice S.a2 G.ands.length S.c2, .slice S.a3 G.outs.length S.c3] : Array Value)[j]?) := by
    rw [← hW, hgd]; intro j; exact cell_new rfl
  have hN : gx < W0.heap.size := by rw [← hW, hgd]; simp
  rw [← hgd]
  clear hW hgd
  have q0 := HQ.out 0
  have q1 := HQ.out 1
  have q2 := HQ.out 2
  have q3 := HQ.out 3
  simp at q0 q1 q2 q3
  go_wp2_with fail
  go_at_call 14
  refine (HD.out _).mono ?_
  rintro e w1 ⟨rfl, hb1⟩
  have HB1 := hidden hb1
  have hs1 := hb1.size
  have HBw1 : Hid (Below w.heap.size w w1) := HB0.out.trans (hb1.mono HB0.out.size)
  have K0 : Hid (∀ w', Below w1.heap.size w1 w' → ∀ j, w'.cell? ⟨gx, j, none⟩ = (#[.int .i64 (ni : Int), .slice S.a1 G.lats.length S.c1, .slice S.a2 G.ands.length S.c2, .slice S.a3 G.outs.length S.c3] : Array Value)[j]?) := fun w' hb j => (hb.cell (p := ⟨gx, j, none⟩) (by show gx < _; omega)).trans ((HB1.out.cell (p := ⟨gx, j, none⟩) hN).trans (HQ.out j))
  have KA : Hid (∀ w', Below w1.heap.size w1 w' → GrAt B w' S G) := fun w' hb => HAT.out.to ((HBw1.out.trans (hb.mono HBw1.out.size)).mono hB)
  have hsw := HBw1.out.size
  clear hb1 q0 q1 q2 q3 HQ HD HB0 HAT HB1
  go_upto_block 0 with fail
  refine atIns w1 t0 (by omega) gx (by omega) ni (by simpa using K0.out w1 (Below.refl _ _) 0) (by omega) HLE.out.i _ _ _ _ _ _ _ _ _ _ _ _ _ _ _ _ _ _ _ _ _ _ _ _ _ _ _ _ _ _ _ _ _ _ _ _ _ _ _ _ _ _ _ _ _ _ _ _ _ _ _ _ _ _ _ _ _ _ _ _ _ _ _ _ _ _ _ _ _ _ _ _ _ _ _ _ _ _ _ _ _ _ _ _ _ _ _ _ _ _ _ _ _ _ _ _ _ _ _ _ _ _ _ _ (hidden ?_)
  intro w2 v4 v11 v12 v13 v14 v15 v16 v17 v18 v19 v20 v21 v22 v23 hcut
  have HB2 := hidden hcut
  have hs2 := hcut.size
  clear hcut
  have hlI : (cat fI ni).length ≤ 60 * ni := cat_len ni HLE.out.i
  generalize hT1 : t0 ++ cat fI ni = t1
  have HT1 := hidden hT1
  have hl1 : t1.length ≤ 100 + 60 * ni := by rw [← hT1, List.length_append]; omega
  clear hT1
  go_upto_block 2 with fail
  refine atLats w2 t1 (by omega) gx (by omega) G B n ni S.a1 S.c1 (by simpa using K0.out w2 HB2.out 1) (by simpa using K0.out w2 HB2.out 0) (by omega) (KA.out w2 HB2.out).l (by omega) f3 HF.out.lats (by omega) HLE.out.l _ _ _ _ _ _ _ _ _ _ _ _ _ _ _ _ _ _ _ _ _ _ _ _ _ _ _ _ _ _ _ _ _ _ _ _ _ _ _ _ _ _ _ _ _ _ _ _ _ _ _ _ _ _ _ _ _ _ _ _ _ _ _ _ _ _ _ _ _ _ _ _ _ _ _ _ _ _ _ _ _ _ _ _ _ _ _ _ _ _ _ _ _ _ _ _ _ _ _ _ _ _ _ _ (hidden ?_)
  intro w3 v5 v24 v25 v26 v27 v28 v29 v30 v31 v32 v33 v34 v35 v36 v37 v38 v39 v40 v41 v42 v43 v44 v45 v46 v47 hcut
  have HB3 : Hid (Below w1.heap.size w1 w3) := HB2.out.trans (hcut.mono HB2.out.size)
  have hs3 := hcut.size
  clear hcut
  have hlL : (cat (fL G ni) G.lats.length).length ≤ 60 * G.lats.length := cat_len _ HLE.out.l
  generalize hT2 : t1 ++ cat (fL G ni) G.lats.length = t2
  have HT2 := hidden hT2
  have hl2 : t2.length ≤ 100 + 60 * ni + 60 * G.lats.length := by rw [← hT2, List.length_append]; omega
  clear hT2
  go_upto_block 4 with fail
  refine atOuts w3 t2 (by omega) gx (by omega) G B n S.a3 S.c3 (by simpa using K0.out w3 HB3.out 3) (KA.out w3 HB3.out).o (by omega) f3 HF.out.outs f5 HLE.out.o _ _ _ _ _ _ _ _ _ _ _ _ _ _ _ _ _ _ _ _ _ _ _ _ _ _ _ _ _ _ _ _ _ _ _ _ _ _ _ _ _ _ _ _ _ _ _ _ _ _ _ _ _ _ _ _ _ _ _ _ _ _ _ _ _ _ _ _ _ _ _ _ _ _ _ _ _ _ _ _ _ _ _ _ _ _ _ _ _ _ _ _ _ _ _ _ _ _ _ _ _ _ _ _ (hidden ?_)
  intro w4 v6 v48 v49 v50 v51 v52 v53 v54 v55 v56 v57 v58 v59 v60 v61 v62 v63 hcut
  have HB4 : Hid (Below w1.heap.size w1 w4) := HB3.out.trans (hcut.mono HB3.out.size)
  have hs4 := hcut.size
  clear hcut
  have hlO : (cat (fO G) G.outs.length).length ≤ 60 * G.outs.length := cat_len _ HLE.out.o
  generalize hT3 : t2 ++ cat (fO G) G.outs.length = t3
  have HT3 := hidden hT3
  have hl3 : t3.length ≤ 100 + 60 * ni + 60 * G.lats.length + 60 * G.outs.length := by rw [← hT3, List.length_append]; omega
  clear hT3
  have r0 := K0.out w4 HB4.out 0
  have r1 := K0.out w4 HB4.out 1
  simp at r0 r1
  have eA : IntKind.i64.wrap ((1 : Int) + (ni : Int)) = (1 : Int) + (ni : Int) := wrapI _ (by omega) (by omega)
  have eB : IntKind.i64.wrap ((1 : Int) + (ni : Int) + (G.lats.length : Int)) = (first : Int) := by rw [wrapI _ (by omega) (by omega)]; omega
  go_upto_block 6 with fail
  refine atAnds w4 t3 (by omega) gx (by omega) G B n first S.a2 S.c2 (by simpa using K0.out w4 HB4.out 2) (KA.out w4 HB4.out).a (by omega) f3 f2 (by rw [HFD.out]; exact HF.out.ands) HLE.out.a _ _ _ _ _ _ _ _ _ _ _ _ _ _ _ _ _ _ _ _ _ _ _ _ _ _ _ _ _ _ _ _ _ _ _ _ _ _ _ _ _ _ _ _ _ _ _ _ _ _ _ _ _ _ _ _ _ _ _ _ _ _ _ _ _ _ _ _ _ _ _ _ _ _ _ _ _ _ _ _ _ _ _ _ _ _ _ _ _ _ _ _ _ _ _ _ _ _ _ _ _ _ _ (hidden ?_)
  intro w5 v8 v71 v72 v73 v74 v75 v76 v77 v78 v79 v80 v81 v82 v83 v84 v85 v86 v87 v88 v89 v90 v91 v92 v93 v94 v95 v96 v97 v98 v99 v100 v101 v102 v103 hcut
  have HB5 : Hid (Below w1.heap.size w1 w5) := HB4.out.trans (hcut.mono HB4.out.size)
  clear hcut
  go_wp2
  go_ret
  refine ⟨ret_str (congrArg bs ?_), HBw1.out.trans (HB5.out.mono HBw1.out.size)⟩
  unfold aigT
  rw [HIN.out, show ((ni : Int)).toNat = ni by omega, ← HFD.out, HT0.out, HT1.out, HT2.out, HT3.out]

end Go.Proofs.YtdiahnommkhkiaaDoor
