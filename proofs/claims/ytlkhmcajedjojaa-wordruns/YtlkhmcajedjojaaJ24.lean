import Derived.Test.YtlkhmcajedjojaaJ23
import Derived.Deep.RegionHeld3
namespace Go.Proofs.Ytlkhmcajedjojaa
open Go.RowKit

set_option maxRecDepth 100000 in
set_option maxHeartbeats 8000000 in
theorem cycOp (V : World) (N : NetD) (row regs : List Nat) (ms : List MD) (vs : List Nat) (d : NodeD) (ai ar am av : Option Addr) (ci cr cm cv nbk db : Nat) (HD : Hid (∀ (j : Nat) (v : Value), d.cells[j]? = some v → V.cell? ⟨db, j, none⟩ = some v)) (_hdb : db < V.heap.size) (hk : d.kind ≠ 30 ∧ d.kind ≠ 31 ∧ d.kind ≠ 32) (hok : OpOk d.kind d.width.toNat d.num.toNat (pairsOf N vs d.args)) (hw : 1 ≤ d.width) (hn0 : 0 ≤ d.num) (harg : RowAt V.heap.size V d.aa 1 (d.args.map intC)) (hin : ∀ a, a ∈ d.args → 0 ≤ a ∧ a < (vs.length : Int) ∧ a < (N.nodes.length : Int)) (hvs : RowAt V.heap.size V av 1 (vs.map uN)) (a1 : Option Addr) (c1 : Nat) (q1 : V.cell? ⟨nbk, 1, none⟩ = some (.slice a1 N.nodes.length c1)) (hnbk : nbk < V.heap.size) (hnod : RowAt V.heap.size V a1 4 (N.nodes.map NodeD.cells)) (hzw : ∀ z, z ∈ N.nodes → 1 ≤ z.width) (K' : Act → World → Prop) (Q0 : Exit → Act → World → Prop) (x0 x5 x6 x7 x8 x10 x13 x14 x15 x16 x17 x18 x19 x20 x21 x22 x23 x24 x25 x26 x27 x28 x30 x31 x32 x33 x34 x35 x36 x37 x38 x39 x40 x41 x42 x43 x44 x45 x46 x47 x48 x49 x50 x51 x52 x53 x54 x55 x56 x57 x58 x59 x60 x61 x62 x63 x64 x65 x66 x67 x68 x69 x70 x71 x72 x73 x74 x75 x76 x77 x78 x79 x80 x81 x82 x83 x84 x85 x86 x87 x88 x89 x90 x91 x92 x93 x94 x95 x96 x97 x98 x99 x100 x101 x102 x103 x104 x105 x106 x107 x108 x109 x110 x111 x112 x113 x114 x115 x116 x117 x118 x119 x120 x121 x122 x123 x124 x125 x126 x127 x128 x129 : Value)
    (HK : Hid (∀ (s : Value) (w' : World) (v13 v14 v15 v30 v31 v32 v33 v34 v35 v36 v37 v38 v39 v40 v41 v42 v43 v44 v45 v46 v47 v48 v49 v50 v51 v52 v53 v54 v55 v56 v57 v58 v59 v60 v61 v62 v63 v64 v65 v66 v67 v68 v69 v70 v71 v72 v73 v74 v75 v76 v77 v78 v79 v80 v81 v82 v83 v84 v85 v86 v87 v88 v89 v90 v91 v92 v93 v94 v95 v96 v97 v98 v99 v100 v101 v102 v103 v104 v105 v106 v107 v108 v109 v110 v111 v112 v113 v114 v115 v116 v117 v118 v119 v120 v121 v122 v123 v124 : Value), s = .int .u64 ((nodeVal N row regs (ms.map MD.l) vs d : Nat) : Int) → Hid (Below V.heap.size V w') → K' ⟨#[x0, .slice ai row.length ci, .slice ar regs.length cr, .slice am ms.length cm, .pointer (some ⟨nbk, 0, none⟩), x5, x6, x7, x8, .slice av vs.length cv, x10, .pointer (some ⟨db, 0, none⟩), s, v13, v14, v15, x16, x17, x18, x19, x20, x21, x22, x23, x24, x25, x26, x27, x28, .int .i64 d.kind, v30, v31, v32, v33, v34, v35, v36, v37, v38, v39, v40, v41, v42, v43, v44, v45, v46, v47, v48, v49, v50, v51, v52, v53, v54, v55, v56, v57, v58, v59, v60, v61, v62, v63, v64, v65, v66, v67, v68, v69, v70, v71, v72, v73, v74, v75, v76, v77, v78, v79, v80, v81, v82, v83, v84, v85, v86, v87, v88, v89, v90, v91, v92, v93, v94, v95, v96, v97, v98, v99, v100, v101, v102, v103, v104, v105, v106, v107, v108, v109, v110, v111, v112, v113, v114, v115, v116, v117, v118, v119, v120, v121, v122, v123, v124, x125, x126, x127, x128, x129], []⟩ w')) :
    Code.wp Try.prog ((Try.f36.body.bind (blockAt 2)).getD .skip) (Exit.then K' Q0) ⟨#[x0, .slice ai row.length ci, .slice ar regs.length cr, .slice am ms.length cm, .pointer (some ⟨nbk, 0, none⟩), x5, x6, x7, x8, .slice av vs.length cv, x10, .pointer (some ⟨db, 0, none⟩), .int .u64 0, x13, x14, x15, x16, x17, x18, x19, x20, x21, x22, x23, x24, x25, x26, x27, x28, .int .i64 d.kind, x30, x31, x32, x33, x34, x35, x36, x37, x38, x39, x40, x41, x42, x43, x44, x45, x46, x47, x48, x49, x50, x51, x52, x53, x54, x55, x56, x57, x58, x59, x60, x61, x62, x63, x64, x65, x66, x67, x68, x69, x70, x71, x72, x73, x74, x75, x76, x77, x78, x79, x80, x81, x82, x83, x84, x85, x86, x87, x88, x89, x90, x91, x92, x93, x94, x95, x96, x97, x98, x99, x100, x101, x102, x103, x104, x105, x106, x107, x108, x109, x110, x111, x112, x113, x114, x115, x116, x117, x118, x119, x120, x121, x122, x123, x124, x125, x126, x127, x128, x129], []⟩ V := by
  have d0 : V.cell? ⟨db, 0, none⟩ = some (.int .i64 d.kind) := HD.out 0 _ rfl
  have d1 : V.cell? ⟨db, 1, none⟩ = some (.int .i64 d.width) := HD.out 1 _ rfl
  have d2 : V.cell? ⟨db, 2, none⟩ = some (.int .u64 d.num) := HD.out 2 _ rfl
  have d3 : V.cell? ⟨db, 3, none⟩ = some (.slice d.aa d.args.length d.ac) := HD.out 3 _ rfl
  clear HD
  conv => arg 2; whnf
  obtain ⟨val, HVAL⟩ : ∃ val, Hid (nodeVal N row regs (ms.map MD.l) vs d = val) := ⟨_, rfl⟩
  rw [HVAL.out] at HK
  obtain ⟨ps, HPS⟩ : ∃ ps, Hid (pairsOf N vs d.args = ps) := ⟨_, rfl⟩
  have HVAL2 : Hid (opN d.kind d.width.toNat d.num.toNat ps = val) := by
    show _ = _
    rw [← HVAL.out, ← HPS.out]; unfold nodeVal; rw [if_neg hk.1, if_neg hk.2.1, if_neg hk.2.2]
  have hok' := hok
  rw [HPS.out] at hok'
  have HOK := hidden hok'
  have hpl : ps.length = d.args.length := by rw [← HPS.out]; simp [pairsOf]
  have hlen := hok'.len
  rw [hpl] at hlen
  simp only [big] at hlen
  have HAR := hidden harg
  have HVS := hidden hvs
  have HND := hidden hnod
  have hwd := hok'.w1
  have hwd2 := hok'.w2
  have HP : Hid (∀ (k : Nat) (a : Int), d.args[k]? = some a → ps[k]? = some (vAt vs a, (widthAt N a).toNat) ∧ 0 ≤ a ∧ a < (vs.length : Int) ∧ a < (N.nodes.length : Int)) := by
    intro k a ha
    refine ⟨?_, hin a (List.mem_of_getElem? ha)⟩
    rw [← HPS.out]; simp [pairsOf, ha]
  obtain ⟨i3, hi3, hz3, hs3, hb3⟩ := info_int
  obtain ⟨i33, hi33, hz33, hs33, hb33⟩ := info_u64
  have HI := hidden hi3
  have HZ := hidden hz3
  have HS := hidden hs3
  have HBY := hidden hb3
  have HI2 := hidden hi33
  have HZ2 := hidden hz33
  have HS2 := hidden hs33
  have HBY2 := hidden hb33
  clear HVAL HPS hok hok' harg hvs hnod hin hi3 hz3 hs3 hb3 hi33 hz33 hs33 hb33
  obtain ⟨kind, width, num, args, aa, ac⟩ := d
  simp only at *
  obtain ⟨h30, h31, h32⟩ := hk
  have b30 : (kind == 30) = false := by simp [h30]
  have b31 : (kind == 31) = false := by simp [h31]
  have b32 : (kind == 32) = false := by simp [h32]
  have cs : args.length = 0 ∨ (∃ ab ao vb vo mb mo, aa = some ⟨ab, ao, none⟩ ∧ av = some ⟨vb, vo, none⟩ ∧ a1 = some ⟨mb, mo, none⟩ ∧ ab < V.heap.size ∧ vb < V.heap.size ∧ mb < V.heap.size ∧ Hid (∀ (i : Nat), i < args.length → V.cell? ⟨ab, ao + i, none⟩ = some (.int .i64 (at0 args i))) ∧ Hid (∀ (i x : Nat), vs[i]? = some x → V.cell? ⟨vb, vo + i, none⟩ = some (.int .u64 (x : Int))) ∧ Hid (∀ (i : Nat) (z : NodeD), N.nodes[i]? = some z → V.cell? ⟨mb, mo + i * 4 + 1, none⟩ = some (.int .i64 z.width))) := by
    rcases Nat.eq_zero_or_pos args.length with h0 | h0
    · exact .inl h0
    · right
      have hp := HP.out 0 _ (at0_of h0)
      obtain ⟨ab, ao, ea, hab, hac⟩ := HAR.out.int h0
      obtain ⟨y, hy⟩ : ∃ y, vs[(at0 args 0).toNat]? = some y := ⟨vs[(at0 args 0).toNat]'(by omega), List.getElem?_eq_getElem (by omega)⟩
      obtain ⟨vb, vo, ev, hvb, -⟩ := rowU HVS.out hy
      obtain ⟨z, hz⟩ : ∃ z, N.nodes[(at0 args 0).toNat]? = some z := ⟨N.nodes[(at0 args 0).toNat]'(by omega), List.getElem?_eq_getElem (by omega)⟩
      obtain ⟨mb, mo, em, hmb, -⟩ := HND.out.el hz
      refine ⟨ab, ao, vb, vo, mb, mo, ea, ev, em, hab, hvb, hmb, hac, fun i x hx => ?_, fun i z hz => ?_⟩
      · obtain ⟨b, o, e, -, hc⟩ := rowU HVS.out hx
        rw [ev] at e; cases e; exact hc
      · obtain ⟨b, o, e, -, hc⟩ := HND.out.el hz
        rw [em] at e; cases e; exact hc 1 _ rfl
  clear HAR HVS HND
  rcases cs with h0 | ⟨ab, ao, vb, vo, mb, mo, rfl, rfl, rfl, hab, hvb, hmb, Hac, Hvc, Hmc⟩
  · go_wp2_with fail
    go_loopw [13, 14, 15] (fun a b i' w' => ∃ (k : Nat), k ≤ args.length ∧ i' = .int .i64 k ∧ Hid (w'.ownsRow V.heap.size 33 1 a k ((ps.take k).map (fun p : Nat × Nat => Value.int .u64 (p.1 : Int)))) ∧ Hid (w'.ownsRow V.heap.size 3 1 b k ((ps.take k).map (fun p : Nat × Nat => Value.int .i64 (p.2 : Int)))) ∧ Hid (Sep a b) ∧ Hid (Below V.heap.size V w')) (fun _ _ i' _ => args.length - (intOf i').toNat)
    case atStart => exact ⟨0, Nat.zero_le _, rfl, World.ownsRow_nil _ _ _ _, World.ownsRow_nil _ _ _ _, .inl rfl, Below.refl _ _⟩
    case round =>
      obtain ⟨k, hk, rfl, HOA, HOB, HSP, HBr⟩ := hrel
      have r3 := (HBr.out.cell (p := ⟨db, 3, none⟩) _hdb).trans d3
      by_cases hlt : k < args.length
      · omega
      · have hge : ¬ ((k : Int) < (args.length : Int)) := by omega
        have r0 := (HBr.out.cell (p := ⟨db, 0, none⟩) _hdb).trans d0
        have r1 := (HBr.out.cell (p := ⟨db, 1, none⟩) _hdb).trans d1
        have r2 := (HBr.out.cell (p := ⟨db, 2, none⟩) _hdb).trans d2
        have hkE : k = ps.length := by omega
        have hOA := HOA.out
        have hOB := HOB.out
        rw [List.take_of_length_le (by omega)] at hOA hOB
        obtain ⟨-, aw, cw, rfl, ra⟩ := ownRow (g := (fun p : Nat × Nat => Value.int .u64 (p.1 : Int))) hOA
        obtain ⟨-, bw, dw, rfl, rb⟩ := ownRow (g := (fun p : Nat × Nat => Value.int .i64 (p.2 : Int))) hOB
        have OPc : Hid (Calls Try.prog 39 #[.int .i64 kind, .int .i64 width, .int .u64 num, .slice aw k cw, .slice bw k dw] wr fun e w' => e = .returned (.int .u64 (val : Int)) ∧ ∃ q, w' = wr.drewN q) := by
          have := operate_any wr.heap.size wr kind width.toNat num.toNat ps HOK.out aw bw cw dw ra rb
          rw [← hkE, show ((width.toNat : Nat) : Int) = width by omega, show ((num.toNat : Nat) : Int) = num by omega, HVAL2.out] at this
          exact this
        clear HOA HOB HSP hOA hOB ra rb HVAL2 HOK HP hkE hpl hk h0
        go_wp2_with (go_at_call 39; refine OPc.out.mono ?_; rintro e w2 ⟨rfl, q, rfl⟩)
        exact HK.out _ _ _ _ _ _ _ _ _ _ _ _ _ _ _ _ _ _ _ _ _ _ _ _ _ _ _ _ _ _ _ _ _ _ _ _ _ _ _ _ _ _ _ _ _ _ _ _ _ _ _ _ _ _ _ _ _ _ _ _ _ _ _ _ _ _ _ _ _ _ _ _ _ _ _ _ _ _ _ _ _ _ _ _ _ _ _ _ _ _ _ _ _ _ _ _ _ _ _ _ rfl (Below.drewN HBr.out _)
  · go_wp2_with fail
    go_loopw [13, 14, 15] (fun a b i' w' => ∃ (k : Nat), k ≤ args.length ∧ i' = .int .i64 k ∧ Hid (w'.ownsRow V.heap.size 33 1 a k ((ps.take k).map (fun p : Nat × Nat => Value.int .u64 (p.1 : Int)))) ∧ Hid (w'.ownsRow V.heap.size 3 1 b k ((ps.take k).map (fun p : Nat × Nat => Value.int .i64 (p.2 : Int)))) ∧ Hid (Sep a b) ∧ Hid (Below V.heap.size V w')) (fun _ _ i' _ => args.length - (intOf i').toNat)
    case atStart => exact ⟨0, Nat.zero_le _, rfl, World.ownsRow_nil _ _ _ _, World.ownsRow_nil _ _ _ _, .inl rfl, Below.refl _ _⟩
    case round =>
      obtain ⟨k, hk, rfl, HOA, HOB, HSP, HBr⟩ := hrel
      have r3 := (HBr.out.cell (p := ⟨db, 3, none⟩) _hdb).trans d3
      by_cases hlt : k < args.length
      · have ca := Hac.out k hlt
        have hp := HP.out k _ (at0_of hlt)
        obtain ⟨y, hy⟩ : ∃ y, vs[(at0 args k).toNat]? = some y := ⟨vs[(at0 args k).toNat]'(by omega), List.getElem?_eq_getElem (by omega)⟩
        have cy := Hvc.out _ y hy
        obtain ⟨z, hz⟩ : ∃ z, N.nodes[(at0 args k).toNat]? = some z := ⟨N.nodes[(at0 args k).toNat]'(by omega), List.getElem?_eq_getElem (by omega)⟩
        have cz := Hmc.out _ z hz
        have e1 : vAt vs (at0 args k) = y := by unfold vAt; rw [hy]; rfl
        have e2 : widthAt N (at0 args k) = z.width := by unfold widthAt; rw [hz]; rfl
        have hzr := hzw z (List.mem_of_getElem? hz)
        rw [e1, e2] at hp
        generalize at0 args k = a at *
        have hzz : z.width = ((z.width.toNat : Nat) : Int) := by omega
        rw [hzz] at cz
        generalize z.width.toNat = wd at *
        have caR := (HBr.out.cell (p := ⟨ab, ao + k, none⟩) hab).trans ca
        have cyR := (HBr.out.cell (p := ⟨vb, vo + a.toNat, none⟩) hvb).trans cy
        have q1R := (HBr.out.cell (p := ⟨nbk, 1, none⟩) hnbk).trans q1
        have czR := (HBr.out.cell (p := ⟨mb, mo + a.toNat * 4 + 1, none⟩) hmb).trans cz
        obtain ⟨hpk, ha0, ha1, ha2⟩ := hp
        have HPK := hidden hpk
        have hltI : (k : Int) < (args.length : Int) := by omega
        have e3 : IntKind.i64.wrap ((k : Int) + 1) = (k : Int) + 1 := wrapI _ (by omega) (by omega)
        have hm1 : k + 1 ≤ maxLen := by simp only [maxLen]; omega
        have hm2 : (k + 1) * 8 ≤ 140737488355328 := by omega
        have hsz := HBr.out.size
        have hm3 : V.heap.size ≤ (wr.alloc (.cells #[.int .u64 (y : Int)] 33)).heap.size := by simp; omega
        clear hy hz e1 e2 hzr hzz hpk
        have tok : True := trivial
        go_wp2_with (have _t := tok; at_builtin; (refine wpList_append_lies _ rfl (.tmp 37) (.tmp 46) 34 rfl V.heap.size 33 i33 _ 1 8 Try.underlying34 HI2.out HZ2.out HS2.out HBY2.out rfl (by decide) u13 k _ rfl (HOA.out.alloc _) ⟨wr.heap.size, 0, none⟩ 1 1 [.int .u64 (y : Int)] rfl rfl (World.news_of_block (heap_new _ _)) (by simp [Value.oneCell']) (by decide) hm1 hm2 hm3 _ rfl ?_; intro g cap w5 hown hgrow hat hlt5; clear tok))
        have HB5 : Hid (Below V.heap.size V w5) := grown_plain HBr.out HOA.out hgrow
        have HOA5 : Hid (w5.ownsRow V.heap.size 33 1 (.slice (some ⟨g, 0, none⟩) (k + 1) cap) (k + 1) ((ps.take (k + 1)).map (fun p : Nat × Nat => Value.int .u64 (p.1 : Int)))) := by
          have := hown
          rw [take_next _ k _ HPK.out, List.map_append]
          exact this
        have HOB5 : Hid (w5.ownsRow V.heap.size 3 1 u14 k ((ps.take k).map (fun p : Nat × Nat => Value.int .i64 (p.2 : Int)))) := (HOB.out.alloc _).kept hgrow HSP.out.other
        have HSP5 : Hid (Sep (.slice (some ⟨g, 0, none⟩) (k + 1) cap) u14) := HSP.out.new (HOB.out.alloc _) hat (Nat.le_refl _)
        have hsz5 := HB5.out.size
        have hm4 : V.heap.size ≤ ((w5.alloc (.cells #[.int .i64 (wd : Int)] 3)).drew).heap.size := by simp; omega
        clear hown hgrow hat hlt5 hm3 HOA HOB HSP HBr caR cyR q1R czR r3 hsz
        go_region_held3 (fun w' => Below V.heap.size V w' ∧ (∀ b' o, b' < V.heap.size → w'.cell? ⟨b', o, none⟩ = V.cell? ⟨b', o, none⟩))
          (first | assumption | exact sees_of HB5.out | exact sees_of HB5.out.drew | exact sees_alloc HB5.out _ | exact sees_grown HB5.out HOB5.out (by assumption))
          ((refine step_append_lies _ rfl (.tmp 48) (.tmp 59) 22 rfl V.heap.size 3 i3 _ 1 8 Try.underlying22 HI.out HZ.out HS.out HBY.out rfl (by decide) u14 k _ rfl (HOB5.out.alloc _).drew ⟨w5.heap.size, 0, none⟩ 1 1 [.int .i64 (wd : Int)] rfl rfl (World.news_of_block (heap_new _ _)) (by simp [Value.oneCell']) (by decide) hm1 hm2 hm4 _ rfl ?_; intro g2 cap2 w6 hown2 hgrow2 hat2 hlt6))
        have HB6 : Hid (Below V.heap.size V w6) := grown_below HB5.out HOB5.out hgrow2
        have HOB6 : Hid (w6.ownsRow V.heap.size 3 1 (.slice (some ⟨g2, 0, none⟩) (k + 1) cap2) (k + 1) ((ps.take (k + 1)).map (fun p : Nat × Nat => Value.int .i64 (p.2 : Int)))) := by
          have := hown2
          rw [take_next _ k _ HPK.out, List.map_append]
          exact this
        have HOA6 : Hid (w6.ownsRow V.heap.size 33 1 (.slice (some ⟨g, 0, none⟩) (k + 1) cap) (k + 1) ((ps.take (k + 1)).map (fun p : Nat × Nat => Value.int .u64 (p.1 : Int)))) := ((HOA5.out.alloc _).drew).kept hgrow2 HSP5.out.symm.other
        have HSP6 : Hid (Sep (.slice (some ⟨g, 0, none⟩) (k + 1) cap) (.slice (some ⟨g2, 0, none⟩) (k + 1) cap2)) := (HSP5.out.symm.new (HOA5.out.alloc _).drew hat2 (Nat.le_refl _)).symm
        clear hown2 hgrow2 hat2 hlt6 HOA5 HOB5 HSP5 HB5 hm1 hm2 hm4
        go_wp2
        go_roundw
        case measure => simp [intOf]; omega
        case rel => exact ⟨k + 1, by omega, by simp, HOA6.out, HOB6.out, HSP6.out, HB6.out⟩
      · have hge : ¬ ((k : Int) < (args.length : Int)) := by omega
        have r0 := (HBr.out.cell (p := ⟨db, 0, none⟩) _hdb).trans d0
        have r1 := (HBr.out.cell (p := ⟨db, 1, none⟩) _hdb).trans d1
        have r2 := (HBr.out.cell (p := ⟨db, 2, none⟩) _hdb).trans d2
        have hkE : k = ps.length := by omega
        have hOA := HOA.out
        have hOB := HOB.out
        rw [List.take_of_length_le (by omega)] at hOA hOB
        obtain ⟨-, aw, cw, rfl, ra⟩ := ownRow (g := (fun p : Nat × Nat => Value.int .u64 (p.1 : Int))) hOA
        obtain ⟨-, bw, dw, rfl, rb⟩ := ownRow (g := (fun p : Nat × Nat => Value.int .i64 (p.2 : Int))) hOB
        have OPc : Hid (Calls Try.prog 39 #[.int .i64 kind, .int .i64 width, .int .u64 num, .slice aw k cw, .slice bw k dw] wr fun e w' => e = .returned (.int .u64 (val : Int)) ∧ ∃ q, w' = wr.drewN q) := by
          have := operate_any wr.heap.size wr kind width.toNat num.toNat ps HOK.out aw bw cw dw ra rb
          rw [← hkE, show ((width.toNat : Nat) : Int) = width by omega, show ((num.toNat : Nat) : Int) = num by omega, HVAL2.out] at this
          exact this
        clear HOA HOB HSP hOA hOB ra rb HVAL2 HOK HP hkE hpl hk
        go_wp2_with (go_at_call 39; refine OPc.out.mono ?_; rintro e w2 ⟨rfl, q, rfl⟩)
        exact HK.out _ _ _ _ _ _ _ _ _ _ _ _ _ _ _ _ _ _ _ _ _ _ _ _ _ _ _ _ _ _ _ _ _ _ _ _ _ _ _ _ _ _ _ _ _ _ _ _ _ _ _ _ _ _ _ _ _ _ _ _ _ _ _ _ _ _ _ _ _ _ _ _ _ _ _ _ _ _ _ _ _ _ _ _ _ _ _ _ _ _ _ _ _ _ _ _ _ _ _ _ rfl (Below.drewN HBr.out _)

end Go.Proofs.Ytlkhmcajedjojaa
