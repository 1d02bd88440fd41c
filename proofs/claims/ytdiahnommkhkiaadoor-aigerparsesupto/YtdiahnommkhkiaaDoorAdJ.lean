import Derived.Test.YtdiahnommkhkiaaDoorAdI
import Derived.Test.YtdiahnommkhkiaaDoorAqO
namespace Go.Proofs.YtdiahnommkhkiaaDoor
open Go.RowKit

set_option maxRecDepth 100000 in
set_option maxHeartbeats 16000000 in
theorem aigParse_any (T : List UInt8) (hT : T.length ≤ 1048576) (w : World) :
    Calls Tryd.prog 11 #[.string (bs T)] w fun e w' => ∃ G S c a, Outcome T G c a ∧ e = .returned (.tuple #[.agg (GrS.cells S G), .agg #[.int .i64 c, .int .i64 a]]) ∧ GrAt w'.heap.size w' S G ∧ Below w.heap.size w w' := by
  have LI := hidden (lines_any T hT)
  go_enter Tryd.func11, Tryd.ntmps11
  go_upto_region 1 with fail
  generalize hW0 : World.alloc (World.alloc w _) _ = W0
  obtain ⟨rb, hrb⟩ : ∃ x, x = w.heap.size := ⟨_, rfl⟩
  obtain ⟨fb, hfb⟩ : ∃ x, x = w.heap.size + 1 := ⟨_, rfl⟩
  have HB0 : Hid (Below w.heap.size w W0) := by rw [← hW0]; exact ((Below.refl _ _).alloc (Nat.le_refl _) _).alloc (by simp) _
  have BX0 : Hid (Boxes W0 rb fb) := by
    refine ⟨?_, ?_⟩
    · rw [← hW0, hrb, heap_alloc_old _ _ (by simp)]; exact heap_new _ _
    · rw [← hW0, hfb]
      have := heap_new (w.alloc (.cells #[.int .i64 0, .slice none 0 0, .slice none 0 0, .slice none 0 0] 28)) (.cells #[.int .i64 0, .int .i64 0] 38)
      simpa using this
  have hfl0 : fb < W0.heap.size := by rw [← hW0, hfb]; simp
  rw [← hfb, ← hrb]
  have hrw : w.heap.size ≤ rb := by omega
  have hfw : w.heap.size ≤ fb := by omega
  have hne : rb ≠ fb := by omega
  have hrl0 : rb < W0.heap.size := by omega
  clear hW0 hrb hfb
  have L1 := hidden (LI.out W0)
  clear LI
  go_wp2_with fail
  go_at_call 22
  refine L1.out.mono ?_
  rintro e w1 ⟨v, rfl, ho, hb1⟩
  obtain ⟨la, lc, rfl, hln, hlnew⟩ := lnAt_of (T := T) ho
  have HL1 := hidden hln
  have BX1 := hidden (BX0.out.below hb1 hrl0 hfl0)
  have HB1 : Hid (Below w.heap.size w w1) := HB0.out.trans (hb1.mono HB0.out.size)
  have hs1 := hb1.size
  obtain ⟨wh, HWH⟩ : ∃ x, Hid ((restOf T).isEmpty = x) := ⟨_, rfl⟩
  rw [show (sp 10 T).2.isEmpty = wh from HWH.out]
  have hll := lines_len T
  clear ho hln hb1 L1 BX0 HB0
  by_cases hl0 : (linesOf T).length = 0
  · have HBAD : Hid (Bad T (0 + 1)) := bad_head (fun ⟨a, h, h1, _⟩ => by have := (List.getElem?_eq_some_iff.1 h1).1; omega)
    have hl0b : (((linesOf T).length : Int) == 0) = true := by rw [beq_iff_eq]; omega
    have HL0 := hidden hl0
    clear hl0
    generalize (linesOf T).length = ln at *
    have B5 := hidden (badLine_any 0 (by omega) w1)
    go_wp2_with fail
    go_at_call 23
    refine B5.out.mono ?_
    rintro e w8 ⟨rfl, hb8⟩
    have HBX8 := hidden (BX1.out.below hb8 (by omega) (by omega))
    have HBW8 : Hid (Below w.heap.size w w8) := HB1.out.trans (hb8.mono HB1.out.size)
    have r0 : w8.cell? ⟨rb, 0, none⟩ = some (.int .i64 0) := heap_cell HBX8.out.r
    have r1 : w8.cell? ⟨rb, 1, none⟩ = some (.slice none 0 0) := heap_cell HBX8.out.r
    have r2 : w8.cell? ⟨rb, 2, none⟩ = some (.slice none 0 0) := heap_cell HBX8.out.r
    have r3 : w8.cell? ⟨rb, 3, none⟩ = some (.slice none 0 0) := heap_cell HBX8.out.r
    have q0 : w8.cell? ⟨fb, 0, none⟩ = some (.int .i64 0) := heap_cell HBX8.out.f
    have q1 : w8.cell? ⟨fb, 1, none⟩ = some (.int .i64 0) := heap_cell HBX8.out.f
    have fr : ∀ j, w8.frozen? ⟨rb, j, none⟩ = false := fun j => heap_fz HBX8.out.r j
    have ff : ∀ j, w8.frozen? ⟨fb, j, none⟩ = false := fun j => heap_fz HBX8.out.f j
    have HTOLD := hidden (told_of (0 + 1) HBX8.out hne HBW8.out hrw hfw)
    clear hb8 B5
    go_wp2_with fail
    exact told_ret rfl rfl rfl HTOLD.out HBAD.out
  have hl0b : (((linesOf T).length : Int) == 0) = false := by rw [beq_eq_false_iff_ne]; omega
  obtain ⟨hd, hhd⟩ := getElem_lt (show 0 < (linesOf T).length by omega)
  obtain ⟨lb, rfl, hlb, hlc⟩ := HL1.out 0 hd hhd
  have HHD := hidden hhd
  have hlb0 : W0.heap.size ≤ lb := hlnew lb 0 rfl
  have hl0I : (0 : Int) < ((linesOf T).length : Int) := by omega
  have HDR := hidden (header_any hd (by have := line_len hhd; omega) w1)
  clear hhd hl0
  obtain ⟨ln, hlnd⟩ : ∃ x, x = (linesOf T).length := ⟨_, rfl⟩
  have HLND := hidden hlnd
  rw [← hlnd] at hl0b hl0I hll ⊢
  clear hlnd
  generalize bs hd = shd at *
  go_wp2_with fail
  go_at_call 24
  refine HDR.out.mono ?_
  rintro e w2 ⟨hb2, hcase⟩
  have HL2 := hidden (HL1.out.to hb2)
  have BX2 := hidden (BX1.out.below hb2 (by omega) (by omega))
  have HB2 : Hid (Below w.heap.size w w2) := HB1.out.trans (hb2.mono HB1.out.size)
  have hs2 := hb2.size
  clear hb2 HDR hlc HL1 BX1 HB1
  rcases hcase with ⟨ni, nl, no, na, hH, rfl⟩ | ⟨hno, rfl⟩
  rotate_left
  · have HBAD : Hid (Bad T (0 + 1)) := bad_head (fun ⟨a, h, h1, h2⟩ => by rw [HHD.out] at h1; cases h1; exact hno ⟨h, h2⟩)
    unfold zeroH
    clear hno
    go_upto_region 6 with fail
    generalize hV : World.alloc w2 _ = V
    have HBV : Hid (Below w2.heap.size w2 V) := by rw [← hV]; exact (Below.refl _ _).alloc (Nat.le_refl _) _
    have BXV := hidden (BX2.out.below HBV.out (by omega) (by omega))
    have B5 := hidden (badLine_any 0 (by omega) V)
    have hsV := HBV.out.size
    have HB1 : Hid (Below w.heap.size w V) := HB2.out.trans (HBV.out.mono HB2.out.size)
    have BX1 := BXV
    clear hV
    go_wp2_with fail
    go_at_call 23
    refine B5.out.mono ?_
    rintro e w8 ⟨rfl, hb8⟩
    have HBX8 := hidden (BX1.out.below hb8 (by omega) (by omega))
    have HBW8 : Hid (Below w.heap.size w w8) := HB1.out.trans (hb8.mono HB1.out.size)
    have r0 : w8.cell? ⟨rb, 0, none⟩ = some (.int .i64 0) := heap_cell HBX8.out.r
    have r1 : w8.cell? ⟨rb, 1, none⟩ = some (.slice none 0 0) := heap_cell HBX8.out.r
    have r2 : w8.cell? ⟨rb, 2, none⟩ = some (.slice none 0 0) := heap_cell HBX8.out.r
    have r3 : w8.cell? ⟨rb, 3, none⟩ = some (.slice none 0 0) := heap_cell HBX8.out.r
    have q0 : w8.cell? ⟨fb, 0, none⟩ = some (.int .i64 0) := heap_cell HBX8.out.f
    have q1 : w8.cell? ⟨fb, 1, none⟩ = some (.int .i64 0) := heap_cell HBX8.out.f
    have fr : ∀ j, w8.frozen? ⟨rb, j, none⟩ = false := fun j => heap_fz HBX8.out.r j
    have ff : ∀ j, w8.frozen? ⟨fb, j, none⟩ = false := fun j => heap_fz HBX8.out.f j
    have HTOLD := hidden (told_of (0 + 1) HBX8.out hne HBW8.out hrw hfw)
    clear hb8 B5
    go_wp2_with fail
    exact told_ret rfl rfl rfl HTOLD.out HBAD.out
  have HHA : Hid (HeadAt T ni nl no na) := ⟨hd, HHD.out, hH⟩
  obtain ⟨hb1, hb2, hb3⟩ := HHA.out.bound
  clear hH
  go_upto_region 7 with fail
  generalize hV : World.alloc w2 _ = V
  obtain ⟨hb, hhb⟩ : ∃ x, x = w2.heap.size := ⟨_, rfl⟩
  have HBV : Hid (Below w2.heap.size w2 V) := by rw [← hV]; exact (Below.refl _ _).alloc (Nat.le_refl _) _
  have HHV : Hid (V.heap[hb]? = some (.cells #[.int .i64 (ni : Int), .int .i64 (nl : Int), .int .i64 (no : Int), .int .i64 (na : Int)] 60 (0, 0))) := by rw [← hV, hhb]; exact heap_new _ _
  have hbV : hb < V.heap.size := by rw [← hV, hhb]; simp
  rw [← hhb]
  have hbw : w2.heap.size ≤ hb := by omega
  clear hV hhb
  have hsV := HBV.out.size
  have g0 : V.cell? ⟨hb, 0, none⟩ = some (.int .i64 (ni : Int)) := heap_cell HHV.out
  go_upto_region 8 with fail
  generalize hX : World.alloc V _ = X
  obtain ⟨gb, hgb⟩ : ∃ x, x = V.heap.size := ⟨_, rfl⟩
  have HBX' : Hid (Below V.heap.size V X) := by rw [← hX]; exact (Below.refl _ _).alloc (Nat.le_refl _) _
  have HXC : Hid (X.heap[gb]? = some (.cells #[.int .i64 (ni : Int), .slice none 0 0, .slice none 0 0, .slice none 0 0] 28 (0, 0))) := by rw [← hX, hgb]; exact heap_new _ _
  have hgX : gb < X.heap.size := by rw [← hX, hgb]; simp
  rw [← hgb]
  have hgw : V.heap.size ≤ gb := by omega
  clear hX hgb g0
  have hsX := HBX'.out.size
  have HHX := hidden ((HBX'.out.block hb hbV).trans HHV.out)
  have HB2X : Hid (Below w2.heap.size w2 X) := HBV.out.trans (HBX'.out.mono HBV.out.size)
  have HLX := hidden (HL2.out.to HB2X.out)
  have BXX := hidden (BX2.out.below HB2X.out (by omega) (by omega))
  have HBX : Hid (Below w.heap.size w X) := HB2.out.trans (HB2X.out.mono HB2.out.size)
  have g0 : X.cell? ⟨hb, 0, none⟩ = some (.int .i64 (ni : Int)) := heap_cell HHX.out
  have g1 : X.cell? ⟨hb, 1, none⟩ = some (.int .i64 (nl : Int)) := heap_cell HHX.out
  have g2 : X.cell? ⟨hb, 2, none⟩ = some (.int .i64 (no : Int)) := heap_cell HHX.out
  have g3 : X.cell? ⟨hb, 3, none⟩ = some (.int .i64 (na : Int)) := heap_cell HHX.out
  have e1 : IntKind.i64.wrap (1 + (ni : Int)) = 1 + (ni : Int) := wrapI _ (by omega) (by omega)
  have e2 : IntKind.i64.wrap (1 + (ni : Int) + (nl : Int)) = 1 + (ni : Int) + (nl : Int) := wrapI _ (by omega) (by omega)
  have e3 : IntKind.i64.wrap (1 + (ni : Int) + (nl : Int) + (na : Int)) = 1 + (ni : Int) + (nl : Int) + (na : Int) := wrapI _ (by omega) (by omega)
  have e4 : IntKind.i64.wrap (2 * (1 + (ni : Int) + (nl : Int) + (na : Int))) = 2 * (1 + (ni : Int) + (nl : Int) + (na : Int)) := wrapI _ (by omega) (by omega)
  clear HHV HBV HBX' HB2X HL2 BX2 HB2
  go_upto_block 0 with fail
  obtain ⟨M, hMM⟩ : ∃ x : Int, x = 2 * (1 + (ni : Int) + (nl : Int) + (na : Int)) := ⟨_, rfl⟩
  have HM : Hid (M = 2 * (((ni + nl + na : Nat) : Int) + 1)) := by show _ = _; omega
  rw [← hMM]
  clear hMM e1 e2 e3 e4
  have HG0 := hidden g0
  have HG1 := hidden g1
  have HG2 := hidden g2
  have HG3 := hidden g3
  clear g0 g1 g2 g3
  have hLg : ∀ b o, (some ⟨lb, 0, none⟩ : Option Addr) = some ⟨b, o, none⟩ → b ≠ gb := fun b o e => by cases e; omega
  rw [HLND.out]
  refine apIns w X rb fb hb 1 ni T (some ⟨lb, 0, none⟩) lc hT HLX BXX hne HBX hrw hfw (by omega) (by omega) (by omega) (by omega) (by omega) HG0 _ _ _ _ _ _ _ _ _ _ _ _ _ _ _ _ _ _ _ _ _ _ _ _ _ _ _ _ _ _ _ _ _ _ _ _ _ _ _ _ _ _ _ _ _ _ _ _ _ _ _ _ _ _ _ _ _ _ _ _ _ _ _ _ _ _ _ _ _ _ _ _ _ _ _ _ _ _ _ _ _ _ _ _ _ _ _ _ _ _ _ _ _ _ _ _ _ _ _ _ _ _ _ _ _ _ _ _ _ _ _ _ _ _ _ _ _ _ _ _ _ _ _ _ _ _ _ _ _ _ _ _ _ _ _ _ _ _ _ _ _ _ _ _ _ _ _ _ _ _ _ _ _ _ _ _ _ _ _ _ _ _ _ _ _ _ _ _ _ _ _ _ _ _ _ _ _ _ _ _ _ _ _ _ _ _ _ _ _ _ _ _ _ _ _ _ _ _ _ _ _ _ _ _ _ _ _ _ _ _ _ _ _ _ _ _ _ _ _ _ _ _ _ _ _ _ _ _ _ _ _ _ _ _ _ _ _ _ _ _ _ _ _ _ _ _ _ _ _ _ _ _ _ _ _ _ _ _ _ _ _ _ _ _ _ _ _ _ _ _ _ _ _ (hidden ?_) (hidden ?_)
  rotate_left
  · intro k a' w' hk h1 h2 hd2 hg2 hg3 ht
    have hm := HM.out
    clear HM
    subst hm
    exact told_ret hd2 hg2 hg3 ht (bad_in HHA.out hk h1 h2)
  intro w3 v11 v12 v13 v60 v61 v62 v63 v64 v65 v66 v67 v68 v69 v70 v71 v72 v73 v74 v75 v76 v77 v78 v79 v80 v81 v82 v83 v84 v85 v86 v87 hcut
  obtain ⟨hi1, hi2⟩ := hcut
  have HIN : Hid (∀ i, i < ni → InOk T (1 + i) i) := hi1
  have HB3 := hidden hi2
  have hs3 := hi2.size
  have HL3 := hidden (HLX.out.to (Below.mono HB3.out (Nat.le_refl _)))
  have BX3 := hidden (BXX.out.below HB3.out (by omega) (by omega))
  have HBW3 : Hid (Below w.heap.size w w3) := HBX.out.trans (HB3.out.mono HBX.out.size)
  have HC3 : Hid (w3.heap[gb]? = some (.cells #[.int .i64 (ni : Int), .slice none 0 0, .slice none 0 0, .slice none 0 0] 28 (0, 0))) := (HB3.out.block gb hgX).trans HXC.out
  have HD3 : Hid (∀ j, w3.cell? ⟨hb, j, none⟩ = X.cell? ⟨hb, j, none⟩) := fun j => HB3.out.cell (p := ⟨hb, j, none⟩) (by show hb < _; omega)
  have hL1 : (1 + ni : Nat) ≤ 200000 := by omega
  clear hi1 hi2 HLX BXX HBX HXC
  go_upto_block 2 with fail
  refine apLats w w3 rb fb hb (1 + ni) nl T (some ⟨lb, 0, none⟩) lc hT HL3 BX3 hne HBW3 hrw hfw (by omega) (by omega) (by omega) (by omega) (by omega) gb M (by have := HBW3.out.size; omega) (by omega) (by omega) (by omega) (by omega) hLg (heap_cell HC3.out) (heap_fz HC3.out) (show _ = _ from (HD3.out 1).trans HG1.out) ni (by omega) (show _ = _ from (HD3.out 0).trans HG0.out) _ _ _ _ _ _ _ _ _ _ _ _ _ _ _ _ _ _ _ _ _ _ _ _ _ _ _ _ _ _ _ _ _ _ _ _ _ _ _ _ _ _ _ _ _ _ _ _ _ _ _ _ _ _ _ _ _ _ _ _ _ _ _ _ _ _ _ _ _ _ _ _ _ _ _ _ _ _ _ _ _ _ _ _ _ _ _ _ _ _ _ _ _ _ _ _ _ _ _ _ _ _ _ _ _ _ _ _ _ _ _ _ _ _ _ _ _ _ _ _ _ _ _ _ _ _ _ _ _ _ _ _ _ _ _ _ _ _ _ _ _ _ _ _ _ _ _ _ _ _ _ _ _ _ _ _ _ _ _ _ _ _ _ _ _ _ _ _ _ _ _ _ _ _ _ _ _ _ _ _ _ _ _ _ _ _ _ _ _ _ _ _ _ _ _ _ _ _ _ _ _ _ _ _ _ _ _ _ _ _ _ _ _ _ _ _ _ _ _ _ _ _ _ _ _ _ _ _ _ _ _ _ _ _ _ _ _ _ _ _ _ _ _ _ _ _ _ _ _ _ _ _ _ _ _ _ _ _ _ _ _ _ _ _ _ _ _ _ _ _ _ (hidden ?_) (hidden ?_)
  rotate_left
  · intro k a' w' hk h1 h2 hd2 hg2 hg3 ht
    have hm := HM.out
    clear HM
    subst hm
    exact told_ret hd2 hg2 hg3 ht (bad_lat HHA.out HIN.out hk h1 h2)
  intro w4 v14 v15 v16 v88 v89 v90 v91 v92 v93 v94 v95 v96 v97 v98 v99 v100 v101 v102 v103 v104 v105 v106 v107 v108 v109 v110 v111 v112 v113 v114 v115 v116 v117 v118 v119 v120 v121 v122 v123 v124 v125 v126 v127 v128 v129 v130 v131 v132 v133 v134 v135 v136 v137 v138 v139 v140 v141 v142 v143 hcut
  obtain ⟨ls, u1, hl1, hl2, hl3, hl4, hl5, hl6, hl7⟩ := hcut
  have HLL := hidden hl1
  have HLA := hidden hl2
  have HU1 := hidden hl3
  have HO1 := hidden hl4
  have HR4 := hidden hl5
  have HF4 := hidden hl6
  have HC4 := hidden hl7
  have hs4 := hl5.size
  have HL4 := hidden (HL3.out.grown hl5 hLg)
  have BX4 := hidden (BX3.out.grown hl5 (by omega) (by omega) (by omega) (by omega))
  have HBW4 : Hid (Below w.heap.size w w4) := HBW3.out.trans (below_grown hl5 HBW3.out.size (fun x hx => by have := Option.some.inj hx; have := HBW3.out.size; omega))
  have HD4 : Hid (∀ j, w4.cell? ⟨hb, j, none⟩ = X.cell? ⟨hb, j, none⟩) := fun j => (gcell HR4.out (by omega) (by omega)).trans (HD3.out j)
  have HLE : Hid (∀ i, i < nl → ∃ d, LatLine T (1 + ni + i) (2 * (1 + (ni : Int) + (i : Int))) M d) := fun i hi => ex_el (P := fun i d => LatLine T (1 + ni + i) (2 * (1 + (ni : Int) + (i : Int))) M d) hl1 hl2 hi
  clear hl1 hl2 hl3 hl4 hl5 hl6 hl7
  go_upto_block 4 with fail
  refine apOuts w w4 rb fb hb (1 + ni + nl) no T (some ⟨lb, 0, none⟩) lc hT HL4 BX4 hne HBW4 hrw hfw (by omega) (by omega) (by omega) (by omega) (by omega) gb M (by have := HBW3.out.size; omega) (by omega) (by omega) (by omega) (by omega) hLg ((HC4.out 3 (by decide)).trans (heap_cell HC3.out)) HF4.out (show _ = _ from (HD4.out 2).trans HG2.out) _ _ _ _ _ _ _ _ _ _ _ _ _ _ _ _ _ _ _ _ _ _ _ _ _ _ _ _ _ _ _ _ _ _ _ _ _ _ _ _ _ _ _ _ _ _ _ _ _ _ _ _ _ _ _ _ _ _ _ _ _ _ _ _ _ _ _ _ _ _ _ _ _ _ _ _ _ _ _ _ _ _ _ _ _ _ _ _ _ _ _ _ _ _ _ _ _ _ _ _ _ _ _ _ _ _ _ _ _ _ _ _ _ _ _ _ _ _ _ _ _ _ _ _ _ _ _ _ _ _ _ _ _ _ _ _ _ _ _ _ _ _ _ _ _ _ _ _ _ _ _ _ _ _ _ _ _ _ _ _ _ _ _ _ _ _ _ _ _ _ _ _ _ _ _ _ _ _ _ _ _ _ _ _ _ _ _ _ _ _ _ _ _ _ _ _ _ _ _ _ _ _ _ _ _ _ _ _ _ _ _ _ _ _ _ _ _ _ _ _ _ _ _ _ _ _ _ _ _ _ _ _ _ _ _ _ _ _ _ _ _ _ _ _ _ _ _ _ _ _ _ _ _ _ _ _ _ _ _ _ _ _ _ _ _ _ _ _ _ _ _ (hidden ?_) (hidden ?_)
  rotate_left
  · intro k a' w' hk h1 h2 hd2 hg2 hg3 ht
    have hm := HM.out
    clear HM
    subst hm
    exact told_ret hd2 hg2 hg3 ht (bad_out HHA.out HIN.out HLE.out hk h1 h2)
  intro w5 v17 v18 v19 v144 v145 v146 v147 v148 v149 v150 v151 v152 v153 v154 v155 v156 v157 v158 v159 v160 v161 v162 v163 v164 v165 v166 v167 v168 v169 v170 v171 v172 v173 v174 v175 v176 v177 hcut
  obtain ⟨os, u3, hl1, hl2, hl3, hl4, hl5, hl6, hl7⟩ := hcut
  have HOL := hidden hl1
  have HOA := hidden hl2
  have HU3 := hidden hl3
  have HO3 := hidden hl4
  have HR5 := hidden hl5
  have HF5 := hidden hl6
  have HC5 := hidden hl7
  have hs5 := hl5.size
  have HL5 := hidden (HL4.out.grown hl5 hLg)
  have BX5 := hidden (BX4.out.grown hl5 (by omega) (by omega) (by omega) (by omega))
  have HBW5 : Hid (Below w.heap.size w w5) := HBW4.out.trans (below_grown hl5 HBW4.out.size (fun x hx => by have := Option.some.inj hx; have := HBW3.out.size; omega))
  have HD5 : Hid (∀ j, w5.cell? ⟨hb, j, none⟩ = X.cell? ⟨hb, j, none⟩) := fun j => (gcell HR5.out (by omega) (by omega)).trans (HD4.out j)
  have HOE : Hid (∀ i, i < no → ∃ d, OutLine T (1 + ni + nl + i) M d) := fun i hi => ex_el (P := fun i d => OutLine T (1 + ni + nl + i) M d) hl1 hl2 hi
  clear hl1 hl2 hl3 hl4 hl5 hl6 hl7
  go_upto_block 6 with fail
  refine apAnds w w5 rb fb hb (1 + ni + nl + no) na T (some ⟨lb, 0, none⟩) lc hT HL5 BX5 hne HBW5 hrw hfw (by omega) (by omega) (by omega) (by omega) (by omega) gb M (by have := HBW3.out.size; omega) (by omega) (by omega) (by omega) (by omega) hLg ((HC5.out 2 (by decide)).trans ((HC4.out 2 (by decide)).trans (heap_cell HC3.out))) HF5.out (show _ = _ from (HD5.out 3).trans HG3.out) ni nl (by omega) (by omega) (show _ = _ from (HD5.out 0).trans HG0.out) (show _ = _ from (HD5.out 1).trans HG1.out) _ _ _ _ _ _ _ _ _ _ _ _ _ _ _ _ _ _ _ _ _ _ _ _ _ _ _ _ _ _ _ _ _ _ _ _ _ _ _ _ _ _ _ _ _ _ _ _ _ _ _ _ _ _ _ _ _ _ _ _ _ _ _ _ _ _ _ _ _ _ _ _ _ _ _ _ _ _ _ _ _ _ _ _ _ _ _ _ _ _ _ _ _ _ _ _ _ _ _ _ _ _ _ _ _ _ _ _ _ _ _ _ _ _ _ _ _ _ _ _ _ _ _ _ _ _ _ _ _ _ _ _ _ _ _ _ _ _ _ _ _ _ _ _ _ _ _ _ _ _ _ _ _ _ _ _ _ _ _ _ _ _ _ _ _ _ _ _ _ _ _ _ _ _ _ _ _ _ _ _ _ _ _ _ _ _ _ _ _ _ _ _ _ _ _ _ _ _ _ _ _ _ _ _ _ _ _ _ _ _ _ _ _ _ _ _ _ _ _ _ _ _ _ _ _ _ _ _ _ _ _ _ _ _ _ _ _ _ _ _ _ _ _ _ _ _ _ _ _ _ _ _ _ _ _ _ _ _ _ _ _ _ _ _ _ _ _ _ _ _ _ (hidden ?_) (hidden ?_)
  rotate_left
  · intro k a' w' hk h1 h2 hd2 hg2 hg3 ht
    have hm := HM.out
    clear HM
    subst hm
    exact told_ret hd2 hg2 hg3 ht (bad_and HHA.out HIN.out HLE.out HOE.out hk h1 h2)
  intro w6 v20 v21 v22 v178 v179 v180 v181 v182 v183 v184 v185 v186 v187 v188 v189 v190 v191 v192 v193 v194 v195 v196 v197 v198 v199 v200 v201 v202 v203 v204 v205 v206 v207 v208 v209 v210 v211 v212 v213 v214 v215 v216 v217 v218 v219 v220 v221 v222 v223 v224 v225 v226 v227 v228 v229 v230 v231 v232 v233 v234 v235 v236 v237 v238 v239 v240 v241 hcut
  obtain ⟨ad, u2, hl1, hl2, hl3, hl4, hl5, hl6, hl7⟩ := hcut
  have HAL := hidden hl1
  have HAA := hidden hl2
  have HU2 := hidden hl3
  have HO2 := hidden hl4
  have HR6 := hidden hl5
  have HC6 := hidden hl7
  have hs6 := hl5.size
  have HL6 := hidden (HL5.out.grown hl5 hLg)
  have BX6 := hidden (BX5.out.grown hl5 (by omega) (by omega) (by omega) (by omega))
  have HBW6 : Hid (Below w.heap.size w w6) := HBW5.out.trans (below_grown hl5 HBW5.out.size (fun x hx => by have := Option.some.inj hx; have := HBW3.out.size; omega))
  have HAE : Hid (∀ i, i < na → ∃ d, AndLine T (1 + ni + nl + no + i) (2 * (1 + (ni : Int) + (nl : Int) + (i : Int))) d) := fun i hi => ex_el (P := fun i d => AndLine T (1 + ni + nl + no + i) (2 * (1 + (ni : Int) + (nl : Int) + (i : Int))) d) hl1 hl2 hi
  clear hl1 hl2 hl3 hl4 hl5 hl6 hl7
  have HBODY : Hid (∀ i, i < ni + nl + no + na → BodyOk T ni nl no na i) := by
    have hm := HM.out
    have h1 := HLE.out
    have h2 := HOE.out
    rw [hm] at h1 h2
    exact body_of (fun i h _ => HIN.out i h) (fun i h _ => h1 i h) (fun i h _ => h2 i h) (fun i h _ => HAE.out i h) (Nat.le_refl _)
  have hen := lines_enough HHA.out HBODY.out
  obtain ⟨n, hn⟩ : ∃ x, x = 1 + ni + nl + no + na := ⟨_, rfl⟩
  rw [← hn] at hen ⊢
  have HN := hidden hn
  have BH := hidden (behind_any T hT (some ⟨lb, 0, none⟩) lc w6 HL6.out n hen)
  clear hn
  rw [← HLND.out] at BH hen ⊢
  go_wp2_with fail
  go_at_call 26
  refine BH.out.mono ?_
  rintro e w7 ⟨hb7, hcase⟩
  have HL7 := hidden (HL6.out.to hb7)
  have BX7 := hidden (BX6.out.below hb7 (by omega) (by omega))
  have HBW7 : Hid (Below w.heap.size w w7) := HBW6.out.trans (hb7.mono HBW6.out.size)
  have hs7 := hb7.size
  have HB7 := hidden hb7
  clear hb7 BH
  have r0 : w7.cell? ⟨rb, 0, none⟩ = some (.int .i64 0) := heap_cell BX7.out.r
  have r1 : w7.cell? ⟨rb, 1, none⟩ = some (.slice none 0 0) := heap_cell BX7.out.r
  have r2 : w7.cell? ⟨rb, 2, none⟩ = some (.slice none 0 0) := heap_cell BX7.out.r
  have r3 : w7.cell? ⟨rb, 3, none⟩ = some (.slice none 0 0) := heap_cell BX7.out.r
  have q0 : w7.cell? ⟨fb, 0, none⟩ = some (.int .i64 0) := heap_cell BX7.out.f
  have q1 : w7.cell? ⟨fb, 1, none⟩ = some (.int .i64 0) := heap_cell BX7.out.f
  have fr : ∀ j, w7.frozen? ⟨rb, j, none⟩ = false := fun j => heap_fz BX7.out.r j
  have ff : ∀ j, w7.frozen? ⟨fb, j, none⟩ = false := fun j => heap_fz BX7.out.f j
  have BADM : Hid (∀ m, BeBad T n m → Bad T ((m + 1 : Nat) : Int)) := fun m hm => .inr ⟨ni, nl, no, na, HHA.out, .inr ⟨HBODY.out, m, by rw [← HN.out]; exact hm, rfl⟩⟩
  rcases hcase with ⟨rfl, hok⟩ | ⟨m, rfl, hm1, hm2, hm3, hm4⟩
  rotate_left
  · have HBAD := hidden (BADM.out m ⟨hm2, hm3, Or.inl hm4⟩)
    have hkp : (0 : Int) < ((m + 1 : Nat) : Int) := by omega
    have HTOLD := hidden (told_of ((m + 1 : Nat) : Int) BX7.out hne HBW7.out hrw hfw)
    clear hm1 hm2 hm3 hm4
    generalize ((m + 1 : Nat) : Int) = kk at *
    go_wp2_with fail
    exact told_ret rfl rfl rfl HTOLD.out HBAD.out
  have HOKB := hidden hok
  clear hok
  go_wp2_with fail
  go_loopw [24, 25] (fun b' i' w' => ∃ (k : Nat) (b : Bool), n ≤ k ∧ k ≤ ln ∧ b' = .bool b ∧ i' = .int .i64 k ∧ Hid (b = true ↔ ∃ j, n ≤ j ∧ j < k ∧ (linesOf T)[j]? = some [99]) ∧ w' = w7) (fun _ i' _ => ln - (intOf i').toNat)
  case atStart => exact ⟨n, false, Nat.le_refl _, hen, rfl, rfl, (show _ ↔ _ from ⟨fun h => (by cases h), fun ⟨j, h1, h2, _⟩ => (by omega)⟩), rfl⟩
  case round =>
    obtain ⟨k, b, hnk, hk, rfl, rfl, HC, hwr⟩ := hrel
    subst hwr
    by_cases hlt : k < ln
    · have hltI : (k : Int) < (ln : Int) := by omega
      obtain ⟨l, hl⟩ := getElem_lt (show k < (linesOf T).length by rw [← HLND.out]; exact hlt)
      obtain ⟨lb', hlbe, hlb2, hlc⟩ := HL7.out k l hl
      cases hlbe
      have HLl := hidden hl
      have hce : ((bs l).toList == [99]) = decide (l = [99]) := by rw [bs_toList]; by_cases hx : l = [99] <;> simp [hx]
      have e9 : IntKind.i64.wrap ((k : Int) + 1) = (k : Int) + 1 := wrapI _ (by omega) (by omega)
      have HSTEP : Hid (∀ b', (b' = true ↔ b = true ∨ l = [99]) → (b' = true ↔ ∃ j, n ≤ j ∧ j < k + 1 ∧ (linesOf T)[j]? = some [99])) := fun b' hb' => by
        rw [hb', HC.out]
        refine ⟨fun h => ?_, fun ⟨j, h1, h2, h3⟩ => ?_⟩
        · rcases h with ⟨j, h1, h2, h3⟩ | h
          · exact ⟨j, h1, by omega, h3⟩
          · exact ⟨k, hnk, by omega, by rw [HLl.out, h]⟩
        · rcases Nat.lt_or_ge j k with h' | h'
          · exact .inl ⟨j, h1, h', h3⟩
          · have : j = k := by omega
            subst this
            rw [HLl.out] at h3
            exact .inr (Option.some.inj h3)
      clear hl
      generalize bs l = sl at *
      cases b
      · by_cases h99 : l = [99]
        · have hd9 : decide (l = [99]) = true := by simp [h99]
          rw [hd9] at hce
          have HC2 := hidden (HSTEP.out true ⟨fun _ => .inr h99, fun _ => rfl⟩)
          clear h99 hd9
          go_wp2
          go_roundw
          case measure => simp [intOf]; omega
          case rel => exact ⟨k + 1, true, by omega, by omega, rfl, by simp, HC2.out, by first | rfl | trivial⟩
        · have hd9 : decide (l = [99]) = false := by simp [h99]
          rw [hd9] at hce
          have HC2 := hidden (HSTEP.out false ⟨fun h => (by cases h), fun h => h.elim (fun h => (by cases h)) (fun h => absurd h h99)⟩)
          clear h99 hd9
          go_wp2
          go_roundw
          case measure => simp [intOf]; omega
          case rel => exact ⟨k + 1, false, by omega, by omega, rfl, by simp, HC2.out, by first | rfl | trivial⟩
      · have HC2 := hidden (HSTEP.out true ⟨fun _ => .inl rfl, fun _ => rfl⟩)
        go_wp2
        go_roundw
        case measure => simp [intOf]; omega
        case rel => exact ⟨k + 1, true, by omega, by omega, rfl, by simp, HC2.out, by first | rfl | trivial⟩
    · have hltI : ¬ (k : Int) < (ln : Int) := by omega
      have HBE := hidden (be_end (T := T) (n := n) (by rw [← HLND.out]; exact HOKB.out) (b := b) (by
        rw [HC.out]
        refine ⟨fun ⟨j, h1, _, h3⟩ => ⟨j, h1, h3⟩, fun ⟨j, h1, h3⟩ => ⟨j, h1, ?_, h3⟩⟩
        have := (List.getElem?_eq_some_iff.1 h3).1
        have := HLND.out
        omega))
      rw [HWH.out] at HBE
      obtain ⟨out, hout⟩ : ∃ x, x = (!wh && !b) := ⟨_, rfl⟩
      cases out
      rotate_left
      · have hwf : wh = false := by cases wh <;> cases b <;> simp at hout ⊢
        have hbf : b = false := by cases wh <;> cases b <;> simp at hout ⊢
        subst hwf
        subst hbf
        have HBAD : Hid (Bad T ((ln : Int) + 1)) := by
          have := BADM.out _ (HBE.out.2 rfl rfl)
          rw [← HLND.out] at this
          rw [show (ln : Int) + 1 = ((ln + 1 : Nat) : Int) by omega]
          exact this
        have B5 := hidden (badLine_any (ln : Int) (by omega) wr)
        clear r0 r1 r2 r3 q0 q1 fr ff hout
        go_wp2_with fail
        go_at_call 23
        refine B5.out.mono ?_
        rintro e w8 ⟨rfl, hb8⟩
        have BX1 := BX7
        have HB1 := HBW7
        have HBX8 := hidden (BX1.out.below hb8 (by omega) (by omega))
        have HBW8 : Hid (Below w.heap.size w w8) := HB1.out.trans (hb8.mono HB1.out.size)
        have r0 : w8.cell? ⟨rb, 0, none⟩ = some (.int .i64 0) := heap_cell HBX8.out.r
        have r1 : w8.cell? ⟨rb, 1, none⟩ = some (.slice none 0 0) := heap_cell HBX8.out.r
        have r2 : w8.cell? ⟨rb, 2, none⟩ = some (.slice none 0 0) := heap_cell HBX8.out.r
        have r3 : w8.cell? ⟨rb, 3, none⟩ = some (.slice none 0 0) := heap_cell HBX8.out.r
        have q0 : w8.cell? ⟨fb, 0, none⟩ = some (.int .i64 0) := heap_cell HBX8.out.f
        have q1 : w8.cell? ⟨fb, 1, none⟩ = some (.int .i64 0) := heap_cell HBX8.out.f
        have fr : ∀ j, w8.frozen? ⟨rb, j, none⟩ = false := fun j => heap_fz HBX8.out.r j
        have ff : ∀ j, w8.frozen? ⟨fb, j, none⟩ = false := fun j => heap_fz HBX8.out.f j
        have HTOLD := hidden (told_of ((ln : Int) + 1) HBX8.out hne HBW8.out hrw hfw)
        clear hb8 B5
        go_wp2_with fail
        exact told_ret rfl rfl rfl HTOLD.out HBAD.out
      · have HBOK : Hid (BeOk T (1 + ni + nl + no + na)) := by
          rw [← HN.out]
          refine HBE.out.1 ?_
          cases wh <;> cases b <;> simp at hout ⊢
        have hcs : wh = true ∨ (wh = false ∧ b = true) := by cases wh <;> cases b <;> simp at hout ⊢
        have b0 : wr.cell? ⟨gb, 0, none⟩ = some (.int .i64 (ni : Int)) := (HB7.out.cell (p := ⟨gb, 0, none⟩) (by show gb < _; omega)).trans ((HC6.out 0 (by decide)).trans ((HC5.out 0 (by decide)).trans ((HC4.out 0 (by decide)).trans (heap_cell HC3.out))))
        have b1 : wr.cell? ⟨gb, 1, none⟩ = some u1 := (HB7.out.cell (p := ⟨gb, 1, none⟩) (by show gb < _; omega)).trans ((HC6.out 1 (by decide)).trans ((HC5.out 1 (by decide)).trans HU1.out))
        have b2 : wr.cell? ⟨gb, 2, none⟩ = some u2 := (HB7.out.cell (p := ⟨gb, 2, none⟩) (by show gb < _; omega)).trans HU2.out
        have b3 : wr.cell? ⟨gb, 3, none⟩ = some u3 := (HB7.out.cell (p := ⟨gb, 3, none⟩) (by show gb < _; omega)).trans ((HC6.out 3 (by decide)).trans HU3.out)
        have hP1 := own_below ((HO1.out.kept HR5.out (own_not HO1.out (by omega))).kept HR6.out (own_not HO1.out (by omega))) HB7.out
        have hP3 := own_below (HO3.out.kept HR6.out (own_not HO3.out (by omega))) HB7.out
        have hP2 := own_below HO2.out HB7.out
        obtain ⟨a1, c1, hx1⟩ := own_form hP1
        obtain ⟨a2, c2, hx2⟩ := own_form hP2
        obtain ⟨a3, c3, hx3⟩ := own_form hP3
        subst hx1 hx2 hx3
        have HNW : Hid (NewAt w3.heap.size ⟨a1, c1, a2, c2, a3, c3⟩) := ⟨own_new hP1 (by omega), own_new hP2 (by omega), own_new hP3 (by omega)⟩
        rw [List.flatMap_def] at hP1 hP2 hP3
        have HG7 : Hid (GrAt wr.heap.size wr ⟨a1, c1, a2, c2, a3, c3⟩ ⟨(ni : Int), ls, ad, os⟩) := by
          obtain ⟨a1', c1', he1, hR1⟩ := own_row hP1 (by intro l hl; obtain ⟨d, _, rfl⟩ := List.mem_map.1 hl; rfl) (by decide)
          obtain ⟨a2', c2', he2, hR2⟩ := own_row hP2 (by intro l hl; obtain ⟨d, _, rfl⟩ := List.mem_map.1 hl; rfl) (by decide)
          obtain ⟨a3', c3', he3, hR3⟩ := own_row hP3 (by intro l hl; obtain ⟨d, _, rfl⟩ := List.mem_map.1 hl; rfl) (by decide)
          simp only [Value.slice.injEq, true_and] at he1 he2 he3
          obtain ⟨rfl, rfl⟩ := he1
          obtain ⟨rfl, rfl⟩ := he2
          obtain ⟨rfl, rfl⟩ := he3
          refine ⟨hR1, hR2, hR3, ?_, ?_, ?_⟩
          · show ls.length < big
            rw [HLL.out]; unfold big; omega
          · show ad.length < big
            rw [HAL.out]; unfold big; omega
          · show os.length < big
            rw [HOL.out]; unfold big; omega
        have HGOOD : Hid (Good T ⟨(ni : Int), ls, ad, os⟩) := by
          have h1 := HLA.out
          have h2 := HOA.out
          rw [HM.out] at h1 h2
          exact ⟨ni, nl, no, na, HHA.out, rfl, HIN.out, HLL.out, h1, HOL.out, h2, HAL.out, HAA.out, HBOK.out⟩
        have HSC : Hid (GrS.cells ⟨a1, c1, a2, c2, a3, c3⟩ ⟨(ni : Int), ls, ad, os⟩ = #[.int .i64 (ni : Int), .slice a1 nl c1, .slice a2 na c2, .slice a3 no c3]) := by
          show GrS.cells _ _ = _
          unfold GrS.cells
          simp only [HLL.out, HOL.out, HAL.out]
        have HW9 : Hid (∀ w9, w9 = (((((wr.setCell ⟨rb, 0, none⟩ (.int .i64 (ni : Int))).setCell ⟨rb, 1, none⟩ (.slice a1 nl c1)).setCell ⟨rb, 2, none⟩ (.slice a2 na c2)).setCell ⟨rb, 3, none⟩ (.slice a3 no c3)).setCell ⟨fb, 0, none⟩ (.int .i64 0)).setCell ⟨fb, 1, none⟩ (.int .i64 0) → w9.heap[rb]? = some (.cells #[.int .i64 (ni : Int), .slice a1 nl c1, .slice a2 na c2, .slice a3 no c3] 28 (0, 0)) ∧ w9.heap[fb]? = some (.cells #[.int .i64 0, .int .i64 0] 38 (0, 0)) ∧ GrAt w9.heap.size w9 ⟨a1, c1, a2, c2, a3, c3⟩ ⟨(ni : Int), ls, ad, os⟩ ∧ Below w.heap.size w w9) := by
          intro w9 h9
          have hk : ∀ k, k ≠ rb → k ≠ fb → w9.heap[k]? = wr.heap[k]? := fun k hk1 hk2 => by
            rw [h9, set_heap _ (Ne.symm hk2), set_heap _ (Ne.symm hk2), set_heap _ (Ne.symm hk1), set_heap _ (Ne.symm hk1), set_heap _ (Ne.symm hk1), set_heap _ (Ne.symm hk1)]
          have hsz : w9.heap.size = wr.heap.size := by rw [h9]; simp [World.setCell]
          refine ⟨?_, ?_, ?_, ?_⟩
          · rw [h9, set_heap _ (Ne.symm hne), set_heap _ (Ne.symm hne)]
            exact set4_heap BX7.out.r _ _ _ _
          · rw [h9]
            refine (set_self (set_self (cs := #[.int .i64 0, .int .i64 0]) ?_)).trans rfl
            rw [set_heap _ hne, set_heap _ hne, set_heap _ hne, set_heap _ hne]
            exact BX7.out.f
          · exact HG7.out.out HNW.out (by omega) (fun k h1 _ => hk k (by omega) (by omega))
          · exact two_below HBW7.out (by omega) (by rw [h9]; rfl) (by rw [h9]; rfl) (by rw [h9]; rfl) (fun k h1 h2 _ => hk k h1 h2) hrw hfw
        clear hP1 hP2 hP3 HG7 HNW hout HL7 HO1 HO2 HO3 HR4 HR5 HR6 HC3 HC4 HC5 HC6 HU1 HU2 HU3
        rcases hcs with hcs | ⟨hcs, hcs2⟩
        · subst hcs
          go_wp2_with fail
          generalize hW9 : World.setCell _ (⟨fb, 1, none⟩ : Addr) _ = w9
          obtain ⟨hr9, hf9, hg9, hb9⟩ := HW9.out w9 hW9.symm
          have HG9 := hidden hg9
          have HB9 := hidden hb9
          have z0 : w9.cell? ⟨rb, 0, none⟩ = some (.int .i64 (ni : Int)) := heap_cell hr9
          have z1 : w9.cell? ⟨rb, 1, none⟩ = some (.slice a1 nl c1) := heap_cell hr9
          have z2 : w9.cell? ⟨rb, 2, none⟩ = some (.slice a2 na c2) := heap_cell hr9
          have z3 : w9.cell? ⟨rb, 3, none⟩ = some (.slice a3 no c3) := heap_cell hr9
          have z4 : w9.cell? ⟨fb, 0, none⟩ = some (.int .i64 0) := heap_cell hf9
          have z5 : w9.cell? ⟨fb, 1, none⟩ = some (.int .i64 0) := heap_cell hf9
          clear hW9 hr9 hf9 hg9 hb9 r0 r1 r2 r3 q0 q1 fr ff b0 b1 b2 b3
          refine bodyPost_ret (v := .tuple #[.agg #[.int .i64 (ni : Int), .slice a1 nl c1, .slice a2 na c2, .slice a3 no c3], .agg #[.int .i64 0, .int .i64 0]]) (by simp [results, Tryd.results11, go_sem, z0, z1, z2, z3, z4, z5]) rfl ?_
          exact ⟨⟨(ni : Int), ls, ad, os⟩, ⟨a1, c1, a2, c2, a3, c3⟩, 0, 0, Or.inl ⟨HGOOD.out, rfl, rfl⟩, by rw [HSC.out], HG9.out, HB9.out⟩
        · subst hcs
          subst hcs2
          go_wp2_with fail
          generalize hW9 : World.setCell _ (⟨fb, 1, none⟩ : Addr) _ = w9
          obtain ⟨hr9, hf9, hg9, hb9⟩ := HW9.out w9 hW9.symm
          have HG9 := hidden hg9
          have HB9 := hidden hb9
          have z0 : w9.cell? ⟨rb, 0, none⟩ = some (.int .i64 (ni : Int)) := heap_cell hr9
          have z1 : w9.cell? ⟨rb, 1, none⟩ = some (.slice a1 nl c1) := heap_cell hr9
          have z2 : w9.cell? ⟨rb, 2, none⟩ = some (.slice a2 na c2) := heap_cell hr9
          have z3 : w9.cell? ⟨rb, 3, none⟩ = some (.slice a3 no c3) := heap_cell hr9
          have z4 : w9.cell? ⟨fb, 0, none⟩ = some (.int .i64 0) := heap_cell hf9
          have z5 : w9.cell? ⟨fb, 1, none⟩ = some (.int .i64 0) := heap_cell hf9
          clear hW9 hr9 hf9 hg9 hb9 r0 r1 r2 r3 q0 q1 fr ff b0 b1 b2 b3
          refine bodyPost_ret (v := .tuple #[.agg #[.int .i64 (ni : Int), .slice a1 nl c1, .slice a2 na c2, .slice a3 no c3], .agg #[.int .i64 0, .int .i64 0]]) (by simp [results, Tryd.results11, go_sem, z0, z1, z2, z3, z4, z5]) rfl ?_
          exact ⟨⟨(ni : Int), ls, ad, os⟩, ⟨a1, c1, a2, c2, a3, c3⟩, 0, 0, Or.inl ⟨HGOOD.out, rfl, rfl⟩, by rw [HSC.out], HG9.out, HB9.out⟩

end Go.Proofs.YtdiahnommkhkiaaDoor
