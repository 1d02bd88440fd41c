import Derived.Test.YtdiahnommkhkiaaDoorJ39
import Derived.Test.YtdiahnommkhkiaaDoorJ40
import Derived.Test.YtdiahnommkhkiaaDoorJ42
import Derived.Test.YtdiahnommkhkiaaDoorJ43
import Derived.Test.YtdiahnommkhkiaaDoorJ32
namespace Go.Proofs.YtdiahnommkhkiaaDoor
open Go.RowKit

theorem badLine_of {T : List UInt8} {ni nl no na k : Nat} {M : Int} (hd : HeadAtB T ni nl no na) (hM : M = 2 * (((ni + nl + na : Nat) : Int) + 1)) (hk : k < nl + no) (h1 : ∀ j, j < k → LineB T nl M j) (h2 : ¬ LineB T nl M k) : BadB T ((offL T k : Nat) : Int) := by
  subst hM
  rcases Nat.lt_or_ge k nl with h' | h'
  · exact badB_lat hd h' (fun j hj => (lineB_lat (by omega)).1 (h1 j hj)) (fun hh => h2 ((lineB_lat h').2 hh))
  · have := badB_out (k := k - nl) hd (fun i hi => (lineB_lat hi).1 (h1 i (by omega))) (by omega) (fun j hj => (lineB_out (by omega)).1 (h1 (nl + j) (by omega))) (fun hh => h2 ((lineB_out h').2 (by rw [show nl + (k - nl) = k by omega] at hh; exact hh)))
    rw [show nl + (k - nl) = k by omega] at this
    exact this
theorem told_retB {w w' : World} {T : List UInt8} {rb fb : Nat} {x : Int} {a : Act} (hd : a.defers = []) (h2 : a.tmps.getD 2 undef = .pointer (some ⟨rb, 0, none⟩)) (h3 : a.tmps.getD 3 undef = .pointer (some ⟨fb, 0, none⟩)) (h : Told w w' rb fb x) (hB : BadB T x) :
    bodyPost Tryd.prog Tryd.f18 (fun e w' => ∃ G S c a, OutcomeB T G c a ∧ e = .returned (.tuple #[.agg (GrS.cells S G), .agg #[.int .i64 c, .int .i64 a]]) ∧ GrAt w'.heap.size w' S G ∧ Below w.heap.size w w') .ret a w' := by
  have r0 : w'.cell? ⟨rb, 0, none⟩ = some (.int .i64 0) := heap_cell h.r
  have r1 : w'.cell? ⟨rb, 1, none⟩ = some (.slice none 0 0) := heap_cell h.r
  have r2 : w'.cell? ⟨rb, 2, none⟩ = some (.slice none 0 0) := heap_cell h.r
  have r3 : w'.cell? ⟨rb, 3, none⟩ = some (.slice none 0 0) := heap_cell h.r
  have q0 : w'.cell? ⟨fb, 0, none⟩ = some (.int .i64 16) := heap_cell h.f
  have q1 : w'.cell? ⟨fb, 1, none⟩ = some (.int .i64 x) := heap_cell h.f
  have h2' : a.tmps[2]?.getD undef = .pointer (some ⟨rb, 0, none⟩) := by simpa using h2
  have h3' : a.tmps[3]?.getD undef = .pointer (some ⟨fb, 0, none⟩) := by simpa using h3
  refine bodyPost_ret (v := .tuple #[.agg (GrS.cells zeroS zeroG), .agg #[.int .i64 16, .int .i64 x]]) ?_ hd ⟨zeroG, zeroS, 16, x, Or.inr ⟨hB, rfl, rfl⟩, rfl, zeroAt _ _, h.b⟩
  simp [results, Tryd.results18, go_sem, h2', h3', r0, r1, r2, r3, q0, q1, GrS.cells, zeroS, zeroG]
set_option maxRecDepth 100000 in
set_option maxHeartbeats 16000000 in
theorem aigUnpack_any (T : List UInt8) (hT : T.length ≤ 1048576) (av : Option Addr) (cv : Nat) (w : World) (hbt : BtAt w av cv T) :
    Calls Tryd.prog 18 #[.slice av T.length cv] w fun e w' => ∃ G S c a, OutcomeB T G c a ∧ e = .returned (.tuple #[.agg (GrS.cells S G), .agg #[.int .i64 c, .int .i64 a]]) ∧ GrAt w'.heap.size w' S G ∧ Below w.heap.size w w' := by
  have HBT := hidden hbt
  have hcap := hbt.1
  clear hbt
  obtain ⟨tl, htl⟩ : ∃ x, x = T.length := ⟨_, rfl⟩
  have HTL := hidden htl
  rw [← htl] at hcap ⊢
  clear htl
  go_enter Tryd.func18, Tryd.ntmps18
  go_upto_region 1 with fail
  generalize hW0 : World.alloc (World.alloc w _) _ = W0
  obtain ⟨rb, hrb⟩ : ∃ x, x = w.heap.size := ⟨_, rfl⟩
  obtain ⟨fb, hfb⟩ : ∃ x, x = w.heap.size + 1 := ⟨_, rfl⟩
  have HB0 : Hid (Below w.heap.size w W0) := by rw [← hW0]; exact ((Below.refl _ _).alloc (Nat.le_refl _) _).alloc (by simp) _
  have BX0 : Hid (Boxes W0 rb fb) := by
    refine ⟨?_, ?_⟩
    · rw [← hW0, hrb, heap_alloc_old _ _ (by simp)]; exact heap_new _ _
    · rw [← hW0, hfb]
      have := heap_new (w.alloc (.cells #[.int .i64 0, .slice none 0 0, .slice none 0 0, .slice none 0 0] 28)) (.cells #[.int .i64 0, .int .i64 0] 38)
      simpa using this
  have hfl0 : fb < W0.heap.size := by rw [← hW0, hfb]; simp
  rw [← hfb, ← hrb]
  have hrw : w.heap.size ≤ rb := by omega
  have hfw : w.heap.size ≤ fb := by omega
  have hne : rb ≠ fb := by omega
  have hrl0 : rb < W0.heap.size := by omega
  clear hW0 hrb hfb
  have L1 := hidden (line_doc T hT av cv 0 (Nat.zero_le _) W0 (HBT.out.to HB0.out))
  rw [← HTL.out] at L1
  go_wp2_with fail
  go_at_call 30
  refine L1.out.mono ?_
  rintro e w1 ⟨hcl, hb1⟩
  have BX1 := hidden (BX0.out.below hb1 hrl0 hfl0)
  have HB1 : Hid (Below w.heap.size w w1) := HB0.out.trans (hb1.mono HB0.out.size)
  have hs1 := hb1.size
  clear hb1 L1 BX0 HB0
  rcases hcl with ⟨t, hl1, rfl⟩ | ⟨hl1, rfl⟩
  rotate_left
  · have HBAD : Hid (BadB T 0) := badB_head (fun ⟨a, h, h1, _⟩ => by rw [hl1] at h1; cases h1)
    have HDR := hidden (header_by [] (by simp) w1)
    clear hl1
    generalize bs [] = st at *
    go_wp2_with fail
    go_at_call 24
    refine HDR.out.mono ?_
    rintro e w2 ⟨hb2, hcase⟩
    have BX2 := hidden (BX1.out.below hb2 (by omega) (by omega))
    have HB2 : Hid (Below w.heap.size w w2) := HB1.out.trans (hb2.mono HB1.out.size)
    have hs2 := hb2.size
    clear hb2 HDR BX1 HB1
    rcases hcase with ⟨ni, nl, no, na, hH, rfl⟩ | ⟨hno, rfl⟩
    · exact absurd hH.1 (by decide +kernel)
    · unfold zeroH
      clear hno
      go_upto_region 4 with fail
      generalize hV : World.alloc w2 _ = V
      have HBV : Hid (Below w2.heap.size w2 V) := by rw [← hV]; exact (Below.refl _ _).alloc (Nat.le_refl _) _
      have BX1 := hidden (BX2.out.below HBV.out (by omega) (by omega))
      have B5 := hidden (badByte_any 0 V)
      have hsV := HBV.out.size
      have HB1 : Hid (Below w.heap.size w V) := HB2.out.trans (HBV.out.mono HB2.out.size)
      clear hV
      go_wp2_with fail
      go_at_call 31
      refine B5.out.mono ?_
      rintro e w8 ⟨rfl, hb8⟩
      have HBX8 := hidden (BX1.out.below hb8 (by omega) (by omega))
      have HBW8 : Hid (Below w.heap.size w w8) := HB1.out.trans (hb8.mono HB1.out.size)
      have r0 : w8.cell? ⟨rb, 0, none⟩ = some (.int .i64 0) := heap_cell HBX8.out.r
      have r1 : w8.cell? ⟨rb, 1, none⟩ = some (.slice none 0 0) := heap_cell HBX8.out.r
      have r2 : w8.cell? ⟨rb, 2, none⟩ = some (.slice none 0 0) := heap_cell HBX8.out.r
      have r3 : w8.cell? ⟨rb, 3, none⟩ = some (.slice none 0 0) := heap_cell HBX8.out.r
      have q0 : w8.cell? ⟨fb, 0, none⟩ = some (.int .i64 0) := heap_cell HBX8.out.f
      have q1 : w8.cell? ⟨fb, 1, none⟩ = some (.int .i64 0) := heap_cell HBX8.out.f
      have fr : ∀ j, w8.frozen? ⟨rb, j, none⟩ = false := fun j => heap_fz HBX8.out.r j
      have ff : ∀ j, w8.frozen? ⟨fb, j, none⟩ = false := fun j => heap_fz HBX8.out.f j
      have HTOLD := hidden (told_of 0 HBX8.out hne HBW8.out hrw hfw)
      clear hb8 B5
      go_wp2_with fail
      exact told_retB rfl rfl rfl HTOLD.out HBAD.out
  have HLI := hidden hl1
  have htl1 := lineAt_len hl1
  have hoff : 0 + t.length + 1 = offL T 0 := (nextB_some hl1).symm
  have HDR := hidden (header_by t (by omega) w1)
  have HP0 : Hid (offL T 0 ≤ T.length) := by show _ ≤ _; omega
  rw [hoff]
  clear hl1 hoff
  generalize bs t = st at *
  generalize hpp : offL T 0 = p0 at *
  have HPP := hidden hpp
  clear hpp
  go_wp2_with fail
  go_at_call 24
  refine HDR.out.mono ?_
  rintro e w2 ⟨hb2, hcase⟩
  have BX2 := hidden (BX1.out.below hb2 (by omega) (by omega))
  have HB2 : Hid (Below w.heap.size w w2) := HB1.out.trans (hb2.mono HB1.out.size)
  have hs2 := hb2.size
  clear hb2 HDR BX1 HB1
  rcases hcase with ⟨ni, nl, no, na, hH, rfl⟩ | ⟨hno, rfl⟩
  rotate_left
  · have HBAD : Hid (BadB T 0) := badB_head (fun ⟨a, h, h1, h2⟩ => by rw [HLI.out] at h1; cases h1; exact hno ⟨h, h2⟩)
    unfold zeroH
    clear hno
    go_upto_region 4 with fail
    generalize hV : World.alloc w2 _ = V
    have HBV : Hid (Below w2.heap.size w2 V) := by rw [← hV]; exact (Below.refl _ _).alloc (Nat.le_refl _) _
    have BX1 := hidden (BX2.out.below HBV.out (by omega) (by omega))
    have B5 := hidden (badByte_any 0 V)
    have hsV := HBV.out.size
    have HB1 : Hid (Below w.heap.size w V) := HB2.out.trans (HBV.out.mono HB2.out.size)
    clear hV
    go_wp2_with fail
    go_at_call 31
    refine B5.out.mono ?_
    rintro e w8 ⟨rfl, hb8⟩
    have HBX8 := hidden (BX1.out.below hb8 (by omega) (by omega))
    have HBW8 : Hid (Below w.heap.size w w8) := HB1.out.trans (hb8.mono HB1.out.size)
    have r0 : w8.cell? ⟨rb, 0, none⟩ = some (.int .i64 0) := heap_cell HBX8.out.r
    have r1 : w8.cell? ⟨rb, 1, none⟩ = some (.slice none 0 0) := heap_cell HBX8.out.r
    have r2 : w8.cell? ⟨rb, 2, none⟩ = some (.slice none 0 0) := heap_cell HBX8.out.r
    have r3 : w8.cell? ⟨rb, 3, none⟩ = some (.slice none 0 0) := heap_cell HBX8.out.r
    have q0 : w8.cell? ⟨fb, 0, none⟩ = some (.int .i64 0) := heap_cell HBX8.out.f
    have q1 : w8.cell? ⟨fb, 1, none⟩ = some (.int .i64 0) := heap_cell HBX8.out.f
    have fr : ∀ j, w8.frozen? ⟨rb, j, none⟩ = false := fun j => heap_fz HBX8.out.r j
    have ff : ∀ j, w8.frozen? ⟨fb, j, none⟩ = false := fun j => heap_fz HBX8.out.f j
    have HTOLD := hidden (told_of 0 HBX8.out hne HBW8.out hrw hfw)
    clear hb8 B5
    go_wp2_with fail
    exact told_retB rfl rfl rfl HTOLD.out HBAD.out
  have HHA : Hid (HeadAtB T ni nl no na) := ⟨t, HLI.out, hH⟩
  obtain ⟨hb1, hb2, hb3⟩ := HHA.out.bound
  clear hH
  go_upto_region 3 with fail
  generalize hV : World.alloc w2 _ = V
  obtain ⟨hb, hhb⟩ : ∃ x, x = w2.heap.size := ⟨_, rfl⟩
  have HBV : Hid (Below w2.heap.size w2 V) := by rw [← hV]; exact (Below.refl _ _).alloc (Nat.le_refl _) _
  have HHV : Hid (V.heap[hb]? = some (.cells #[.int .i64 (ni : Int), .int .i64 (nl : Int), .int .i64 (no : Int), .int .i64 (na : Int)] 60 (0, 0))) := by rw [← hV, hhb]; exact heap_new _ _
  have hbV : hb < V.heap.size := by rw [← hV, hhb]; simp
  rw [← hhb]
  have hbw : w2.heap.size ≤ hb := by omega
  clear hV hhb
  have hsV := HBV.out.size
  have g0 : V.cell? ⟨hb, 0, none⟩ = some (.int .i64 (ni : Int)) := heap_cell HHV.out
  go_upto_region 6 with fail
  generalize hX : World.alloc V _ = X
  obtain ⟨gb, hgb⟩ : ∃ x, x = V.heap.size := ⟨_, rfl⟩
  have HBX' : Hid (Below V.heap.size V X) := by rw [← hX]; exact (Below.refl _ _).alloc (Nat.le_refl _) _
  have HXC : Hid (X.heap[gb]? = some (.cells #[.int .i64 (ni : Int), .slice none 0 0, .slice none 0 0, .slice none 0 0] 28 (0, 0))) := by rw [← hX, hgb]; exact heap_new _ _
  have hgX : gb < X.heap.size := by rw [← hX, hgb]; simp
  rw [← hgb]
  have hgw : V.heap.size ≤ gb := by omega
  clear hX hgb g0
  have hsX := HBX'.out.size
  have HHX := hidden ((HBX'.out.block hb hbV).trans HHV.out)
  have HB2X : Hid (Below w2.heap.size w2 X) := HBV.out.trans (HBX'.out.mono HBV.out.size)
  have BXX := hidden (BX2.out.below HB2X.out (by omega) (by omega))
  have HBX : Hid (Below w.heap.size w X) := HB2.out.trans (HB2X.out.mono HB2.out.size)
  have g0 : X.cell? ⟨hb, 0, none⟩ = some (.int .i64 (ni : Int)) := heap_cell HHX.out
  have g1 : X.cell? ⟨hb, 1, none⟩ = some (.int .i64 (nl : Int)) := heap_cell HHX.out
  have g3 : X.cell? ⟨hb, 3, none⟩ = some (.int .i64 (na : Int)) := heap_cell HHX.out
  have e1 : IntKind.i64.wrap (1 + (ni : Int)) = 1 + (ni : Int) := wrapI _ (by omega) (by omega)
  have e2 : IntKind.i64.wrap (1 + (ni : Int) + (nl : Int)) = 1 + (ni : Int) + (nl : Int) := wrapI _ (by omega) (by omega)
  have e3 : IntKind.i64.wrap (1 + (ni : Int) + (nl : Int) + (na : Int)) = 1 + (ni : Int) + (nl : Int) + (na : Int) := wrapI _ (by omega) (by omega)
  have e4 : IntKind.i64.wrap (2 * (1 + (ni : Int) + (nl : Int) + (na : Int))) = 2 * (1 + (ni : Int) + (nl : Int) + (na : Int)) := wrapI _ (by omega) (by omega)
  have HG2 : Hid (X.cell? ⟨hb, 2, none⟩ = some (.int .i64 (no : Int))) := heap_cell HHX.out
  clear HHV HBV HBX' HB2X BX2 HB2
  go_upto_block 0 with fail
  obtain ⟨M, hMM⟩ : ∃ x : Int, x = 2 * (1 + (ni : Int) + (nl : Int) + (na : Int)) := ⟨_, rfl⟩
  have HM : Hid (M = 2 * (((ni + nl + na : Nat) : Int) + 1)) := by show _ = _; omega
  rw [← hMM]
  clear hMM e1 e2 e3 e4
  have HG0 := hidden g0
  have HG1 := hidden g1
  have HG3 := hidden g3
  clear g0 g1 g3
  rw [← HPP.out, HTL.out]
  refine auLines w X rb fb hb gb nl no T M av cv hT HBT BXX hne HBX hrw hfw (by omega) (by omega) (by omega) (by omega) (by omega) (by have := HBX.out.size; omega) hgX (by omega) (by omega) (by omega) (heap_cell HXC.out) (heap_cell HXC.out) (heap_fz HXC.out) HG1 HG2 (by rw [HPP.out]; exact HP0.out) _ _ _ _ _ _ _ _ _ _ _ _ _ _ _ _ _ _ _ _ _ _ _ _ _ _ _ _ _ _ _ _ _ _ _ _ _ _ _ _ _ _ _ _ _ _ _ _ _ _ _ _ _ _ _ _ _ _ _ _ _ _ _ _ _ _ _ _ _ _ _ _ _ _ _ _ _ _ _ _ _ _ _ _ _ _ _ _ _ _ _ _ _ _ _ _ _ _ _ _ _ _ _ _ _ _ _ _ _ _ _ _ _ _ _ _ _ _ _ _ _ _ _ _ _ _ _ _ _ _ _ _ _ _ _ _ _ _ _ _ _ _ _ _ _ _ _ _ _ _ _ _ _ _ _ _ _ _ _ _ _ _ _ _ _ _ _ _ _ _ _ _ _ _ _ _ _ _ _ _ _ _ _ _ _ _ _ _ _ _ _ _ _ _ _ _ _ _ _ _ _ _ _ _ _ _ _ _ _ _ _ _ _ _ _ _ _ _ _ _ _ _ _ _ _ _ _ _ _ _ _ _ _ _ _ _ _ _ _ _ _ _ (hidden ?_) (hidden ?_)
  rotate_left
  · intro k a' w' hk h1 h2 hd2 hg2 hg3 ht
    exact told_retB hd2 hg2 hg3 ht (badLine_of HHA.out HM.out hk h1 h2)
  intro w4 v11 v12 v13 v14 v15 v16 v62 v63 v64 v65 v66 v67 v68 v69 v70 v71 v72 v73 v74 v75 v76 v77 v78 v79 v80 v81 v82 v83 v84 v85 v86 v87 v88 v89 v90 v91 v92 v93 v94 v95 v96 v97 v98 v99 v100 v101 v102 v103 v104 v105 v106 v107 v108 v109 v110 v111 v112 v113 v114 v115 v116 v117 v118 v119 v120 v121 v122 v123 v124 v125 v126 v127 v128 v129 v130 v131 v132 v133 v134 v135 hcut
  obtain ⟨ls, os, u1, u3, B, hpl, htw⟩ := hcut
  have TW := hidden htw
  have HPL := hidden hpl
  have hs4 := htw.gr.size
  have BX4 := hidden (BXX.out.grown htw.gr (by omega) (by omega) (by omega) (by omega))
  have HBW4 : Hid (Below w.heap.size w w4) := HBX.out.trans (below_grown htw.gr HBX.out.size (fun x hx => by have := Option.some.inj hx; have := HBX.out.size; omega))
  have HD4 : Hid (∀ j, w4.cell? ⟨hb, j, none⟩ = X.cell? ⟨hb, j, none⟩) := fun j => gcell htw.gr (by omega) (by omega)
  have HLE : Hid (∀ i, i < nl → ∃ d, LatB T (offL T i) (2 * (((ni + nl + na : Nat) : Int) + 1)) d) := fun i hi => by rw [← HM.out]; exact (lineB_lat hi).1 (htw.lines i (by omega))
  have HOE : Hid (∀ i, i < no → ∃ d, OutB T (offL T (nl + i)) (2 * (((ni + nl + na : Nat) : Int) + 1)) d) := fun i hi => by rw [← HM.out]; exact (lineB_out (by omega)).1 (htw.lines (nl + i) (by omega))
  clear htw hpl BXX
  go_upto_block 2 with fail
  refine auAnds w w4 rb fb hb gb (nl + no) ni nl na T av cv hT HBT BX4 hne HBW4 hrw hfw (by omega) (by omega) (by omega) (by omega) (by omega) (by omega) (by have := HBX.out.size; omega) (by omega) (by omega) (by omega) (by omega) ((TW.out.hj 2 (by decide) (by decide)).trans (heap_cell HXC.out)) TW.out.fz (show _ = _ from (HD4.out 0).trans HG0.out) (show _ = _ from (HD4.out 1).trans HG1.out) (show _ = _ from (HD4.out 3).trans HG3.out) HPL.out _ _ _ _ _ _ _ _ _ _ _ _ _ _ _ _ _ _ _ _ _ _ _ _ _ _ _ _ _ _ _ _ _ _ _ _ _ _ _ _ _ _ _ _ _ _ _ _ _ _ _ _ _ _ _ _ _ _ _ _ _ _ _ _ _ _ _ _ _ _ _ _ _ _ _ _ _ _ _ _ _ _ _ _ _ _ _ _ _ _ _ _ _ _ _ _ _ _ _ _ _ _ _ _ _ _ _ _ _ _ _ _ _ _ _ _ _ _ _ _ _ _ _ _ _ _ _ _ _ _ _ _ _ _ _ _ _ _ _ _ _ _ _ _ _ _ _ _ _ _ _ _ _ _ _ _ _ _ _ _ _ _ _ _ _ _ _ _ _ _ _ _ _ _ _ _ _ _ _ _ _ _ _ _ _ _ _ _ _ _ _ _ _ _ _ _ _ _ _ _ _ _ _ _ _ _ _ _ _ _ _ _ _ _ _ _ _ _ _ _ _ _ _ _ _ _ _ _ _ _ _ _ _ _ _ _ _ _ _ _ _ _ _ (hidden ?_) (hidden ?_)
  rotate_left
  · intro k a' w' hk h1 h2 hd2 hg2 hg3 ht
    exact told_retB hd2 hg2 hg3 ht (badB_and HHA.out HLE.out HOE.out hk h1 h2)
  intro w5 v17 v18 v19 v20 v21 v22 v23 v136 v137 v138 v139 v140 v141 v142 v143 v144 v145 v146 v147 v148 v149 v150 v151 v152 v153 v154 v155 v156 v157 v158 v159 v160 v161 v162 v163 v164 v165 v166 v167 v168 v169 v170 v171 v172 v173 v174 v175 v176 v177 v178 v179 v180 v181 v182 v183 v184 v185 v186 v187 v188 v189 v190 v191 v192 v193 v194 v195 v196 v197 v198 v199 v200 v201 v202 v203 v204 v205 v206 v207 hcut
  obtain ⟨ad, u2, hpa, hl1, hl2, hl3, hl4, hl5, hl6, hl7⟩ := hcut
  have HAL := hidden hl1
  have HAA := hidden hl2
  have HU2 := hidden hl3
  have HO2 := hidden hl4
  have HR5 := hidden hl5
  have HC5 := hidden hl7
  have hs5 := hl5.size
  have BX5 := hidden (BX4.out.grown hl5 (by omega) (by omega) (by omega) (by omega))
  have HBW5 : Hid (Below w.heap.size w w5) := HBW4.out.trans (below_grown hl5 HBW4.out.size (fun x hx => by have := Option.some.inj hx; have := HBX.out.size; omega))
  have HAE : Hid (∀ i, i < na → ∃ d, AndB T (offA T (nl + no) i) (2 * (1 + (ni : Int) + (nl : Int) + (i : Int))) d) := fun i hi => ex_el (P := fun i d => AndB T (offA T (nl + no) i) (2 * (1 + (ni : Int) + (nl : Int) + (i : Int))) d) hl1 hl2 hi
  clear hl1 hl2 hl3 hl4 hl5 hl6 hl7 BX4
  obtain ⟨pe, hpe⟩ : ∃ x, x = offA T (nl + no) na := ⟨_, rfl⟩
  have HPE := hidden hpe
  rw [← hpe] at hpa ⊢
  clear hpe
  have htl1' : 0 < T.length := by omega
  obtain ⟨vb, vo, rfl, hvb, _⟩ := HBT.out.2.1 (by intro e; rw [e] at htl1'; simp at htl1')
  obtain ⟨U, hU⟩ : ∃ U, U = T.drop pe := ⟨_, rfl⟩
  have hUL : U.length = T.length - pe := by rw [hU]; simp
  have hcv := ((HBT.out.to HBW5.out).sub (p := pe) (q := T.length) hpa (Nat.le_refl _)).conv
  rw [List.take_length, ← hU, hUL] at hcv
  have hcv2 : cv = pe → (convert 30 9 (.slice (some ⟨vb, vo, none⟩) (T.length - pe) 0)).run Tryd.prog w5 = .ok (.string (bs U)) w5 := fun hc => by
    have h0 : T.length - pe = 0 := by have := HTL.out; omega
    have hU0 : U = [] := List.eq_nil_of_length_eq_zero (by omega)
    rw [h0, hU0]
    exact run_convert_bytes_back w5 30 9 5 ⟨vb, vo, none⟩ 0 [] Tryd.underlying30 Tryd.underlying5 Tryd.underlying9 (fun j hj => by simp at hj)
  have HU := hidden hU
  have LI := hidden (lines_any U (by omega) w5)
  have hll := lines_len U
  have hU8 : U.length ≤ 1048576 := by omega
  rw [← HTL.out] at hcv hcv2 hpa hUL htl1' ⊢
  clear hU
  have hpI : (pe : Int) ≤ (tl : Int) := by omega
  have htI : (tl : Int) ≤ (cv : Int) := by omega
  generalize bs U = sU at *
  go_wp2_with fail
  all_goals
    go_at_call 22
    refine LI.out.mono ?_
    rintro e w6 ⟨v, rfl, ho, hb6⟩
    obtain ⟨la, lc, rfl, hln, hlnew⟩ := lnAt_of (T := U) ho
    have BX6 := hidden (BX5.out.below hb6 (by omega) (by omega))
    have HBW6 : Hid (Below w.heap.size w w6) := HBW5.out.trans (hb6.mono HBW5.out.size)
    have HB6 := hidden hb6
    have hs6 := hb6.size
    obtain ⟨wh, HWH⟩ : ∃ x, Hid ((restOf U).isEmpty = x) := ⟨_, rfl⟩
    rw [show (sp 10 U).2.isEmpty = wh from HWH.out]
    have HL6 := hidden hln
    have BH := hidden (behind_any U (by omega) la lc w6 hln 0 (Nat.zero_le _))
    clear hcv hcv2 hb6 ho LI hln
    obtain ⟨ln, hlnd⟩ : ∃ x, x = (linesOf U).length := ⟨_, rfl⟩
    have HLND := hidden hlnd
    rw [← hlnd] at BH hll ⊢
    clear hlnd
    go_wp2_with fail
    go_at_call 26
    refine BH.out.mono ?_
    rintro e w7 ⟨hb7, hcase⟩
    have HL7 := hidden (HL6.out.to hb7)
    have BX7 := hidden (BX6.out.below hb7 (by omega) (by omega))
    have HBW7 : Hid (Below w.heap.size w w7) := HBW6.out.trans (hb7.mono HBW6.out.size)
    have HB57 : Hid (Below w5.heap.size w5 w7) := HB6.out.trans (hb7.mono HB6.out.size)
    have hs7 := hb7.size
    clear hb7 BH BX6
    obtain ⟨kv, he, hkv⟩ : ∃ kv : Int, e = .returned (.int .i64 kv) ∧ ((kv = 0 ∧ ∃ m, 0 ≤ m ∧ Names U 0 m ∧ ((linesOf U)[m]? = some [99] ∨ m = (linesOf U).length)) ∨ (0 < kv ∧ ¬ BeOk U 0)) := by
      rcases hcase with ⟨he, hok⟩ | ⟨m, he, hm1, hm2, hm3, hm4⟩
      · exact ⟨0, he, Or.inl ⟨rfl, by rw [HLND.out] at hok; exact hok⟩⟩
      · exact ⟨_, he, Or.inr ⟨by omega, fun hok => be_not hok ⟨hm2, hm3, Or.inl hm4⟩⟩⟩
    subst he
    have HKV := hidden hkv
    clear hcase hkv
    go_wp2_with fail
    go_loopw [27, 28] (fun b' i' w' => ∃ (k : Nat) (b : Bool), k ≤ ln ∧ b' = .bool b ∧ i' = .int .i64 k ∧ Hid (b = true ↔ ∃ j, j < k ∧ (linesOf U)[j]? = some [99]) ∧ w' = w7) (fun _ i' _ => ln - (intOf i').toNat)
    case atStart => exact ⟨0, false, Nat.zero_le _, rfl, rfl, (show _ ↔ _ from ⟨fun h => (by cases h), fun ⟨j, h1, _⟩ => (by omega)⟩), rfl⟩
    case round =>
      obtain ⟨k, b, hk, rfl, rfl, HC, hwr⟩ := hrel
      subst hwr
      by_cases hlt : k < ln
      · have hltI : (k : Int) < (ln : Int) := by omega
        obtain ⟨l, hl⟩ := getElem_lt (show k < (linesOf U).length by rw [← HLND.out]; exact hlt)
        obtain ⟨lb', rfl, hlb2, hlc⟩ := HL7.out k l hl
        have HLl := hidden hl
        have hce : ((bs l).toList == [99]) = decide (l = [99]) := by rw [bs_toList]; by_cases hx : l = [99] <;> simp [hx]
        have e9 : IntKind.i64.wrap ((k : Int) + 1) = (k : Int) + 1 := wrapI _ (by omega) (by omega)
        have HSTEP : Hid (∀ b', (b' = true ↔ b = true ∨ l = [99]) → (b' = true ↔ ∃ j, j < k + 1 ∧ (linesOf U)[j]? = some [99])) := fun b' hb' => by
          rw [hb', HC.out]
          refine ⟨fun h => ?_, fun ⟨j, h2, h3⟩ => ?_⟩
          · rcases h with ⟨j, h2, h3⟩ | h
            · exact ⟨j, by omega, h3⟩
            · exact ⟨k, by omega, by rw [HLl.out, h]⟩
          · rcases Nat.lt_or_ge j k with h' | h'
            · exact .inl ⟨j, h', h3⟩
            · have : j = k := by omega
              subst this
              rw [HLl.out] at h3
              exact .inr (Option.some.inj h3)
        clear hl
        generalize bs l = sl at *
        cases b
        · by_cases h99 : l = [99]
          · have hd9 : decide (l = [99]) = true := by simp [h99]
            rw [hd9] at hce
            have HC2 := hidden (HSTEP.out true ⟨fun _ => .inr h99, fun _ => rfl⟩)
            clear h99 hd9
            go_wp2
            go_roundw
            case measure => simp [intOf]; omega
            case rel => exact ⟨k + 1, true, by omega, rfl, by simp, HC2.out, by first | rfl | trivial⟩
          · have hd9 : decide (l = [99]) = false := by simp [h99]
            rw [hd9] at hce
            have HC2 := hidden (HSTEP.out false ⟨fun h => (by cases h), fun h => h.elim (fun h => (by cases h)) (fun h => absurd h h99)⟩)
            clear h99 hd9
            go_wp2
            go_roundw
            case measure => simp [intOf]; omega
            case rel => exact ⟨k + 1, false, by omega, rfl, by simp, HC2.out, by first | rfl | trivial⟩
        · have HC2 := hidden (HSTEP.out true ⟨fun _ => .inl rfl, fun _ => rfl⟩)
          go_wp2
          go_roundw
          case measure => simp [intOf]; omega
          case rel => exact ⟨k + 1, true, by omega, rfl, by simp, HC2.out, by first | rfl | trivial⟩
      · have hltI : ¬ (k : Int) < (ln : Int) := by omega
        have HCB : Hid (b = true ↔ ∃ j, 0 ≤ j ∧ (linesOf U)[j]? = some [99]) := by
          show _ ↔ _
          rw [HC.out]
          refine ⟨fun ⟨j, _, h3⟩ => ⟨j, Nat.zero_le _, h3⟩, fun ⟨j, _, h3⟩ => ⟨j, ?_, h3⟩⟩
          have := (List.getElem?_eq_some_iff.1 h3).1
          have := HLND.out
          omega
        have HDEC : Hid ((kv = 0 ∧ (wh = true ∨ (wh = false ∧ b = true)) ∧ BeOk U 0) ∨ ((0 < kv ∨ (kv = 0 ∧ wh = false ∧ b = false)) ∧ ¬ BeOk U 0)) := by
          rcases HKV.out with ⟨hk0, hok⟩ | ⟨hkp, hno⟩
          · have hbe := be_end (T := U) (n := 0) hok HCB.out
            rw [HWH.out] at hbe
            cases hwh : wh with
            | true => rw [hwh] at hbe; exact Or.inl ⟨hk0, Or.inl rfl, hbe.1 (Or.inl rfl)⟩
            | false =>
              rw [hwh] at hbe
              cases hbb : b with
              | true => rw [hbb] at hbe; exact Or.inl ⟨hk0, Or.inr ⟨rfl, rfl⟩, hbe.1 (Or.inr rfl)⟩
              | false => rw [hbb] at hbe; exact Or.inr ⟨Or.inr ⟨hk0, rfl, rfl⟩, fun hok => be_not hok (hbe.2 rfl rfl)⟩
          · exact Or.inr ⟨Or.inl hkp, hno⟩
        clear HC HKV
        rcases HDEC.out with ⟨hk0, hcs, hbok⟩ | ⟨hcs, hbno⟩
        rotate_left
        · have HBAD : Hid (BadB T (pe : Int)) := by
            rw [HPE.out]
            exact badB_be HHA.out HLE.out HOE.out HAE.out (by rw [← HPE.out, ← HU.out]; exact hbno)
          have B5 := hidden (badByte_any (pe : Int) wr)
          have BX1 := BX7
          have HB1 := HBW7
          clear hbno HDEC
          rcases hcs with hkp | ⟨hk0, hwf, hbf⟩
          · have hk0b : ¬ kv = 0 := by omega
            go_wp2_with fail
            go_at_call 31
            refine B5.out.mono ?_
            rintro e w8 ⟨rfl, hb8⟩
            have HBX8 := hidden (BX1.out.below hb8 (by omega) (by omega))
            have HBW8 : Hid (Below w.heap.size w w8) := HB1.out.trans (hb8.mono HB1.out.size)
            have r0 : w8.cell? ⟨rb, 0, none⟩ = some (.int .i64 0) := heap_cell HBX8.out.r
            have r1 : w8.cell? ⟨rb, 1, none⟩ = some (.slice none 0 0) := heap_cell HBX8.out.r
            have r2 : w8.cell? ⟨rb, 2, none⟩ = some (.slice none 0 0) := heap_cell HBX8.out.r
            have r3 : w8.cell? ⟨rb, 3, none⟩ = some (.slice none 0 0) := heap_cell HBX8.out.r
            have q0 : w8.cell? ⟨fb, 0, none⟩ = some (.int .i64 0) := heap_cell HBX8.out.f
            have q1 : w8.cell? ⟨fb, 1, none⟩ = some (.int .i64 0) := heap_cell HBX8.out.f
            have fr : ∀ j, w8.frozen? ⟨rb, j, none⟩ = false := fun j => heap_fz HBX8.out.r j
            have ff : ∀ j, w8.frozen? ⟨fb, j, none⟩ = false := fun j => heap_fz HBX8.out.f j
            have HTOLD := hidden (told_of (pe : Int) HBX8.out hne HBW8.out hrw hfw)
            clear hb8 B5
            go_wp2_with fail
            exact told_retB rfl rfl rfl HTOLD.out HBAD.out
          · subst hk0
            subst hwf
            subst hbf
            go_wp2_with fail
            go_at_call 31
            refine B5.out.mono ?_
            rintro e w8 ⟨rfl, hb8⟩
            have HBX8 := hidden (BX1.out.below hb8 (by omega) (by omega))
            have HBW8 : Hid (Below w.heap.size w w8) := HB1.out.trans (hb8.mono HB1.out.size)
            have r0 : w8.cell? ⟨rb, 0, none⟩ = some (.int .i64 0) := heap_cell HBX8.out.r
            have r1 : w8.cell? ⟨rb, 1, none⟩ = some (.slice none 0 0) := heap_cell HBX8.out.r
            have r2 : w8.cell? ⟨rb, 2, none⟩ = some (.slice none 0 0) := heap_cell HBX8.out.r
            have r3 : w8.cell? ⟨rb, 3, none⟩ = some (.slice none 0 0) := heap_cell HBX8.out.r
            have q0 : w8.cell? ⟨fb, 0, none⟩ = some (.int .i64 0) := heap_cell HBX8.out.f
            have q1 : w8.cell? ⟨fb, 1, none⟩ = some (.int .i64 0) := heap_cell HBX8.out.f
            have fr : ∀ j, w8.frozen? ⟨rb, j, none⟩ = false := fun j => heap_fz HBX8.out.r j
            have ff : ∀ j, w8.frozen? ⟨fb, j, none⟩ = false := fun j => heap_fz HBX8.out.f j
            have HTOLD := hidden (told_of (pe : Int) HBX8.out hne HBW8.out hrw hfw)
            clear hb8 B5
            go_wp2_with fail
            exact told_retB rfl rfl rfl HTOLD.out HBAD.out
        · have r0 : wr.cell? ⟨rb, 0, none⟩ = some (.int .i64 0) := heap_cell BX7.out.r
          have r1 : wr.cell? ⟨rb, 1, none⟩ = some (.slice none 0 0) := heap_cell BX7.out.r
          have r2 : wr.cell? ⟨rb, 2, none⟩ = some (.slice none 0 0) := heap_cell BX7.out.r
          have r3 : wr.cell? ⟨rb, 3, none⟩ = some (.slice none 0 0) := heap_cell BX7.out.r
          have q0 : wr.cell? ⟨fb, 0, none⟩ = some (.int .i64 0) := heap_cell BX7.out.f
          have q1 : wr.cell? ⟨fb, 1, none⟩ = some (.int .i64 0) := heap_cell BX7.out.f
          have fr : ∀ j, wr.frozen? ⟨rb, j, none⟩ = false := fun j => heap_fz BX7.out.r j
          have ff : ∀ j, wr.frozen? ⟨fb, j, none⟩ = false := fun j => heap_fz BX7.out.f j
          have HBOK : Hid (BeOk (T.drop (offA T (nl + no) na)) 0) := by rw [← HPE.out, ← HU.out]; exact hbok
          have HLL : Hid (ls.length = nl) := by have := TW.out.l1; show _ = _; omega
          have HOL : Hid (os.length = no) := by have := TW.out.l3; show _ = _; omega
          have b0 : wr.cell? ⟨gb, 0, none⟩ = some (.int .i64 (ni : Int)) := (HB57.out.cell (p := ⟨gb, 0, none⟩) (by show gb < _; omega)).trans ((HC5.out 0 (by decide)).trans ((TW.out.hj 0 (by decide) (by decide)).trans (heap_cell HXC.out)))
          have b1 : wr.cell? ⟨gb, 1, none⟩ = some u1 := (HB57.out.cell (p := ⟨gb, 1, none⟩) (by show gb < _; omega)).trans ((HC5.out 1 (by decide)).trans TW.out.c1)
          have b2 : wr.cell? ⟨gb, 2, none⟩ = some u2 := (HB57.out.cell (p := ⟨gb, 2, none⟩) (by show gb < _; omega)).trans HU2.out
          have b3 : wr.cell? ⟨gb, 3, none⟩ = some u3 := (HB57.out.cell (p := ⟨gb, 3, none⟩) (by show gb < _; omega)).trans ((HC5.out 3 (by decide)).trans TW.out.c3)
          have hBX := TW.out.hB
          have hP1 := own_below (TW.out.o1.kept HR5.out (own_not TW.out.o1 (by omega))) HB57.out
          have hP3 := own_below (TW.out.o3.kept HR5.out (own_not TW.out.o3 (by omega))) HB57.out
          have hP2 := own_below HO2.out HB57.out
          rw [HLL.out] at hP1
          rw [HOL.out] at hP3
          obtain ⟨a1, c1, hx1⟩ := own_form hP1
          obtain ⟨a2, c2, hx2⟩ := own_form hP2
          obtain ⟨a3, c3, hx3⟩ := own_form hP3
          subst hx1 hx2 hx3
          have HNW : Hid (NewAt X.heap.size ⟨a1, c1, a2, c2, a3, c3⟩) := ⟨own_new hP1 (by omega), own_new hP2 (by omega), own_new hP3 (by omega)⟩
          rw [List.flatMap_def] at hP1 hP2 hP3
          have HG7 : Hid (GrAt wr.heap.size wr ⟨a1, c1, a2, c2, a3, c3⟩ ⟨(ni : Int), ls, ad, os⟩) := by
            obtain ⟨a1', c1', he1, hR1⟩ := own_row hP1 (by intro l hl; obtain ⟨d, _, rfl⟩ := List.mem_map.1 hl; rfl) (by decide)
            obtain ⟨a2', c2', he2, hR2⟩ := own_row hP2 (by intro l hl; obtain ⟨d, _, rfl⟩ := List.mem_map.1 hl; rfl) (by decide)
            obtain ⟨a3', c3', he3, hR3⟩ := own_row hP3 (by intro l hl; obtain ⟨d, _, rfl⟩ := List.mem_map.1 hl; rfl) (by decide)
            simp only [Value.slice.injEq, true_and] at he1 he2 he3
            obtain ⟨rfl, rfl⟩ := he1
            obtain ⟨rfl, rfl⟩ := he2
            obtain ⟨rfl, rfl⟩ := he3
            refine ⟨hR1, hR2, hR3, ?_, ?_, ?_⟩
            · show ls.length < big
              rw [HLL.out]; unfold big; omega
            · show ad.length < big
              rw [HAL.out]; unfold big; omega
            · show os.length < big
              rw [HOL.out]; unfold big; omega
          have HGOOD : Hid (GoodB T ⟨(ni : Int), ls, ad, os⟩) := by
            have h1 := TW.out.p1
            have h2 := TW.out.p3
            rw [HM.out] at h1 h2
            exact ⟨ni, nl, no, na, HHA.out, rfl, HLL.out, h1, HOL.out, h2, HAL.out, HAA.out, HBOK.out⟩
          have HSC : Hid (GrS.cells ⟨a1, c1, a2, c2, a3, c3⟩ ⟨(ni : Int), ls, ad, os⟩ = #[.int .i64 (ni : Int), .slice a1 nl c1, .slice a2 na c2, .slice a3 no c3]) := by
            show GrS.cells _ _ = _
            unfold GrS.cells
            simp only [HLL.out, HOL.out, HAL.out]
          have HW9 : Hid (∀ w9, w9 = (((((wr.setCell ⟨rb, 0, none⟩ (.int .i64 (ni : Int))).setCell ⟨rb, 1, none⟩ (.slice a1 nl c1)).setCell ⟨rb, 2, none⟩ (.slice a2 na c2)).setCell ⟨rb, 3, none⟩ (.slice a3 no c3)).setCell ⟨fb, 0, none⟩ (.int .i64 0)).setCell ⟨fb, 1, none⟩ (.int .i64 0) → w9.heap[rb]? = some (.cells #[.int .i64 (ni : Int), .slice a1 nl c1, .slice a2 na c2, .slice a3 no c3] 28 (0, 0)) ∧ w9.heap[fb]? = some (.cells #[.int .i64 0, .int .i64 0] 38 (0, 0)) ∧ GrAt w9.heap.size w9 ⟨a1, c1, a2, c2, a3, c3⟩ ⟨(ni : Int), ls, ad, os⟩ ∧ Below w.heap.size w w9) := by
            intro w9 h9
            have hk : ∀ k, k ≠ rb → k ≠ fb → w9.heap[k]? = wr.heap[k]? := fun k hk1 hk2 => by
              rw [h9, set_heap _ (Ne.symm hk2), set_heap _ (Ne.symm hk2), set_heap _ (Ne.symm hk1), set_heap _ (Ne.symm hk1), set_heap _ (Ne.symm hk1), set_heap _ (Ne.symm hk1)]
            have hsz : w9.heap.size = wr.heap.size := by rw [h9]; simp [World.setCell]
            refine ⟨?_, ?_, ?_, ?_⟩
            · rw [h9, set_heap _ (Ne.symm hne), set_heap _ (Ne.symm hne)]
              exact set4_heap BX7.out.r _ _ _ _
            · rw [h9]
              refine (set_self (set_self (cs := #[.int .i64 0, .int .i64 0]) ?_)).trans rfl
              rw [set_heap _ hne, set_heap _ hne, set_heap _ hne, set_heap _ hne]
              exact BX7.out.f
            · exact HG7.out.out HNW.out (by omega) (fun k h1 _ => hk k (by omega) (by omega))
            · exact two_below HBW7.out (by omega) (by rw [h9]; rfl) (by rw [h9]; rfl) (by rw [h9]; rfl) (fun k h1 h2 _ => hk k h1 h2) hrw hfw
          clear hP1 hP2 hP3 HG7 HNW HL7 HO2 HR5 HC5 HU2 TW hbok HDEC
          subst hk0
          rcases hcs with hcs | ⟨hcs, hcs2⟩
          · subst hcs
            go_wp2_with fail
            generalize hW9 : World.setCell _ (⟨fb, 1, none⟩ : Addr) _ = w9
            obtain ⟨hr9, hf9, hg9, hb9⟩ := HW9.out w9 hW9.symm
            have HG9 := hidden hg9
            have HB9 := hidden hb9
            have z0 : w9.cell? ⟨rb, 0, none⟩ = some (.int .i64 (ni : Int)) := heap_cell hr9
            have z1 : w9.cell? ⟨rb, 1, none⟩ = some (.slice a1 nl c1) := heap_cell hr9
            have z2 : w9.cell? ⟨rb, 2, none⟩ = some (.slice a2 na c2) := heap_cell hr9
            have z3 : w9.cell? ⟨rb, 3, none⟩ = some (.slice a3 no c3) := heap_cell hr9
            have z4 : w9.cell? ⟨fb, 0, none⟩ = some (.int .i64 0) := heap_cell hf9
            have z5 : w9.cell? ⟨fb, 1, none⟩ = some (.int .i64 0) := heap_cell hf9
            clear hW9 hr9 hf9 hg9 hb9 r0 r1 r2 r3 q0 q1 fr ff b0 b1 b2 b3
            refine bodyPost_ret (v := .tuple #[.agg #[.int .i64 (ni : Int), .slice a1 nl c1, .slice a2 na c2, .slice a3 no c3], .agg #[.int .i64 0, .int .i64 0]]) (by simp [results, Tryd.results18, go_sem, z0, z1, z2, z3, z4, z5]) rfl ?_
            exact ⟨⟨(ni : Int), ls, ad, os⟩, ⟨a1, c1, a2, c2, a3, c3⟩, 0, 0, Or.inl ⟨HGOOD.out, rfl, rfl⟩, by rw [HSC.out], HG9.out, HB9.out⟩
          · subst hcs
            subst hcs2
            go_wp2_with fail
            generalize hW9 : World.setCell _ (⟨fb, 1, none⟩ : Addr) _ = w9
            obtain ⟨hr9, hf9, hg9, hb9⟩ := HW9.out w9 hW9.symm
            have HG9 := hidden hg9
            have HB9 := hidden hb9
            have z0 : w9.cell? ⟨rb, 0, none⟩ = some (.int .i64 (ni : Int)) := heap_cell hr9
            have z1 : w9.cell? ⟨rb, 1, none⟩ = some (.slice a1 nl c1) := heap_cell hr9
            have z2 : w9.cell? ⟨rb, 2, none⟩ = some (.slice a2 na c2) := heap_cell hr9
            have z3 : w9.cell? ⟨rb, 3, none⟩ = some (.slice a3 no c3) := heap_cell hr9
            have z4 : w9.cell? ⟨fb, 0, none⟩ = some (.int .i64 0) := heap_cell hf9
            have z5 : w9.cell? ⟨fb, 1, none⟩ = some (.int .i64 0) := heap_cell hf9
            clear hW9 hr9 hf9 hg9 hb9 r0 r1 r2 r3 q0 q1 fr ff b0 b1 b2 b3
            refine bodyPost_ret (v := .tuple #[.agg #[.int .i64 (ni : Int), .slice a1 nl c1, .slice a2 na c2, .slice a3 no c3], .agg #[.int .i64 0, .int .i64 0]]) (by simp [results, Tryd.results18, go_sem, z0, z1, z2, z3, z4, z5]) rfl ?_
            exact ⟨⟨(ni : Int), ls, ad, os⟩, ⟨a1, c1, a2, c2, a3, c3⟩, 0, 0, Or.inl ⟨HGOOD.out, rfl, rfl⟩, by rw [HSC.out], HG9.out, HB9.out⟩


end Go.Proofs.YtdiahnommkhkiaaDoor
