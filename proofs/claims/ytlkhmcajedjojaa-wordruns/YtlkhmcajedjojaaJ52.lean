import Derived.Test.YtlkhmcajedjojaaJ45
import Derived.Test.YtlkhmcajedjojaaJ46
import Derived.Test.YtlkhmcajedjojaaJ47
import Derived.Test.YtlkhmcajedjojaaJ48
import Derived.Test.YtlkhmcajedjojaaJ49
import Derived.Test.YtlkhmcajedjojaaJ50
import Derived.Test.YtlkhmcajedjojaaJ51
import Derived.Test.YtlkhmcajedjojaaJ43
import Derived.Test.YtlkhmcajedjojaaJ44
namespace Go.Proofs.Ytlkhmcajedjojaa
open Go.RowKit

set_option maxRecDepth 100000 in
set_option maxHeartbeats 16000000 in
theorem netValid_any (B : Nat) (w : World) (S : NetS) (N : NetD) (h : NetAt B w S N) (hB : B ≤ w.heap.size) :
    Calls Try.prog 7 #[.agg (S.cells N)] w fun e w' => e = .returned (.bool (NetOk N)) ∧ Below w.heap.size w w' := by
  have HR : ∃ r, Hid (r = NetOk N) := ⟨_, rfl⟩
  obtain ⟨r, HR⟩ := HR
  rw [← HR.out]
  unfold NetS.cells
  go_enter Try.func7, Try.ntmps7
  go_upto_block 0 with fail
  generalize hW : w.alloc (.cells #[.slice S.a0 N.ins.length S.c0, .slice S.a1 N.nodes.length S.c1, .slice S.a2 N.regs.length S.c2, .slice S.a3 N.mems.length S.c3, .slice S.a4 N.wrs.length S.c4, .slice S.a5 N.outs.length S.c5] 28) = W
  have HB : Hid (Below w.heap.size w W) := by rw [← hW]; exact (Below.refl _ _).alloc (Nat.le_refl _) _
  have QN : Hid (∀ j, W.cell? ⟨w.heap.size, j, none⟩ = (#[.slice S.a0 N.ins.length S.c0, .slice S.a1 N.nodes.length S.c1, .slice S.a2 N.regs.length S.c2, .slice S.a3 N.mems.length S.c3, .slice S.a4 N.wrs.length S.c4, .slice S.a5 N.outs.length S.c5] : Array Value)[j]?) := by rw [← hW]; intro j; simp
  have HAW : Hid (NetAt B W S N) := h.to (HB.out.mono hB)
  have hN : w.heap.size < W.heap.size := by rw [← hW]; simp
  have hBW : B ≤ W.heap.size := Nat.le_trans hB HB.out.size
  have l1 := hidden h.li
  have l2 := hidden h.lr
  have l3 := hidden h.lm
  have l4 := hidden h.ln
  have l5 := hidden h.lr
  have l6 := hidden h.lw
  have l7 := hidden h.lo
  clear hW h
  refine nvLoop1 B w W S N QN HAW hN hBW l1.out true W (Below.refl _ _) _ _ _ _ _ _ _ _ _ _ _ _ _ _ _ _ _ _ _ _ _ _ _ _ _ _ _ _ _ _ _ _ _ _ _ _ _ _ _ _ _ _ _ _ _ _ _ _ _ _ _ _ _ _ _ _ _ _ _ _ _ _ _ _ _ _ _ _ _ _ _ _ _ _ _ _ _ _ _ _ _ _ _ _ _ _ _ _ _ _ _ _ _ _ _ _ _ _ _ _ _ _ _ _ _ _ _ _ _ _ _ _ _ _ _ _ _ _ _ _ _ _ _ _ _ _ _ _ _ _ _ _ _ _ _ _ _ _ _ _ _ _ _ _ _ _ _ _ _ _ _ _ _ _ _ _ _ _ _ _ _ _ _ _ _ _ _ _ _ _ _ _ _ _ _ _ _ _ _ _ _ _ _ _ _ _ _ _ _ _ _ _ _ _ _ _ _ _ _ _ _ _ _ _ _ _ _ _ _ _ _ _ _ _ _ _ _ _ _ ?_
  intro s w1 v4 v5 v16 v17 v18 v19 v20 v21 v22 v23 v24 v25 v26 v27 v28 v29 v30 v31 v32 hcut
  obtain ⟨c1, rfl, Hc1, HBc1⟩ := hcut
  go_upto_block 2 with fail
  refine nvLoop2 B w W S N QN HAW hN hBW l2.out c1 w1 HBc1 _ _ _ _ _ _ _ _ _ _ _ _ _ _ _ _ _ _ _ _ _ _ _ _ _ _ _ _ _ _ _ _ _ _ _ _ _ _ _ _ _ _ _ _ _ _ _ _ _ _ _ _ _ _ _ _ _ _ _ _ _ _ _ _ _ _ _ _ _ _ _ _ _ _ _ _ _ _ _ _ _ _ _ _ _ _ _ _ _ _ _ _ _ _ _ _ _ _ _ _ _ _ _ _ _ _ _ _ _ _ _ _ _ _ _ _ _ _ _ _ _ _ _ _ _ _ _ _ _ _ _ _ _ _ _ _ _ _ _ _ _ _ _ _ _ _ _ _ _ _ _ _ _ _ _ _ _ _ _ _ _ _ _ _ _ _ _ _ _ _ _ _ _ _ _ _ _ _ _ _ _ _ _ _ _ _ _ _ _ _ _ _ _ _ _ _ _ _ _ _ _ _ _ _ _ _ _ _ _ _ _ _ _ _ _ _ _ _ _ ?_
  intro s w2 v6 v7 v8 v33 v34 v35 v36 v37 v38 v39 v40 v41 v42 v43 v44 v45 v46 v47 v48 v49 v50 v51 v52 v53 v54 v55 v56 v57 v58 v59 hcut
  obtain ⟨c2, rfl, Hc2, HBc2⟩ := hcut
  go_upto_block 4 with fail
  refine nvLoop3 B w W S N QN HAW hN hBW l3.out c2 w2 HBc2 _ _ _ _ _ _ _ _ _ _ _ _ _ _ _ _ _ _ _ _ _ _ _ _ _ _ _ _ _ _ _ _ _ _ _ _ _ _ _ _ _ _ _ _ _ _ _ _ _ _ _ _ _ _ _ _ _ _ _ _ _ _ _ _ _ _ _ _ _ _ _ _ _ _ _ _ _ _ _ _ _ _ _ _ _ _ _ _ _ _ _ _ _ _ _ _ _ _ _ _ _ _ _ _ _ _ _ _ _ _ _ _ _ _ _ _ _ _ _ _ _ _ _ _ _ _ _ _ _ _ _ _ _ _ _ _ _ _ _ _ _ _ _ _ _ _ _ _ _ _ _ _ _ _ _ _ _ _ _ _ _ _ _ _ _ _ _ _ _ _ _ _ _ _ _ _ _ _ _ _ _ _ _ _ _ _ _ _ _ _ _ _ _ _ _ _ _ _ _ _ _ _ _ _ _ _ _ _ _ _ _ _ _ _ _ _ _ _ _ ?_
  intro s w3 v9 v10 v60 v61 v62 v63 v64 v65 v66 v67 v68 v69 v70 v71 v72 v73 v74 v75 v76 v77 v78 v79 v80 v81 v82 v83 v84 v85 v86 v87 v88 v89 v90 v91 v92 v93 v94 v95 hcut
  obtain ⟨c3, rfl, Hc3, HBc3⟩ := hcut
  go_upto_block 6 with fail
  refine nvLoop4 B w W S N QN HAW hN hBW l4.out c3 w3 HBc3 _ _ _ _ _ _ _ _ _ _ _ _ _ _ _ _ _ _ _ _ _ _ _ _ _ _ _ _ _ _ _ _ _ _ _ _ _ _ _ _ _ _ _ _ _ _ _ _ _ _ _ _ _ _ _ _ _ _ _ _ _ _ _ _ _ _ _ _ _ _ _ _ _ _ _ _ _ _ _ _ _ _ _ _ _ _ _ _ _ _ _ _ _ _ _ _ _ _ _ _ _ _ _ _ _ _ _ _ _ _ _ _ _ _ _ _ _ _ _ _ _ _ _ _ _ _ _ _ _ _ _ _ _ _ _ _ _ _ _ _ _ _ _ _ _ _ _ _ _ _ _ _ _ _ _ _ _ _ _ _ _ _ _ _ _ _ _ _ _ _ _ _ _ _ _ _ _ _ _ _ _ _ _ _ _ _ _ _ _ _ _ _ _ _ _ _ _ _ _ _ _ _ _ _ _ _ _ _ _ _ _ _ _ _ _ _ _ _ _ ?_
  intro s w4 v11 v96 v97 v98 v99 v100 v101 v102 v103 v104 v105 v106 v107 v108 hcut
  obtain ⟨c4, rfl, Hc4, HBc4⟩ := hcut
  go_upto_block 8 with fail
  refine nvLoop5 B w W S N QN HAW hN hBW l5.out c4 w4 HBc4 _ _ _ _ _ _ _ _ _ _ _ _ _ _ _ _ _ _ _ _ _ _ _ _ _ _ _ _ _ _ _ _ _ _ _ _ _ _ _ _ _ _ _ _ _ _ _ _ _ _ _ _ _ _ _ _ _ _ _ _ _ _ _ _ _ _ _ _ _ _ _ _ _ _ _ _ _ _ _ _ _ _ _ _ _ _ _ _ _ _ _ _ _ _ _ _ _ _ _ _ _ _ _ _ _ _ _ _ _ _ _ _ _ _ _ _ _ _ _ _ _ _ _ _ _ _ _ _ _ _ _ _ _ _ _ _ _ _ _ _ _ _ _ _ _ _ _ _ _ _ _ _ _ _ _ _ _ _ _ _ _ _ _ _ _ _ _ _ _ _ _ _ _ _ _ _ _ _ _ _ _ _ _ _ _ _ _ _ _ _ _ _ _ _ _ _ _ _ _ _ _ _ _ _ _ _ _ _ _ _ _ _ _ _ _ _ _ _ _ ?_
  intro s w5 v12 v109 v110 v111 v112 v113 v114 v115 v116 v117 v118 v119 v120 v121 v122 v123 v124 v125 v126 v127 v128 v129 v130 v131 v132 hcut
  obtain ⟨c5, rfl, Hc5, HBc5⟩ := hcut
  go_upto_block 10 with fail
  refine nvLoop6 B w W S N QN HAW hN hBW l6.out c5 w5 HBc5 _ _ _ _ _ _ _ _ _ _ _ _ _ _ _ _ _ _ _ _ _ _ _ _ _ _ _ _ _ _ _ _ _ _ _ _ _ _ _ _ _ _ _ _ _ _ _ _ _ _ _ _ _ _ _ _ _ _ _ _ _ _ _ _ _ _ _ _ _ _ _ _ _ _ _ _ _ _ _ _ _ _ _ _ _ _ _ _ _ _ _ _ _ _ _ _ _ _ _ _ _ _ _ _ _ _ _ _ _ _ _ _ _ _ _ _ _ _ _ _ _ _ _ _ _ _ _ _ _ _ _ _ _ _ _ _ _ _ _ _ _ _ _ _ _ _ _ _ _ _ _ _ _ _ _ _ _ _ _ _ _ _ _ _ _ _ _ _ _ _ _ _ _ _ _ _ _ _ _ _ _ _ _ _ _ _ _ _ _ _ _ _ _ _ _ _ _ _ _ _ _ _ _ _ _ _ _ _ _ _ _ _ _ _ _ _ _ _ _ ?_
  intro s w6 v13 v14 v133 v134 v135 v136 v137 v138 v139 v140 v141 v142 v143 v144 v145 v146 v147 v148 v149 v150 v151 v152 v153 v154 v155 v156 v157 v158 v159 v160 v161 v162 v163 v164 v165 v166 v167 v168 v169 v170 v171 v172 v173 v174 v175 v176 v177 v178 v179 v180 v181 v182 v183 v184 v185 v186 v187 v188 v189 v190 v191 hcut
  obtain ⟨c6, rfl, Hc6, HBc6⟩ := hcut
  go_upto_block 12 with fail
  refine nvLoop7 B w W S N QN HAW hN hBW l7.out c6 w6 HBc6 _ _ _ _ _ _ _ _ _ _ _ _ _ _ _ _ _ _ _ _ _ _ _ _ _ _ _ _ _ _ _ _ _ _ _ _ _ _ _ _ _ _ _ _ _ _ _ _ _ _ _ _ _ _ _ _ _ _ _ _ _ _ _ _ _ _ _ _ _ _ _ _ _ _ _ _ _ _ _ _ _ _ _ _ _ _ _ _ _ _ _ _ _ _ _ _ _ _ _ _ _ _ _ _ _ _ _ _ _ _ _ _ _ _ _ _ _ _ _ _ _ _ _ _ _ _ _ _ _ _ _ _ _ _ _ _ _ _ _ _ _ _ _ _ _ _ _ _ _ _ _ _ _ _ _ _ _ _ _ _ _ _ _ _ _ _ _ _ _ _ _ _ _ _ _ _ _ _ _ _ _ _ _ _ _ _ _ _ _ _ _ _ _ _ _ _ _ _ _ _ _ _ _ _ _ _ _ _ _ _ _ _ _ _ _ _ _ _ _ ?_
  intro s w7 v15 v192 v193 v194 v195 v196 v197 v198 v199 v200 v201 v202 v203 v204 v205 v206 v207 v208 v209 v210 v211 v212 v213 v214 v215 v216 v217 v218 hcut
  obtain ⟨c7, rfl, Hc7, HBc7⟩ := hcut
  go_wp2
  go_ret
  refine ⟨ret_bool ?_, HB.out.trans (HBc7.out.mono HB.out.size)⟩
  rw [HR.out, Hc7.out, Hc6.out, Hc5.out, Hc4.out, Hc3.out, Hc2.out, Hc1.out]; rfl

end Go.Proofs.Ytlkhmcajedjojaa

namespace Go.Proofs.Ytlkhmcajedjojaa
open Go.RowKit

set_option maxRecDepth 100000 in
set_option maxHeartbeats 8000000 in
theorem netRan_any (B : Nat) (w : World) (S : NetS) (N : NetD) (h : NetAt B w S N) (hB : B ≤ w.heap.size) (hml : N.mems.length ≤ 8796093022208) (ta : Option Addr) (tc : Nat) (trs : List MD) (ht : TrW B w ta trs) :
    Calls Try.prog 8 #[.agg (S.cells N), .slice ta trs.length tc] w fun e w' => e = .returned (.bool true) ∧ Below w.heap.size w w' := by
  obtain ⟨r, HR⟩ : ∃ r, Hid (NetOk N = r) := ⟨_, rfl⟩
  have VL : Hid (∀ w', Below w.heap.size w w' → Calls Try.prog 7 #[.agg (S.cells N)] w' fun e w'' => e = .returned (.bool r) ∧ Below w'.heap.size w' w'') := fun w' hw' => by
    have := netValid_any B w' S N (h.to (hw'.mono hB)) (Nat.le_trans hB hw'.size)
    rw [HR.out] at this
    exact this
  have RP : Hid (r = true → ∀ w', Below w.heap.size w w' → Calls Try.prog 22 #[.agg (S.cells N), .slice ta trs.length tc] w' fun e w'' => ∃ v, ∃ rows : List RW, e = .returned v ∧ w''.ownsRow w'.heap.size 34 1 v trs.length (rows.map RW.v) ∧ rows.map RW.l = runW N (trs.map MD.l) (initW N) ∧ (∀ r, r ∈ rows → US w'' r.v r.l) ∧ Below w'.heap.size w' w'') := fun hr w' hw' =>
    run_any B w' S N (h.to (hw'.mono hB)) (Nat.le_trans hB hw'.size) (HR.out.trans hr) hml ta tc trs (ht.to (hw'.mono hB))
  have RD' : Hid (r = true → ∀ w', Below w.heap.size w w' → Calls Try.prog 24 #[.agg (S.cells N), .slice ta trs.length tc] w' fun e w'' => ∃ v, ∃ rows : List RW, e = .returned v ∧ w''.ownsRow w'.heap.size 34 1 v trs.length (rows.map RW.v) ∧ rows.map RW.l = runW N (trs.map MD.l) (initW N) ∧ (∀ r, r ∈ rows → US w'' r.v r.l) ∧ Below w'.heap.size w' w'') := fun hr w' hw' =>
    netRun_any B w' S N (h.to (hw'.mono hB)) (Nat.le_trans hB hw'.size) (HR.out.trans hr) hml ta tc trs (ht.to (hw'.mono hB))
  have hlo := h.lo
  simp only [big] at hlo
  have hlen := ht.len
  obtain ⟨RR, HRR⟩ : ∃ RR, Hid (runW N (trs.map MD.l) (initW N) = RR) := ⟨_, rfl⟩
  have HEA : Hid (∀ x, x ∈ RR → x.length = N.outs.length) := by rw [← HRR.out]; exact runW_len N _ _
  rw [HRR.out] at RP RD'
  unfold NetS.cells at *
  clear h ht HR
  go_enter Try.func8, Try.ntmps8
  go_upto_region 1 with fail
  generalize hW : World.alloc w _ = W
  have HB : Hid (Below w.heap.size w W) := by rw [← hW]; exact (Below.refl _ _).alloc (Nat.le_refl _) _
  have hN : w.heap.size < W.heap.size := by rw [← hW]; simp
  have QN : Hid (∀ j, W.cell? ⟨w.heap.size, j, none⟩ = (#[.slice S.a0 N.ins.length S.c0, .slice S.a1 N.nodes.length S.c1, .slice S.a2 N.regs.length S.c2, .slice S.a3 N.mems.length S.c3, .slice S.a4 N.wrs.length S.c4, .slice S.a5 N.outs.length S.c5] : Array Value)[j]?) := by rw [← hW]; intro j; simp
  clear hW
  have q0 : W.cell? ⟨w.heap.size, 0, none⟩ = some (.slice S.a0 N.ins.length S.c0) := QN.out 0
  have q1 : W.cell? ⟨w.heap.size, 1, none⟩ = some (.slice S.a1 N.nodes.length S.c1) := QN.out 1
  have q2 : W.cell? ⟨w.heap.size, 2, none⟩ = some (.slice S.a2 N.regs.length S.c2) := QN.out 2
  have q3 : W.cell? ⟨w.heap.size, 3, none⟩ = some (.slice S.a3 N.mems.length S.c3) := QN.out 3
  have q4 : W.cell? ⟨w.heap.size, 4, none⟩ = some (.slice S.a4 N.wrs.length S.c4) := QN.out 4
  have q5 : W.cell? ⟨w.heap.size, 5, none⟩ = some (.slice S.a5 N.outs.length S.c5) := QN.out 5
  go_wp2_with fail
  go_at_call 7
  refine (VL.out _ HB.out).mono ?_
  rintro e w1 ⟨rfl, hb1⟩
  have HB1 := hidden (HB.out.trans (hb1.mono HB.out.size))
  have hN1 : w.heap.size < w1.heap.size := Nat.lt_of_lt_of_le hN hb1.size
  have QN1 : Hid (∀ j, w1.cell? ⟨w.heap.size, j, none⟩ = (#[.slice S.a0 N.ins.length S.c0, .slice S.a1 N.nodes.length S.c1, .slice S.a2 N.regs.length S.c2, .slice S.a3 N.mems.length S.c3, .slice S.a4 N.wrs.length S.c4, .slice S.a5 N.outs.length S.c5] : Array Value)[j]?) := fun j => (hb1.cell (p := ⟨w.heap.size, j, none⟩) hN).trans (QN.out j)
  clear hb1 q0 q1 q2 q3 q4 q5 VL QN
  cases r
  · go_wp2_with fail
    go_ret
    exact ⟨rfl, HB1.out⟩
  · have q0 : w1.cell? ⟨w.heap.size, 0, none⟩ = some (.slice S.a0 N.ins.length S.c0) := QN1.out 0
    have q1 : w1.cell? ⟨w.heap.size, 1, none⟩ = some (.slice S.a1 N.nodes.length S.c1) := QN1.out 1
    have q2 : w1.cell? ⟨w.heap.size, 2, none⟩ = some (.slice S.a2 N.regs.length S.c2) := QN1.out 2
    have q3 : w1.cell? ⟨w.heap.size, 3, none⟩ = some (.slice S.a3 N.mems.length S.c3) := QN1.out 3
    have q4 : w1.cell? ⟨w.heap.size, 4, none⟩ = some (.slice S.a4 N.wrs.length S.c4) := QN1.out 4
    have q5 : w1.cell? ⟨w.heap.size, 5, none⟩ = some (.slice S.a5 N.outs.length S.c5) := QN1.out 5
    go_wp2_with fail
    go_at_call 22
    refine (RP.out trivial _ HB1.out).mono ?_
    rintro e w2 ⟨va, ra, rfl, hoa, hla, hba, hb2⟩
    have HB2 := hidden (HB1.out.trans (hb2.mono HB1.out.size))
    have QN2 : Hid (∀ j, w2.cell? ⟨w.heap.size, j, none⟩ = (#[.slice S.a0 N.ins.length S.c0, .slice S.a1 N.nodes.length S.c1, .slice S.a2 N.regs.length S.c2, .slice S.a3 N.mems.length S.c3, .slice S.a4 N.wrs.length S.c4, .slice S.a5 N.outs.length S.c5] : Array Value)[j]?) := fun j => (hb2.cell (p := ⟨w.heap.size, j, none⟩) hN1).trans (QN1.out j)
    obtain ⟨aa, ca, hva, hra, hna⟩ := rows_of hoa hba
    subst hva
    have HRA := hidden hra
    have HLA := hidden hla
    clear hb2 q0 q1 q2 q3 q4 q5 RP QN1 hoa hba hra hla
    have q0 : w2.cell? ⟨w.heap.size, 0, none⟩ = some (.slice S.a0 N.ins.length S.c0) := QN2.out 0
    have q1 : w2.cell? ⟨w.heap.size, 1, none⟩ = some (.slice S.a1 N.nodes.length S.c1) := QN2.out 1
    have q2 : w2.cell? ⟨w.heap.size, 2, none⟩ = some (.slice S.a2 N.regs.length S.c2) := QN2.out 2
    have q3 : w2.cell? ⟨w.heap.size, 3, none⟩ = some (.slice S.a3 N.mems.length S.c3) := QN2.out 3
    have q4 : w2.cell? ⟨w.heap.size, 4, none⟩ = some (.slice S.a4 N.wrs.length S.c4) := QN2.out 4
    have q5 : w2.cell? ⟨w.heap.size, 5, none⟩ = some (.slice S.a5 N.outs.length S.c5) := QN2.out 5
    go_wp2_with fail
    go_at_call 24
    refine (RD'.out trivial _ HB2.out).mono ?_
    rintro e w3 ⟨vb, rb, rfl, hob, hlb, hbb, hb3⟩
    have HB3 := hidden (HB2.out.trans (hb3.mono HB2.out.size))
    obtain ⟨ab, cb, hvb, hrb, hnb⟩ := rows_of hob hbb
    subst hvb
    have SR : Hid (Calls Try.prog 23 #[.slice aa trs.length ca, .slice ab trs.length cb] w3 fun e w' => e = .returned (.bool true) ∧ ∃ q, w' = w3.drewN q) :=
      sameWords_any w3 aa ab ca cb ra rb trs.length hna hnb (by omega) (HRA.out.to hb3) hrb (by rw [HLA.out, hlb]; exact rfl) (fun r hr => by
        have h1 : r.l ∈ RR := by rw [← HLA.out]; exact List.mem_map.2 ⟨r, hr, rfl⟩
        have h2 := HEA.out _ h1
        omega)
    clear hb3 q0 q1 q2 q3 q4 q5 RD' QN2 hob hlb hbb hrb HRA HLA hna hnb
    go_wp2_with fail
    go_at_call 23
    refine SR.out.mono ?_
    rintro e w4 ⟨rfl, q, rfl⟩
    go_wp2_with fail
    go_ret
    exact ⟨rfl, Below.drewN HB3.out _⟩

/-- the law's own trace -/
def ownT (a b : Nat) : List MD := [⟨some ⟨a, 0, none⟩, 1, [1]⟩, ⟨some ⟨b, 0, none⟩, 1, [2]⟩]

set_option maxRecDepth 100000 in
set_option maxHeartbeats 8000000 in
theorem law_runs (B : Nat) (w : World) (S : NetS) (N : NetD) (h : NetAt B w S N) (hB : B ≤ w.heap.size) (hml : N.mems.length ≤ 8796093022208) (ta : Option Addr) (tc : Nat) (trs : List MD) (ht : TrW B w ta trs) :
    Calls Try.prog 4 #[.agg (S.cells N), .slice ta trs.length tc] w fun e w' => e = .returned (.bool true) ∧ Below w.heap.size w w' := by
  have SM : Hid (∀ w : World, Calls Try.prog 6 #[] w fun e w' => ∃ S a, e = .returned (.agg (NetS.cells S (smallN a))) ∧ NetAt w'.heap.size w' S (smallN a) ∧ Below w.heap.size w w') := small_any
  have RT : Hid (∀ (w : World) S z (a : Option Addr) c trs, NetAt w.heap.size w S (smallN z) → TrW w.heap.size w a trs → Calls Try.prog 8 #[.agg (NetS.cells S (smallN z)), .slice a trs.length c] w fun e w' => e = .returned (.bool true) ∧ Below w.heap.size w w') := fun w S z a c trs hg ht => netRan_any w.heap.size w S (smallN z) hg (Nat.le_refl _) (Nat.zero_le _) a c trs ht
  have RG : Hid (∀ w', Below w.heap.size w w' → Calls Try.prog 8 #[.agg (S.cells N), .slice ta trs.length tc] w' fun e w'' => e = .returned (.bool true) ∧ Below w'.heap.size w' w'') := fun w' hw' =>
    netRan_any B w' S N (h.to (hw'.mono hB)) (Nat.le_trans hB hw'.size) hml ta tc trs (ht.to (hw'.mono hB))
  clear h ht
  generalize hcs : S.cells N = cs at *
  have hcs' : cs = #[.slice S.a0 N.ins.length S.c0, .slice S.a1 N.nodes.length S.c1, .slice S.a2 N.regs.length S.c2, .slice S.a3 N.mems.length S.c3, .slice S.a4 N.wrs.length S.c4, .slice S.a5 N.outs.length S.c5] := hcs.symm
  clear hcs
  subst hcs'
  go_enter Try.func4, Try.ntmps4
  go_wp2_with fail
  generalize hW : World.alloc w _ = W
  have HB : Hid (Below w.heap.size w W) := by rw [← hW]; exact (Below.refl _ _).alloc (Nat.le_refl _) _
  have hN : w.heap.size < W.heap.size := by rw [← hW]; simp
  have QN : Hid (∀ j, W.cell? ⟨w.heap.size, j, none⟩ = (#[.slice S.a0 N.ins.length S.c0, .slice S.a1 N.nodes.length S.c1, .slice S.a2 N.regs.length S.c2, .slice S.a3 N.mems.length S.c3, .slice S.a4 N.wrs.length S.c4, .slice S.a5 N.outs.length S.c5] : Array Value)[j]?) := by rw [← hW]; intro j; simp
  clear hW
  go_at_call 6
  refine (SM.out _).mono ?_
  rintro e w1 ⟨S1, z1', rfl, hn1, hb1⟩
  have HB1 := hidden hb1
  have HN1 := hidden hn1
  obtain ⟨s0, t0, s1, t1, s2, t2, s3, t3, s4, t4, s5, t5⟩ := S1
  clear hb1 hn1 SM
  go_wp2_with fail
  generalize hW2 : World.alloc _ _ = W2
  have hs2 : W2.heap.size = w1.heap.size + 3 := by rw [← hW2]; simp
  have HB2 : Hid (Below w1.heap.size w1 W2) := by
    rw [← hW2]
    exact (((Below.refl _ _).alloc (Nat.le_refl _) _).alloc (by simp) _).alloc (by simp; omega) _
  have zb : ∀ j, W2.cell? ⟨w1.heap.size + 1 + 1, j, none⟩ = (#[.slice (some ⟨w1.heap.size, 0, none⟩) 1 1, .slice (some ⟨w1.heap.size + 1, 0, none⟩) 1 1] : Array Value)[j]? := by intro j; rw [← hW2]; exact cell_new (by simp)
  have z0 : ∀ j, W2.cell? ⟨w1.heap.size, j, none⟩ = (#[.int .u64 1] : Array Value)[j]? := by intro j; rw [← hW2, World.cell?_alloc_lt _ _ _ (by first | (simp; done) | (simp; omega)), World.cell?_alloc_lt _ _ _ (by first | (simp; done) | (simp; omega))]; exact cell_new (by simp)
  have z1 : ∀ j, W2.cell? ⟨w1.heap.size + 1, j, none⟩ = (#[.int .u64 2] : Array Value)[j]? := by intro j; rw [← hW2, World.cell?_alloc_lt _ _ _ (by first | (simp; done) | (simp; omega))]; exact cell_new (by simp)
  have HT2 : Hid (TrW W2.heap.size W2 (some ⟨w1.heap.size + 1 + 1, 0, none⟩) (ownT w1.heap.size (w1.heap.size + 1))) := by
    have f : ∀ (b : Nat) (cs : Array Value) (els : List (List Value)), (∀ j, W2.cell? ⟨b, j, none⟩ = cs[j]?) → els.flatten = cs.toList → ∀ (m : Nat) (v : Value), els.flatten[m]? = some v → W2.cell? ⟨b, m, none⟩ = some v := by
      intro b cs els h1 h2 m v hv
      rw [h1 m, ← Array.getElem?_toList, ← h2]; exact hv
    refine ⟨rowAt_flat (by omega) (by simp [ownT, MD.cells]) (f _ _ _ zb rfl), ?_, by simp [ownT]⟩
    intro t htm
    simp only [ownT, List.mem_cons, List.not_mem_nil, or_false] at htm
    rcases htm with rfl | rfl
    · exact ⟨rowAt_flat (by omega) (by simp [uN]) (f _ _ _ z0 rfl), by simp [big], by simp⟩
    · exact ⟨rowAt_flat (by omega) (by simp [uN]) (f _ _ _ z1 rfl), by simp [big], by simp⟩
  have HG2 : Hid (NetAt W2.heap.size W2 ⟨s0, t0, s1, t1, s2, t2, s3, t3, s4, t4, s5, t5⟩ (smallN z1')) := (HN1.out.to HB2.out).mono HB2.out.size
  have HR2 := hidden (RT.out W2 _ _ _ 2 _ HG2.out HT2.out)
  have HBW2 : Hid (Below W.heap.size W W2) := HB1.out.trans (HB2.out.mono HB1.out.size)
  clear hW2 zb z0 z1 RT HN1 HT2 HG2 hs2
  go_at_call 8
  refine HR2.out.mono ?_
  rintro e w3 ⟨rfl, hb3⟩
  have HB3 := hidden (HBW2.out.trans (hb3.mono HBW2.out.size))
  have QN3 : Hid (∀ j, w3.cell? ⟨w.heap.size, j, none⟩ = (#[.slice S.a0 N.ins.length S.c0, .slice S.a1 N.nodes.length S.c1, .slice S.a2 N.regs.length S.c2, .slice S.a3 N.mems.length S.c3, .slice S.a4 N.wrs.length S.c4, .slice S.a5 N.outs.length S.c5] : Array Value)[j]?) := fun j => (HB3.out.cell (p := ⟨w.heap.size, j, none⟩) hN).trans (QN.out j)
  have q0 : w3.cell? ⟨w.heap.size, 0, none⟩ = some (.slice S.a0 N.ins.length S.c0) := QN3.out 0
  have q1 : w3.cell? ⟨w.heap.size, 1, none⟩ = some (.slice S.a1 N.nodes.length S.c1) := QN3.out 1
  have q2 : w3.cell? ⟨w.heap.size, 2, none⟩ = some (.slice S.a2 N.regs.length S.c2) := QN3.out 2
  have q3 : w3.cell? ⟨w.heap.size, 3, none⟩ = some (.slice S.a3 N.mems.length S.c3) := QN3.out 3
  have q4 : w3.cell? ⟨w.heap.size, 4, none⟩ = some (.slice S.a4 N.wrs.length S.c4) := QN3.out 4
  have q5 : w3.cell? ⟨w.heap.size, 5, none⟩ = some (.slice S.a5 N.outs.length S.c5) := QN3.out 5
  clear hb3 HR2 QN3
  go_wp2_with fail
  go_at_call 8
  refine (RG.out _ (HB.out.trans (HB3.out.mono HB.out.size))).mono ?_
  rintro e w4 ⟨rfl, hb4⟩
  have HB4 := hidden (HB3.out.trans (hb4.mono HB3.out.size))
  clear hb4 q0 q1 q2 q3 q4 q5
  go_wp2_with fail
  go_ret
  exact ⟨rfl, HB.out.trans (HB4.out.mono HB.out.size)⟩

end Go.Proofs.Ytlkhmcajedjojaa
