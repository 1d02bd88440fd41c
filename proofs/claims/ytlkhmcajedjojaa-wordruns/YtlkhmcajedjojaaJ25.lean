import Derived.Test.YtlkhmcajedjojaaJ23
import Derived.Test.YtlkhmcajedjojaaJ24
namespace Go.Proofs.Ytlkhmcajedjojaa
open Go.RowKit

set_option maxRecDepth 100000 in
set_option maxHeartbeats 8000000 in
theorem cyc_any (V : World) (N : NetD) (row regs : List Nat) (ms : List MD) (vs : List Nat) (d : NodeD) (ai ar am av : Option Addr) (ci cr cm cv nbk db : Nat) (HD : Hid (∀ (j : Nat) (v : Value), d.cells[j]? = some v → V.cell? ⟨db, j, none⟩ = some v)) (hdb : db < V.heap.size) (B : Nat) (S : NetS) (hat : NetAt B V S N) (hBV : B ≤ V.heap.size) (hok : NetOk N = true) (i : Nat) (hd : N.nodes[i]? = some d) (st : StOk N regs (ms.map MD.l)) (hvl : vs.length = i) (hvo : VsOk N vs) (hrow : RowAt V.heap.size V ai 1 (row.map uN)) (hrl : row.length < big) (hr64 : ∀ x, x ∈ row → x < 18446744073709551616) (hreg : RowAt V.heap.size V ar 1 (regs.map uN)) (hmem : MemsAt V.heap.size V am ms) (hvs : RowAt V.heap.size V av 1 (vs.map uN)) (q1 : V.cell? ⟨nbk, 1, none⟩ = some (.slice S.a1 N.nodes.length S.c1)) (hnbk : nbk < V.heap.size) (K' : Act → World → Prop) (Q0 : Exit → Act → World → Prop) (x0 x5 x6 x7 x8 x10 x13 x14 x15 x16 x17 x18 x19 x20 x21 x22 x23 x24 x25 x26 x27 x28 x30 x31 x32 x33 x34 x35 x36 x37 x38 x39 x40 x41 x42 x43 x44 x45 x46 x47 x48 x49 x50 x51 x52 x53 x54 x55 x56 x57 x58 x59 x60 x61 x62 x63 x64 x65 x66 x67 x68 x69 x70 x71 x72 x73 x74 x75 x76 x77 x78 x79 x80 x81 x82 x83 x84 x85 x86 x87 x88 x89 x90 x91 x92 x93 x94 x95 x96 x97 x98 x99 x100 x101 x102 x103 x104 x105 x106 x107 x108 x109 x110 x111 x112 x113 x114 x115 x116 x117 x118 x119 x120 x121 x122 x123 x124 x125 x126 x127 x128 x129 : Value)
    (HK : Hid (∀ (s : Value) (w' : World) (v13 v14 v15 v30 v31 v32 v33 v34 v35 v36 v37 v38 v39 v40 v41 v42 v43 v44 v45 v46 v47 v48 v49 v50 v51 v52 v53 v54 v55 v56 v57 v58 v59 v60 v61 v62 v63 v64 v65 v66 v67 v68 v69 v70 v71 v72 v73 v74 v75 v76 v77 v78 v79 v80 v81 v82 v83 v84 v85 v86 v87 v88 v89 v90 v91 v92 v93 v94 v95 v96 v97 v98 v99 v100 v101 v102 v103 v104 v105 v106 v107 v108 v109 v110 v111 v112 v113 v114 v115 v116 v117 v118 v119 v120 v121 v122 v123 v124 : Value), s = .int .u64 ((nodeVal N row regs (ms.map MD.l) vs d : Nat) : Int) → Hid (Below V.heap.size V w') → K' ⟨#[x0, .slice ai row.length ci, .slice ar regs.length cr, .slice am ms.length cm, .pointer (some ⟨nbk, 0, none⟩), x5, x6, x7, x8, .slice av vs.length cv, x10, .pointer (some ⟨db, 0, none⟩), s, v13, v14, v15, x16, x17, x18, x19, x20, x21, x22, x23, x24, x25, x26, x27, x28, .int .i64 d.kind, v30, v31, v32, v33, v34, v35, v36, v37, v38, v39, v40, v41, v42, v43, v44, v45, v46, v47, v48, v49, v50, v51, v52, v53, v54, v55, v56, v57, v58, v59, v60, v61, v62, v63, v64, v65, v66, v67, v68, v69, v70, v71, v72, v73, v74, v75, v76, v77, v78, v79, v80, v81, v82, v83, v84, v85, v86, v87, v88, v89, v90, v91, v92, v93, v94, v95, v96, v97, v98, v99, v100, v101, v102, v103, v104, v105, v106, v107, v108, v109, v110, v111, v112, v113, v114, v115, v116, v117, v118, v119, v120, v121, v122, v123, v124, x125, x126, x127, x128, x129], []⟩ w')) :
    Code.wp Try.prog ((Try.f36.body.bind (blockAt 2)).getD .skip) (Exit.then K' Q0) ⟨#[x0, .slice ai row.length ci, .slice ar regs.length cr, .slice am ms.length cm, .pointer (some ⟨nbk, 0, none⟩), x5, x6, x7, x8, .slice av vs.length cv, x10, .pointer (some ⟨db, 0, none⟩), .int .u64 0, x13, x14, x15, x16, x17, x18, x19, x20, x21, x22, x23, x24, x25, x26, x27, x28, .int .i64 d.kind, x30, x31, x32, x33, x34, x35, x36, x37, x38, x39, x40, x41, x42, x43, x44, x45, x46, x47, x48, x49, x50, x51, x52, x53, x54, x55, x56, x57, x58, x59, x60, x61, x62, x63, x64, x65, x66, x67, x68, x69, x70, x71, x72, x73, x74, x75, x76, x77, x78, x79, x80, x81, x82, x83, x84, x85, x86, x87, x88, x89, x90, x91, x92, x93, x94, x95, x96, x97, x98, x99, x100, x101, x102, x103, x104, x105, x106, x107, x108, x109, x110, x111, x112, x113, x114, x115, x116, x117, x118, x119, x120, x121, x122, x123, x124, x125, x126, x127, x128, x129], []⟩ V := by
  obtain ⟨ho, hin, he⟩ := ok_parts (ok_node hok hd)
  have hw := widthOf ho
  have hw' := width_range ho
  have hna := hat.na d (List.mem_of_getElem? hd)
  have hlt : i < N.nodes.length := (List.getElem?_eq_some_iff.1 hd).1
  unfold nodeEnd at he
  by_cases h30 : d.kind = 30
  · exact cyc30 V N row regs ms vs d ai ar am av ci cr cm cv nbk db HD hdb h30 hw hna.2.1 hrow hrl hr64 K' Q0 x0 x5 x6 x7 x8 x10 x13 x14 x15 x16 x17 x18 x19 x20 x21 x22 x23 x24 x25 x26 x27 x28 x30 x31 x32 x33 x34 x35 x36 x37 x38 x39 x40 x41 x42 x43 x44 x45 x46 x47 x48 x49 x50 x51 x52 x53 x54 x55 x56 x57 x58 x59 x60 x61 x62 x63 x64 x65 x66 x67 x68 x69 x70 x71 x72 x73 x74 x75 x76 x77 x78 x79 x80 x81 x82 x83 x84 x85 x86 x87 x88 x89 x90 x91 x92 x93 x94 x95 x96 x97 x98 x99 x100 x101 x102 x103 x104 x105 x106 x107 x108 x109 x110 x111 x112 x113 x114 x115 x116 x117 x118 x119 x120 x121 x122 x123 x124 x125 x126 x127 x128 x129 HK
  · rw [if_neg h30] at he
    by_cases h31 : d.kind = 31
    · rw [if_pos h31, decide_eq_true_iff] at he
      exact cyc31 V N row regs ms vs d ai ar am av ci cr cm cv nbk db HD hdb h31 hna.2.1 (by rw [st.rl]; exact he.1) hreg K' Q0 x0 x5 x6 x7 x8 x10 x13 x14 x15 x16 x17 x18 x19 x20 x21 x22 x23 x24 x25 x26 x27 x28 x30 x31 x32 x33 x34 x35 x36 x37 x38 x39 x40 x41 x42 x43 x44 x45 x46 x47 x48 x49 x50 x51 x52 x53 x54 x55 x56 x57 x58 x59 x60 x61 x62 x63 x64 x65 x66 x67 x68 x69 x70 x71 x72 x73 x74 x75 x76 x77 x78 x79 x80 x81 x82 x83 x84 x85 x86 x87 x88 x89 x90 x91 x92 x93 x94 x95 x96 x97 x98 x99 x100 x101 x102 x103 x104 x105 x106 x107 x108 x109 x110 x111 x112 x113 x114 x115 x116 x117 x118 x119 x120 x121 x122 x123 x124 x125 x126 x127 x128 x129 HK
    · rw [if_neg h31] at he
      by_cases h32 : d.kind = 32
      · rw [if_pos h32, decide_eq_true_iff] at he
        have hl := lenOf ho (n := 1) (by rw [h32]; rfl) (by decide)
        have hl' : 0 < d.args.length := by omega
        have hml : ms.length = N.mems.length := by have := st.ml; simpa using this
        have hm := hin _ (List.mem_of_getElem? (at0_of hl'))
        exact cyc32 V N row regs ms vs d ai ar am av ci cr cm cv nbk db HD hdb h32 hna.2.1 (by rw [hml]; exact he.1) hmem (hna.1.mono hBV) (by omega) ⟨hm.1, by omega⟩ hvs K' Q0 x0 x5 x6 x7 x8 x10 x13 x14 x15 x16 x17 x18 x19 x20 x21 x22 x23 x24 x25 x26 x27 x28 x30 x31 x32 x33 x34 x35 x36 x37 x38 x39 x40 x41 x42 x43 x44 x45 x46 x47 x48 x49 x50 x51 x52 x53 x54 x55 x56 x57 x58 x59 x60 x61 x62 x63 x64 x65 x66 x67 x68 x69 x70 x71 x72 x73 x74 x75 x76 x77 x78 x79 x80 x81 x82 x83 x84 x85 x86 x87 x88 x89 x90 x91 x92 x93 x94 x95 x96 x97 x98 x99 x100 x101 x102 x103 x104 x105 x106 x107 x108 x109 x110 x111 x112 x113 x114 x115 x116 x117 x118 x119 x120 x121 x122 x123 x124 x125 x126 x127 x128 x129 HK
      · exact cycOp V N row regs ms vs d ai ar am av ci cr cm cv nbk db HD hdb ⟨h30, h31, h32⟩ (opok_of hat hok hd vs (by omega) hvo ⟨h30, h31, h32⟩) hw'.1 hna.2.1 (hna.1.mono hBV) (fun a ha => by have := hin a ha; omega) hvs S.a1 S.c1 q1 hnbk (hat.n.mono hBV) (fun z hz => by
          obtain ⟨j, hj, rfl⟩ := List.getElem_of_mem hz
          exact (width_range (ok_parts (ok_node hok (List.getElem?_eq_getElem hj))).1).1) K' Q0 x0 x5 x6 x7 x8 x10 x13 x14 x15 x16 x17 x18 x19 x20 x21 x22 x23 x24 x25 x26 x27 x28 x30 x31 x32 x33 x34 x35 x36 x37 x38 x39 x40 x41 x42 x43 x44 x45 x46 x47 x48 x49 x50 x51 x52 x53 x54 x55 x56 x57 x58 x59 x60 x61 x62 x63 x64 x65 x66 x67 x68 x69 x70 x71 x72 x73 x74 x75 x76 x77 x78 x79 x80 x81 x82 x83 x84 x85 x86 x87 x88 x89 x90 x91 x92 x93 x94 x95 x96 x97 x98 x99 x100 x101 x102 x103 x104 x105 x106 x107 x108 x109 x110 x111 x112 x113 x114 x115 x116 x117 x118 x119 x120 x121 x122 x123 x124 x125 x126 x127 x128 x129 HK

end Go.Proofs.Ytlkhmcajedjojaa

namespace Go.Proofs.Ytlkhmcajedjojaa
open Go.RowKit

theorem own_below {w w' : World} {B e size n : Nat} {v : Value} {xs : List Value} (h : w.ownsRow B e size v n xs) (hb : Below w.heap.size w w') : w'.ownsRow B e size v n xs :=
  h.kept (row := none) ⟨hb.os, hb.tape, hb.output, hb.size, fun k hk _ => hb.block k hk⟩ (by
    cases hv : v.ownBlock with
    | none => exact .inl rfl
    | some x => exact .inr (by simp))
theorem cell_new' {w : World} {cs : Array Value} {t b j : Nat} (h : b = w.heap.size) : (w.alloc (.cells cs t)).cell? ⟨b, j, none⟩ = cs[j]? := by
  subst h; simp
theorem own_mono {w : World} {C C' e size n : Nat} {v : Value} {xs : List Value} (h : w.ownsRow C e size v n xs) (hc : C' ≤ C) : w.ownsRow C' e size v n xs := by
  refine ⟨h.1, ?_⟩
  rcases h.2 with hn | ⟨g, cap, cur, rfl, hg, rest⟩
  · exact .inl hn
  · exact .inr ⟨g, cap, cur, rfl, Nat.le_trans hc hg, rest⟩

set_option maxRecDepth 100000 in
set_option maxHeartbeats 8000000 in
theorem netCycle_any (B : Nat) (w : World) (S : NetS) (N : NetD) (hat : NetAt B w S N) (hB : B ≤ w.heap.size) (hok : NetOk N = true) (row regs : List Nat) (ms : List MD) (st : StOk N regs (ms.map MD.l)) (ai ar am : Option Addr) (ci cr cm : Nat) (hrow : RowAt B w ai 1 (row.map uN)) (hrl : row.length < big) (hr64 : ∀ x, x ∈ row → x < 18446744073709551616) (hreg : RowAt B w ar 1 (regs.map uN)) (hmem : MemsAt B w am ms) :
    Calls Try.prog 36 #[.agg (S.cells N), .slice ai row.length ci, .slice ar regs.length cr, .slice am ms.length cm] w fun e w' => ∃ v, e = .returned v ∧ w'.ownsRow w.heap.size 33 1 v N.nodes.length ((evalN N row regs (ms.map MD.l) N.nodes.length).map uV) ∧ Below w.heap.size w w' := by
  unfold NetS.cells
  obtain ⟨i33, hi33, hz33, hs33, hb33⟩ := info_u64
  have HI2 := hidden hi33
  have HZ2 := hidden hz33
  have HS2 := hidden hs33
  have HBY2 := hidden hb33
  have hln := hat.ln
  simp only [big] at hln
  go_enter Try.func36, Try.ntmps36
  go_wp2_with fail
  generalize hW : World.alloc w _ = W
  have HB : Hid (Below w.heap.size w W) := by rw [← hW]; exact (Below.refl _ _).alloc (Nat.le_refl _) _
  have QN : Hid (∀ j, W.cell? ⟨w.heap.size, j, none⟩ = (#[.slice S.a0 N.ins.length S.c0, .slice S.a1 N.nodes.length S.c1, .slice S.a2 N.regs.length S.c2, .slice S.a3 N.mems.length S.c3, .slice S.a4 N.wrs.length S.c4, .slice S.a5 N.outs.length S.c5] : Array Value)[j]?) := by rw [← hW]; intro j; simp
  have hN : w.heap.size < W.heap.size := by rw [← hW]; simp
  have hBW : B ≤ W.heap.size := Nat.le_trans hB HB.out.size
  have HAT := hidden (hat.to (HB.out.mono hB))
  have HRO := hidden (hrow.to (HB.out.mono hB))
  have HRE := hidden (hreg.to (HB.out.mono hB))
  have HME := hidden (hmem.to (HB.out.mono hB))
  have HR64 := hidden hr64
  have HRL := hidden hrl
  have HST := hidden st
  have HOK := hidden hok
  clear hW hat hrow hreg hmem hr64 hrl st hok hi33 hz33 hs33 hb33
  have q1 : W.cell? ⟨w.heap.size, 1, none⟩ = some (.slice S.a1 N.nodes.length S.c1) := QN.out 1
  go_loopw [9, 10] (fun v i' w' => ∃ (k : Nat), k ≤ N.nodes.length ∧ i' = .int .i64 k ∧ Hid (w'.ownsRow W.heap.size 33 1 v k ((evalN N row regs (ms.map MD.l) k).map uV)) ∧ Hid (Below W.heap.size W w')) (fun _ i' _ => N.nodes.length - (intOf i').toNat)
  case atStart => exact ⟨0, Nat.zero_le _, rfl, World.ownsRow_nil _ _ _ _, Below.refl _ _⟩
  case round =>
    obtain ⟨k, hk, rfl, HO, HBr⟩ := hrel
    have q1R := (HBr.out.cell (p := ⟨w.heap.size, 1, none⟩) hN).trans q1
    by_cases hlt : k < N.nodes.length
    · obtain ⟨d, hd⟩ : ∃ d, N.nodes[k]? = some d := ⟨N.nodes[k], List.getElem?_eq_getElem hlt⟩
      obtain ⟨nb, no, ea, hnb, hnc⟩ := HAT.out.n.el hd
      have hnbW : nb < W.heap.size := Nat.lt_of_lt_of_le hnb hBW
      have n0 : wr.cell? ⟨nb, no + k * 4, none⟩ = _ := (HBr.out.cell (p := ⟨nb, no + k * 4, none⟩) hnbW).trans (hnc 0 _ rfl)
      have n1 := (HBr.out.cell (p := ⟨nb, no + k * 4 + 1, none⟩) hnbW).trans (hnc 1 _ rfl)
      have n2 := (HBr.out.cell (p := ⟨nb, no + k * 4 + 2, none⟩) hnbW).trans (hnc 2 _ rfl)
      have n3 := (HBr.out.cell (p := ⟨nb, no + k * 4 + 3, none⟩) hnbW).trans (hnc 3 _ rfl)
      have q1K := q1R
      rw [ea] at q1R
      have hltI : (k : Int) < (N.nodes.length : Int) := by omega
      have e3 : IntKind.i64.wrap ((k : Int) + 1) = (k : Int) + 1 := wrapI _ (by omega) (by omega)
      have HD := hidden hd
      have HEA := hidden ea
      clear hd ea hnc
      obtain ⟨vs, HVS⟩ : ∃ vs, Hid (evalN N row regs (ms.map MD.l) k = vs) := ⟨_, rfl⟩
      have hvl : vs.length = k := by rw [← HVS.out]; exact eval_length _ _ _ _ _
      have hO := HO.out
      rw [HVS.out] at hO
      obtain ⟨-, av, cv, hu, hrv⟩ := ownRow (g := uV) hO
      rw [← hvl] at hu
      subst hu
      have HRV := hidden hrv
      have HVL := hidden hvl
      have HO2 := hidden hO
      clear hrv hvl hO HO
      go_upto_block 2 with fail
      generalize hV : World.alloc wr _ = V
      have HBV : Hid (Below wr.heap.size wr V) := by rw [← hV]; exact (Below.refl _ _).alloc (Nat.le_refl _) _
      have HDC : Hid (∀ (j : Nat) (v : Value), d.cells[j]? = some v → V.cell? ⟨wr.heap.size, j, none⟩ = some v) := by
        intro j v hv
        rw [← hV, cell_new' rfl, ← Array.getElem?_toList]
        exact hv
      have hdb : wr.heap.size < V.heap.size := by rw [← hV]; simp
      clear hV
      have HWV : Hid (Below W.heap.size W V) := HBr.out.trans (HBV.out.mono HBr.out.size)
      have hWV := HWV.out.size
      have q1V : V.cell? ⟨w.heap.size, 1, none⟩ = some (.slice S.a1 N.nodes.length S.c1) := (HWV.out.cell (p := ⟨w.heap.size, 1, none⟩) hN).trans q1
      have HVO : Hid (VsOk N vs) := by rw [← HVS.out]; exact eval_ok HAT.out HOK.out row regs _ HST.out k
      have HO3 : Hid (V.ownsRow W.heap.size 33 1 (.slice av vs.length cv) k (vs.map uV)) := own_below HO2.out HBV.out
      have HNX : Hid (evalN N row regs (ms.map MD.l) (k + 1) = vs ++ [nodeVal N row regs (ms.map MD.l) vs d]) := by
        show _ = _
        rw [eval_next _ _ _ _ _ d HD.out, HVS.out]
      refine cyc_any V N row regs ms vs d ai ar am av ci cr cm cv w.heap.size wr.heap.size HDC hdb B S (HAT.out.to (HWV.out.mono hBW)) (Nat.le_trans hBW hWV) HOK.out k HD.out HST.out HVL.out HVO.out ((HRO.out.to (HWV.out.mono hBW)).mono (Nat.le_trans hBW hWV)) HRL.out HR64.out ((HRE.out.to (HWV.out.mono hBW)).mono (Nat.le_trans hBW hWV)) ⟨(HME.out.1.to (HWV.out.mono hBW)).mono (Nat.le_trans hBW hWV), fun m hm => ⟨((HME.out.2 m hm).1.to (HWV.out.mono hBW)).mono (Nat.le_trans hBW hWV), (HME.out.2 m hm).2⟩⟩ ((HRV.out.to HBV.out).mono HBV.out.size) q1V (Nat.lt_of_lt_of_le hN hWV) _ _ _ _ _ _ _ _ _ _ _ _ _ _ _ _ _ _ _ _ _ _ _ _ _ _ _ _ _ _ _ _ _ _ _ _ _ _ _ _ _ _ _ _ _ _ _ _ _ _ _ _ _ _ _ _ _ _ _ _ _ _ _ _ _ _ _ _ _ _ _ _ _ _ _ _ _ _ _ _ _ _ _ _ _ _ _ _ _ _ _ _ _ _ _ _ _ _ _ _ _ _ _ _ _ _ _ _ _ _ _ _ _ _ _ _ _ _ _ _ _ _ _ _ ?_
      intro s w4 v13 v14 v15 v30 v31 v32 v33 v34 v35 v36 v37 v38 v39 v40 v41 v42 v43 v44 v45 v46 v47 v48 v49 v50 v51 v52 v53 v54 v55 v56 v57 v58 v59 v60 v61 v62 v63 v64 v65 v66 v67 v68 v69 v70 v71 v72 v73 v74 v75 v76 v77 v78 v79 v80 v81 v82 v83 v84 v85 v86 v87 v88 v89 v90 v91 v92 v93 v94 v95 v96 v97 v98 v99 v100 v101 v102 v103 v104 v105 v106 v107 v108 v109 v110 v111 v112 v113 v114 v115 v116 v117 v118 v119 v120 v121 v122 v123 v124 hs hb4
      subst hs
      generalize nodeVal N row regs (ms.map MD.l) vs d = val at *
      have HB4 : Hid (Below W.heap.size W w4) := HWV.out.trans (hb4.out.mono HWV.out.size)
      have HO4 : Hid (w4.ownsRow W.heap.size 33 1 (.slice av vs.length cv) k (vs.map uV)) := own_below HO3.out hb4.out
      have hs4 := HB4.out.size
      have hm1 : k + 1 ≤ maxLen := by simp only [maxLen]; omega
      have hm2 : (k + 1) * 8 ≤ 140737488355328 := by omega
      have hm3 : W.heap.size ≤ (w4.alloc (.cells #[.int .u64 (val : Int)] 33)).heap.size := by simp; omega
      clear hb4 HO3 HO2 HBr HBV HWV hWV HDC HVO n0 n1 n2 n3 q1R q1K q1V HRV hdb
      have tok : True := trivial
      go_wp2_with (have _t := tok; at_builtin; (refine wpList_append_lies _ rfl (.tmp 125) (.tmp 127) 34 rfl W.heap.size 33 i33 _ 1 8 Try.underlying34 HI2.out HZ2.out HS2.out HBY2.out rfl (by decide) (.slice av vs.length cv) k _ rfl (HO4.out.alloc _) ⟨w4.heap.size, 0, none⟩ 1 1 [.int .u64 (val : Int)] rfl rfl (World.news_of_block (heap_new _ _)) (by simp [Value.oneCell']) (by decide) hm1 hm2 hm3 _ rfl ?_; intro g cap w5 hown hgrow hat5 hlt5; clear tok))
      have HO5 : Hid (w5.ownsRow W.heap.size 33 1 (.slice (some ⟨g, 0, none⟩) (k + 1) cap) (k + 1) ((evalN N row regs (ms.map MD.l) (k + 1)).map uV)) := by
        show World.ownsRow _ _ _ _ _ _ _
        rw [HNX.out, List.map_append]
        exact hown
      have HB5 : Hid (Below W.heap.size W w5) := grown_plain HB4.out HO4.out hgrow
      clear hown hgrow hat5 hlt5 hm1 hm2 hm3 HO4 HB4 HNX HVS HVL HD HEA
      go_wp2
      go_roundw
      case measure => simp [intOf]; omega
      case rel => exact ⟨k + 1, by omega, by simp, HO5.out, HB5.out⟩
    · have hge : ¬ ((k : Int) < (N.nodes.length : Int)) := by omega
      have HO6 : Hid (wr.ownsRow W.heap.size 33 1 u9 N.nodes.length ((evalN N row regs (ms.map MD.l) N.nodes.length).map uV)) := by
        have := HO.out
        rw [show k = N.nodes.length by omega] at this
        exact this
      clear HO
      go_wp2
      go_ret
      exact ⟨_, rfl, own_mono HO6.out HB.out.size, HB.out.trans (HBr.out.mono HB.out.size)⟩

end Go.Proofs.Ytlkhmcajedjojaa
