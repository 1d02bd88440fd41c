import Derived.Test.YtdiahnommkhkiaaDoorAdJ
import Derived.Test.YtdiahnommkhkiaaDoorAqO
import Derived.Test.YtdiahnommkhkiaaDoorAcB
import Derived.Test.YtdiahnommkhkiaaDoorArD
namespace Go.Proofs.YtdiahnommkhkiaaDoor
open Go.RowKit

set_option maxRecDepth 100000 in
set_option maxHeartbeats 4000000 in
theorem parsed_any (T : List UInt8) (hT : T.length ≤ 1048576) (w : World) (hv : Vars w) (h2 : 2 ≤ w.heap.size) :
    Calls Tryd.prog 5 #[.string (bs T)] w fun e w' => e = .returned (.bool true) ∧ Below w.heap.size w w' := by
  have P1 := hidden (parse_any T hT w hv h2)
  have HV := hidden hv
  have AP := hidden (aigParse_any T hT)
  clear hv
  generalize bs T = s at *
  go_enter Tryd.func5, Tryd.ntmps5
  go_wp2_with fail
  go_at_call 10
  refine P1.out.mono ?_
  rintro e w1 ⟨G, S, c, a, v, hO, rfl, hA, hE, hB⟩
  have HO := hidden hO
  have HA := hidden hA
  have HE := hidden hE
  have HB := hidden hB
  clear hO hA hE hB P1
  have HSC : Hid (GrS.cells S G = #[.int .i64 G.ins, .slice S.a1 G.lats.length S.c1, .slice S.a2 G.ands.length S.c2, .slice S.a3 G.outs.length S.c3]) := rfl
  rw [HSC.out]
  go_upto_region 2 with fail
  generalize hW2 : World.alloc w1 _ = w2
  obtain ⟨b3, hb3⟩ : ∃ x, x = w1.heap.size := ⟨_, rfl⟩
  have HB2 : Hid (Below w1.heap.size w1 w2) := by rw [← hW2]; exact (Below.refl _ _).alloc (Nat.le_refl _) _
  have HG2 : Hid (w2.heap[b3]? = some (.cells #[.int .i64 G.ins, .slice S.a1 G.lats.length S.c1, .slice S.a2 G.ands.length S.c2, .slice S.a3 G.outs.length S.c3] 28 (0, 0))) := by rw [← hW2, hb3]; exact heap_new _ _
  have hl3 : b3 < w2.heap.size := by rw [← hW2, hb3]; simp
  rw [← hb3]
  clear hW2 hb3
  have A2 := hidden (AP.out w2)
  clear AP
  go_wp2_with fail
  go_at_call 11
  refine A2.out.mono ?_
  rintro e w3 ⟨G', S', c', a', hO, rfl, hA, hB⟩
  obtain ⟨rfl, rfl, rfl⟩ := outcome_same HO.out hO
  have HA' := hidden hA
  have HB3 := hidden hB
  have HG3 := hidden ((hB.block b3 hl3).trans HG2.out)
  have hs3 := hB.size
  clear hO hA hB A2 HO HG2
  have HSC' : Hid (GrS.cells S' G = #[.int .i64 G.ins, .slice S'.a1 G.lats.length S'.c1, .slice S'.a2 G.ands.length S'.c2, .slice S'.a3 G.outs.length S'.c3]) := rfl
  rw [HSC'.out]
  go_upto_region 3 with fail
  generalize hW4 : World.alloc (World.alloc w3 _) _ = w4
  obtain ⟨b5, hb5⟩ : ∃ x, x = w3.heap.size := ⟨_, rfl⟩
  obtain ⟨b6, hb6⟩ : ∃ x, x = w3.heap.size + 1 := ⟨_, rfl⟩
  have HB4 : Hid (Below w3.heap.size w3 w4) := by rw [← hW4]; exact ((Below.refl _ _).alloc (Nat.le_refl _) _).alloc (by simp) _
  have HG5 : Hid (w4.heap[b5]? = some (.cells #[.int .i64 G.ins, .slice S'.a1 G.lats.length S'.c1, .slice S'.a2 G.ands.length S'.c2, .slice S'.a3 G.outs.length S'.c3] 28 (0, 0))) := by
    show _ = _
    rw [← hW4, hb5, heap_alloc_old _ _ (by simp)]; exact heap_new _ _
  have HF6 : Hid (w4.heap[b6]? = some (.cells #[.int .i64 c, .int .i64 a] 38 (0, 0))) := by
    show _ = _
    rw [← hW4, hb6]
    have := heap_new (w3.alloc (.cells #[.int .i64 G.ins, .slice S'.a1 G.lats.length S'.c1, .slice S'.a2 G.ands.length S'.c2, .slice S'.a3 G.outs.length S'.c3] 28)) (.cells #[.int .i64 c, .int .i64 a] 38)
    simpa using this
  have hl5 : b5 < w4.heap.size := by rw [← hW4, hb5]; simp; omega
  have HG3' := hidden ((HB4.out.block b3 (by omega)).trans HG3.out)
  rw [← hb6, ← hb5]
  clear hW4 hb5 hb6
  have HB14 : Hid (Below w1.heap.size w1 w4) := (HB2.out.trans (HB3.out.mono HB2.out.size)).trans (HB4.out.mono (Nat.le_trans HB2.out.size HB3.out.size))
  have HBw4 : Hid (Below w.heap.size w w4) := HB.out.trans (HB14.out.mono HB.out.size)
  have f0 : w4.cell? ⟨b6, 0, none⟩ = some (.int .i64 c) := heap_cell HF6.out
  have f1 : w4.cell? ⟨b6, 1, none⟩ = some (.int .i64 a) := heap_cell HF6.out
  have FA := hidden (faulty_any v c a w4 (HE.out.to HB14.out) (HV.out.to HBw4.out h2) (Nat.le_trans h2 HBw4.out.size))
  go_wp2_with fail
  go_at_call 12
  refine FA.out.mono ?_
  rintro e w5 ⟨rfl, hb5⟩
  have HB5 := hidden hb5
  have HGa := hidden ((hb5.block b3 (by have := HB4.out.size; omega)).trans HG3'.out)
  have HGb := hidden ((hb5.block b5 hl5).trans HG5.out)
  have g0 : w5.cell? ⟨b3, 0, none⟩ = some (.int .i64 G.ins) := heap_cell HGa.out
  have g1 : w5.cell? ⟨b3, 1, none⟩ = some (.slice S.a1 G.lats.length S.c1) := heap_cell HGa.out
  have g2 : w5.cell? ⟨b3, 2, none⟩ = some (.slice S.a2 G.ands.length S.c2) := heap_cell HGa.out
  have g3 : w5.cell? ⟨b3, 3, none⟩ = some (.slice S.a3 G.outs.length S.c3) := heap_cell HGa.out
  have k0 : w5.cell? ⟨b5, 0, none⟩ = some (.int .i64 G.ins) := heap_cell HGb.out
  have k1 : w5.cell? ⟨b5, 1, none⟩ = some (.slice S'.a1 G.lats.length S'.c1) := heap_cell HGb.out
  have k2 : w5.cell? ⟨b5, 2, none⟩ = some (.slice S'.a2 G.ands.length S'.c2) := heap_cell HGb.out
  have k3 : w5.cell? ⟨b5, 3, none⟩ = some (.slice S'.a3 G.outs.length S'.c3) := heap_cell HGb.out
  have HB15 : Hid (Below w1.heap.size w1 w5) := HB14.out.trans (hb5.mono HB14.out.size)
  have HB35 : Hid (Below w3.heap.size w3 w5) := HB4.out.trans (hb5.mono HB4.out.size)
  have SG := hidden (sameGraph_any w5.heap.size w5 S S' G ((HA.out.to HB15.out).mono HB15.out.size) ((HA'.out.to HB35.out).mono HB35.out.size) (Nat.le_refl _))
  rw [HSC.out, HSC'.out] at SG
  have HBw5 : Hid (Below w.heap.size w w5) := HBw4.out.trans (hb5.mono HBw4.out.size)
  clear hb5 FA f0 f1 HG3 HG3' HG5 HF6 HGa HGb HE HA HA'
  go_wp2_with fail
  go_at_call 13
  refine SG.out.mono ?_
  rintro e w6 ⟨rfl, hb6⟩
  have HBw6 : Hid (Below w.heap.size w w6) := HBw5.out.trans (hb6.mono HBw5.out.size)
  clear hb6 SG g0 g1 g2 g3 k0 k1 k2 k3
  go_wp2
  go_ret
  exact ⟨rfl, HBw6.out⟩

theorem tiny_len : (aigT tinyG).length ≤ 1048576 := by decide +kernel
set_option maxRecDepth 100000 in
set_option maxHeartbeats 4000000 in
theorem law_parses (T : List UInt8) (hT : T.length ≤ 1048576) (w : World) (hv : Vars w) (h2 : 2 ≤ w.heap.size) :
    Calls Tryd.prog 3 #[.string (bs T)] w fun e w' => e = .returned (.bool true) ∧ Below w.heap.size w w' := by
  have TI := hidden (tiny_any w)
  have PA : Hid (∀ T w', T.length ≤ 1048576 → Below w.heap.size w w' → Calls Tryd.prog 5 #[.string (bs T)] w' fun e w'' => e = .returned (.bool true) ∧ Below w'.heap.size w' w'') := fun T w' h1 hb => parsed_any T h1 w' (hv.to hb h2) (Nat.le_trans h2 hb.size)
  have P2 := hidden (PA.out T)
  clear hv
  generalize bs T = s at *
  go_enter Tryd.func3, Tryd.ntmps3
  go_wp2_with fail
  go_at_call 7
  refine TI.out.mono ?_
  rintro e w1 ⟨S, rfl, hA, hB⟩
  have AT := hidden (aigText_any w1.heap.size w1 S tinyG hA (Nat.le_refl _) (by decide +kernel))
  have HB1 := hidden hB
  clear hA hB TI
  have HSC : Hid (∃ x, x = GrS.cells S tinyG) := ⟨_, rfl⟩
  obtain ⟨cs, hcs⟩ := HSC.out
  rw [← hcs] at AT ⊢
  clear hcs HSC
  go_wp2_with fail
  go_at_call 6
  refine AT.out.mono ?_
  rintro e w2 ⟨rfl, hb2⟩
  have HB2 : Hid (Below w.heap.size w w2) := HB1.out.trans (hb2.mono HB1.out.size)
  have P1 := hidden (PA.out (aigT tinyG) w2 tiny_len HB2.out)
  clear hb2 AT PA
  generalize bs (aigT tinyG) = st at *
  go_wp2_with fail
  go_at_call 5
  refine P1.out.mono ?_
  rintro e w3 ⟨rfl, hb3⟩
  have HB3 : Hid (Below w.heap.size w w3) := HB2.out.trans (hb3.mono HB2.out.size)
  clear hb3 P1
  go_wp2_with fail
  go_at_call 5
  refine (P2.out w3 hT HB3.out).mono ?_
  rintro e w4 ⟨rfl, hb4⟩
  have HB4 : Hid (Below w.heap.size w w4) := HB3.out.trans (hb4.mono HB3.out.size)
  clear hb4 P2
  go_wp2
  go_ret
  exact ⟨rfl, HB4.out⟩

end Go.Proofs.YtdiahnommkhkiaaDoor
