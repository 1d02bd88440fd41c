import Derived.Test.YtmifbcpinhpnnaaDoorArI
namespace Go.Proofs.YtmifbcpinhpnnaaDoor
open Go.RowKit

set_option maxRecDepth 100000 in
set_option maxHeartbeats 8000000 in
theorem printed_any (D : Nat) (w : World) (S : GrS) (G : GrD) (h : GrAt D w S G) (hD : D ≤ w.heap.size) (ht : Tens w) (hG : Tryd.prog.globals.size ≤ w.heap.size) :
    Calls Tryd.prog 5 #[.agg (S.cells G)] w fun e w' => e = .returned (.bool true) ∧ Below w.heap.size w w' := by
  obtain ⟨r, HR⟩ : ∃ r, Hid (GrOk G = r) := ⟨_, rfl⟩
  have VL : Hid (∀ w', Below w.heap.size w w' → Calls Tryd.prog 8 #[.agg (S.cells G)] w' fun e w'' => e = .returned (.bool r) ∧ Below w'.heap.size w' w'') := fun w' hw' => by
    have := graphValid_any D w' S G (h.to (hw'.mono hD)) (Nat.le_trans hD hw'.size)
    rw [HR.out] at this
    exact this
  obtain ⟨tt, HTT⟩ : ∃ tt, Hid (aigT G = tt) := ⟨_, rfl⟩
  have PR : Hid (r = true → ∀ w', Below w.heap.size w w' → Calls Tryd.prog 9 #[.agg (S.cells G)] w' fun e w'' => e = .returned (.string (bs tt)) ∧ Below w'.heap.size w' w'') := fun hr w' hw' => by
    rw [← HTT.out]
    exact print_any D w' S G (h.to (hw'.mono hD)) (Nat.le_trans hD hw'.size) (HR.out.trans hr) (ht.to hw' hG) (Nat.le_trans hG hw'.size)
  have TX : Hid (r = true → ∀ w', Below w.heap.size w w' → Calls Tryd.prog 10 #[.agg (S.cells G)] w' fun e w'' => e = .returned (.string (bs tt)) ∧ Below w'.heap.size w' w'') := fun hr w' hw' => by
    rw [← HTT.out]
    exact aigText_any D w' S G (h.to (hw'.mono hD)) (Nat.le_trans hD hw'.size) (HR.out.trans hr)
  have hcs : S.cells G = #[.int .i64 G.ins, .slice S.a1 G.lats.length S.c1, .slice S.a2 G.ands.length S.c2, .slice S.a3 G.outs.length S.c3] := rfl
  rw [hcs] at VL PR TX ⊢
  clear h HR HTT ht hcs
  go_enter Tryd.func5, Tryd.ntmps5
  go_upto_region 1 with fail
  generalize hW : World.alloc w _ = W0
  obtain ⟨gx, hgx⟩ : ∃ x, x = w.heap.size := ⟨_, rfl⟩
  have HB0 : Hid (Below w.heap.size w W0) := by rw [← hW]; exact (Below.refl _ _).alloc (Nat.le_refl _) _
  have HX : Hid (BoxAt W0 gx S G) := by
    rw [← hW, hgx]
    exact ⟨by simp, by simp, by simp, by simp, by simp⟩
  rw [← hgx]
  clear hW hgx
  have q0 := HX.out.c0
  have q1 := HX.out.c1
  have q2 := HX.out.c2
  have q3 := HX.out.c3
  go_wp2_with fail
  go_at_call 8
  refine (VL.out _ HB0.out).mono ?_
  rintro e w1 ⟨rfl, hb1⟩
  have HX1 := hidden (HX.out.to HX.out.lt hb1)
  have HBw1 : Hid (Below w.heap.size w w1) := HB0.out.trans (hb1.mono HB0.out.size)
  clear q0 q1 q2 q3 hb1 HX VL
  cases r
  · clear PR TX
    go_wp2
    go_ret
    exact ⟨rfl, HBw1.out⟩
  · have PR' := hidden (PR.out rfl w1 HBw1.out)
    have TX0 := hidden (TX.out rfl)
    clear PR TX
    have q0 := HX1.out.c0
    have q1 := HX1.out.c1
    have q2 := HX1.out.c2
    have q3 := HX1.out.c3
    go_wp2_with fail
    go_at_call 9
    refine PR'.out.mono ?_
    rintro e w2 ⟨rfl, hb2⟩
    have HX2 := hidden (HX1.out.to HX1.out.lt hb2)
    have HBw2 : Hid (Below w.heap.size w w2) := HBw1.out.trans (hb2.mono HBw1.out.size)
    have TX' := hidden (TX0.out w2 HBw2.out)
    clear q0 q1 q2 q3 hb2 PR' TX0 HX1
    have q0 := HX2.out.c0
    have q1 := HX2.out.c1
    have q2 := HX2.out.c2
    have q3 := HX2.out.c3
    go_wp2_with fail
    go_at_call 10
    refine TX'.out.mono ?_
    rintro e w3 ⟨rfl, hb3⟩
    have HBw3 : Hid (Below w.heap.size w w3) := HBw2.out.trans (hb3.mono HBw2.out.size)
    clear hb3 TX' q0 q1 q2 q3
    go_wp2
    go_ret
    refine ⟨ret_bool ?_, HBw3.out⟩
    simp

set_option maxRecDepth 100000 in
set_option maxHeartbeats 8000000 in
theorem law_prints (D : Nat) (w : World) (S : GrS) (G : GrD) (h : GrAt D w S G) (hD : D ≤ w.heap.size) (ht : Tens w) (hG : Tryd.prog.globals.size ≤ w.heap.size) :
    Calls Tryd.prog 3 #[.agg (S.cells G)] w fun e w' => e = .returned (.bool true) ∧ Below w.heap.size w w' := by
  have SM : Hid (∀ w : World, Calls Tryd.prog 6 #[] w fun e w' => ∃ S, e = .returned (.agg (GrS.cells S tinyG)) ∧ GrAt w'.heap.size w' S tinyG ∧ Below w.heap.size w w') := tiny_any
  have RT : Hid (∀ (w' : World) S, Below w.heap.size w w' → GrAt w'.heap.size w' S tinyG → Calls Tryd.prog 5 #[.agg (GrS.cells S tinyG)] w' fun e w'' => e = .returned (.bool true) ∧ Below w'.heap.size w' w'') := fun w' S hw' hg => printed_any w'.heap.size w' S tinyG hg (Nat.le_refl _) (ht.to hw' hG) (Nat.le_trans hG hw'.size)
  have RG : Hid (∀ w', Below w.heap.size w w' → Calls Tryd.prog 5 #[.agg (S.cells G)] w' fun e w'' => e = .returned (.bool true) ∧ Below w'.heap.size w' w'') := fun w' hw' =>
    printed_any D w' S G (h.to (hw'.mono hD)) (Nat.le_trans hD hw'.size) (ht.to hw' hG) (Nat.le_trans hG hw'.size)
  clear h ht
  have hcs : S.cells G = #[.int .i64 G.ins, .slice S.a1 G.lats.length S.c1, .slice S.a2 G.ands.length S.c2, .slice S.a3 G.outs.length S.c3] := rfl
  rw [hcs] at RG ⊢
  clear hcs
  go_enter Tryd.func3, Tryd.ntmps3
  go_wp2_with fail
  generalize hW : World.alloc w _ = W
  have HB : Hid (Below w.heap.size w W) := by rw [← hW]; exact (Below.refl _ _).alloc (Nat.le_refl _) _
  have hN : w.heap.size < W.heap.size := by rw [← hW]; simp
  have HX : Hid (BoxAt W w.heap.size S G) := by
    rw [← hW]
    exact ⟨by simp, by simp, by simp, by simp, by simp⟩
  clear hW
  go_at_call 6
  refine (SM.out _).mono ?_
  rintro e w1 ⟨S1, rfl, hn1, hb1⟩
  have HB1 := hidden hb1
  have HR1 := hidden (RT.out w1 S1 (HB.out.trans (hb1.mono HB.out.size)) hn1)
  clear hb1 hn1 SM RT
  go_wp2_with fail
  go_at_call 5
  refine HR1.out.mono ?_
  rintro e w2 ⟨rfl, hb2⟩
  have HB2 : Hid (Below W.heap.size W w2) := HB1.out.trans (hb2.mono HB1.out.size)
  have HBw2 : Hid (Below w.heap.size w w2) := HB.out.trans (HB2.out.mono HB.out.size)
  have HX2 := hidden (HX.out.to hN HB2.out)
  have q0 := HX2.out.c0
  have q1 := HX2.out.c1
  have q2 := HX2.out.c2
  have q3 := HX2.out.c3
  clear hb2 HR1 HX HB1
  go_wp2_with fail
  go_at_call 5
  refine (RG.out _ HBw2.out).mono ?_
  rintro e w3 ⟨rfl, hb3⟩
  have HBw3 : Hid (Below w.heap.size w w3) := HBw2.out.trans (hb3.mono HBw2.out.size)
  clear hb3 RG
  go_wp2
  go_ret
  exact ⟨rfl, HBw3.out⟩

end Go.Proofs.YtmifbcpinhpnnaaDoor
