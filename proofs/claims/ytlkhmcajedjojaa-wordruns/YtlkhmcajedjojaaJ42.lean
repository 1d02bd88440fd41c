import Derived.Test.YtlkhmcajedjojaaJ41
namespace Go.Proofs.Ytlkhmcajedjojaa
open Go.RowKit

theorem netOk_eq (N : NetD) : NetOk N = ((List.range N.ins.length).all (pAt N.ins widthOk) && (List.range N.mems.length).all (pAt N.mems memOk) && (List.range N.nodes.length).all (okAt N) && (List.range N.regs.length).all (pAt N.regs (fun z => regOk z && nextOk N z)) && (List.range N.wrs.length).all (pAt N.wrs (wrOk N)) && (List.range N.outs.length).all (pAt N.outs (outOk N))) := by
  rw [all_pAt, all_pAt, all_pAt, all_pAt, all_pAt, all_both]
  unfold NetOk
  generalize N.ins.all widthOk = a
  generalize N.regs.all regOk = b
  generalize N.mems.all memOk = c
  generalize (List.range N.nodes.length).all (okAt N) = d
  generalize N.regs.all (nextOk N) = e
  generalize N.wrs.all (wrOk N) = f
  generalize N.outs.all (outOk N) = g
  cases a <;> cases b <;> cases c <;> cases d <;> cases e <;> cases f <;> cases g <;> rfl

/-- a world in which a netlist's slices lie in one block and a checker of it in the next -/
theorem six_calls (B : Nat) (w : World) (cb : Nat) (S : NetS) (N : NetD) (h : CkAt B w cb S N) (hB : B ≤ w.heap.size) (ub : Nat) (hu : w.cell? ⟨ub, 0, none⟩ = some (.pointer (some ⟨cb, 0, none⟩))) (hub : ub < w.heap.size) :
    (∀ w', Below w.heap.size w w' → Calls Try.prog 9 #[.int .i64 N.ins.length, Value.func (Fn.func 10) #[] #[.pointer (some ⟨cb, 0, none⟩)]] w' fun e w'' => e = .returned (.bool ((List.range N.ins.length).all (pAt N.ins widthOk))) ∧ Below w'.heap.size w' w'') ∧
    (∀ w', Below w.heap.size w w' → Calls Try.prog 9 #[.int .i64 N.mems.length, Value.func (Fn.func 12) #[.agg #[.pointer (some ⟨cb, 0, none⟩)]] #[]] w' fun e w'' => e = .returned (.bool ((List.range N.mems.length).all (pAt N.mems memOk))) ∧ Below w'.heap.size w' w'') ∧
    (∀ w', Below w.heap.size w w' → Calls Try.prog 9 #[.int .i64 N.nodes.length, Value.func (Fn.func 13) #[.agg #[.pointer (some ⟨cb, 0, none⟩)]] #[]] w' fun e w'' => e = .returned (.bool ((List.range N.nodes.length).all (okAt N))) ∧ Below w'.heap.size w' w'') ∧
    (∀ w', Below w.heap.size w w' → Calls Try.prog 9 #[.int .i64 N.regs.length, Value.func (Fn.func 14) #[.agg #[.pointer (some ⟨cb, 0, none⟩)]] #[]] w' fun e w'' => e = .returned (.bool ((List.range N.regs.length).all (pAt N.regs (fun z => regOk z && nextOk N z)))) ∧ Below w'.heap.size w' w'') ∧
    (∀ w', Below w.heap.size w w' → Calls Try.prog 9 #[.int .i64 N.wrs.length, Value.func (Fn.func 15) #[.agg #[.pointer (some ⟨cb, 0, none⟩)]] #[]] w' fun e w'' => e = .returned (.bool ((List.range N.wrs.length).all (pAt N.wrs (wrOk N)))) ∧ Below w'.heap.size w' w'') ∧
    (∀ w', Below w.heap.size w w' → Calls Try.prog 9 #[.int .i64 N.outs.length, Value.func (Fn.func 16) #[] #[.pointer (some ⟨ub, 0, none⟩), .pointer (some ⟨cb, 0, none⟩)]] w' fun e w'' => e = .returned (.bool ((List.range N.outs.length).all (pAt N.outs (outOk N)))) ∧ Below w'.heap.size w' w'') := by
  have hto : ∀ w', Below w.heap.size w w' → CkAt B w' cb S N := fun w' hw' => h.to (hw'.mono hB)
  have hBt : ∀ {w' : World}, Below w.heap.size w w' → B ≤ w'.heap.size := fun hw' => Nat.le_trans hB hw'.size
  refine ⟨fun w1 hw1 => ?_, fun w1 hw1 => ?_, fun w1 hw1 => ?_, fun w1 hw1 => ?_, fun w1 hw1 => ?_, fun w1 hw1 => ?_⟩
  · refine holds_ins _ _ h.net.li w1 _ (fun i hi _ w' hw' => ?_)
    exact valid1_any B w' cb S N (hto w' (hw1.trans (hw'.mono hw1.size))) i hi
  · refine holds_memory _ _ h.net.lm w1 _ (fun i hi _ w' hw' => ?_)
    have hz := List.getElem?_eq_getElem hi
    rw [pAt_eq hz]
    have hx := hw1.trans (hw'.mono hw1.size)
    exact memory_any B w' cb S N (hto w' hx) (hBt hx) i _ hz
  · refine holds_node _ _ h.net.ln w1 _ (fun i hi hpre w' hw' => ?_)
    have hz := List.getElem?_eq_getElem hi
    have e : okAt N i = nodeOk N i N.nodes[i] := by unfold okAt; rw [hz]
    rw [e]
    have hx := hw1.trans (hw'.mono hw1.size)
    refine node_any B w' cb S N (hto w' hx) (hBt hx) i _ hz (fun j y hj hy => ?_)
    have h1 := hpre j hj
    simp only [okAt, hy, nodeOk] at h1
    by_cases ho : nodeOut y
    · rw [if_pos ho] at h1; cases h1
    · have := widthOf ho
      simpa [widthOk] using this
  · refine holds_register _ _ h.net.lr w1 _ (fun i hi _ w' hw' => ?_)
    have hz := List.getElem?_eq_getElem hi
    rw [pAt_eq hz]
    have hx := hw1.trans (hw'.mono hw1.size)
    exact register_any B w' cb S N (hto w' hx) (hBt hx) i _ hz
  · refine holds_write _ _ h.net.lw w1 _ (fun i hi _ w' hw' => ?_)
    have hz := List.getElem?_eq_getElem hi
    rw [pAt_eq hz]
    have hx := hw1.trans (hw'.mono hw1.size)
    exact write_any B w' cb S N (hto w' hx) (hBt hx) i _ hz
  · refine holds_outs _ _ h.net.lo w1 _ _ (fun i hi _ w' hw' => ?_)
    have hx := hw1.trans (hw'.mono hw1.size)
    exact valid2_any B w' cb S N (hto w' hx) (hBt hx) ub ((hx.cell (p := ⟨ub, 0, none⟩) hub).trans hu) (Nat.lt_of_lt_of_le hub hx.size) i hi

set_option maxRecDepth 100000 in
set_option maxHeartbeats 8000000 in
theorem valid_any (B : Nat) (w : World) (S : NetS) (N : NetD) (h : NetAt B w S N) (hB : B ≤ w.heap.size) :
    Calls Try.prog 5 #[.agg (S.cells N)] w fun e w' => e = .returned (.bool (NetOk N)) ∧ Below w.heap.size w w' := by
  rw [netOk_eq]
  have SX : Hid (∀ W, Below w.heap.size w W → w.heap.size < W.heap.size → (∀ j, W.cell? ⟨w.heap.size, j, none⟩ = (S.cells N)[j]?) → W.cell? ⟨w.heap.size + 1, 0, none⟩ = some (.pointer (some ⟨w.heap.size, 0, none⟩)) → w.heap.size + 1 < W.heap.size → _) :=
    fun W hw hN hc hq hl => six_calls W.heap.size W w.heap.size S N ⟨(h.to (hw.mono hB)).mono (Nat.le_trans hB hw.size), hN, hc⟩ (Nat.le_refl _) (w.heap.size + 1) hq hl
  clear h hB
  generalize (List.range N.ins.length).all (pAt N.ins widthOk) = b0 at *
  generalize (List.range N.mems.length).all (pAt N.mems memOk) = b1 at *
  generalize (List.range N.nodes.length).all (okAt N) = b2 at *
  generalize (List.range N.regs.length).all (pAt N.regs (fun z => regOk z && nextOk N z)) = b3 at *
  generalize (List.range N.wrs.length).all (pAt N.wrs (wrOk N)) = b4 at *
  generalize (List.range N.outs.length).all (pAt N.outs (outOk N)) = b5 at *
  have hmf : ∀ (fn : Fn) (first cap : Array Value) (w : World), (Instr.makeFunc fn first cap).run Try.prog w = .ok (.func fn first cap) w := fun _ _ _ _ => rfl
  unfold NetS.cells at *
  go_enter Try.func5, Try.ntmps5
  go_wp2_with fail
  generalize hW : World.alloc (World.alloc w (.cells #[.slice S.a0 N.ins.length S.c0, .slice S.a1 N.nodes.length S.c1, .slice S.a2 N.regs.length S.c2, .slice S.a3 N.mems.length S.c3, .slice S.a4 N.wrs.length S.c4, .slice S.a5 N.outs.length S.c5] _)) (.cells #[.pointer (some ⟨w.heap.size, 0, none⟩)] _) = W
  have HB : Hid (Below w.heap.size w W) := by rw [← hW]; exact ((Below.refl _ _).alloc (Nat.le_refl _) _).alloc (by simp) _
  have QN : Hid (∀ j, W.cell? ⟨w.heap.size, j, none⟩ = (#[.slice S.a0 N.ins.length S.c0, .slice S.a1 N.nodes.length S.c1, .slice S.a2 N.regs.length S.c2, .slice S.a3 N.mems.length S.c3, .slice S.a4 N.wrs.length S.c4, .slice S.a5 N.outs.length S.c5] : Array Value)[j]?) := by rw [← hW]; intro j; simp
  have qc : W.cell? ⟨w.heap.size + 1, 0, none⟩ = some (.pointer (some ⟨w.heap.size, 0, none⟩)) := by rw [← hW]; simp
  have hN : w.heap.size < W.heap.size := by rw [← hW]; simp; omega
  have hC : w.heap.size + 1 < W.heap.size := by rw [← hW]; simp
  clear hW
  have SX2 := SX.out W HB.out hN QN.out qc hC
  clear SX
  have C0 : Hid (∀ w', Below W.heap.size W w' → Calls Try.prog 9 #[.int .i64 N.ins.length, (Value.func (Fn.func 10) #[] #[.pointer (some ⟨w.heap.size, 0, none⟩)])] w' fun e w'' => e = .returned (.bool b0) ∧ Below w'.heap.size w' w'') := SX2.1
  have C1 : Hid (∀ w', Below W.heap.size W w' → Calls Try.prog 9 #[.int .i64 N.mems.length, (Value.func (Fn.func 12) #[.agg #[.pointer (some ⟨w.heap.size, 0, none⟩)]] #[])] w' fun e w'' => e = .returned (.bool b1) ∧ Below w'.heap.size w' w'') := SX2.2.1
  have C2 : Hid (∀ w', Below W.heap.size W w' → Calls Try.prog 9 #[.int .i64 N.nodes.length, (Value.func (Fn.func 13) #[.agg #[.pointer (some ⟨w.heap.size, 0, none⟩)]] #[])] w' fun e w'' => e = .returned (.bool b2) ∧ Below w'.heap.size w' w'') := SX2.2.2.1
  have C3 : Hid (∀ w', Below W.heap.size W w' → Calls Try.prog 9 #[.int .i64 N.regs.length, (Value.func (Fn.func 14) #[.agg #[.pointer (some ⟨w.heap.size, 0, none⟩)]] #[])] w' fun e w'' => e = .returned (.bool b3) ∧ Below w'.heap.size w' w'') := SX2.2.2.2.1
  have C4 : Hid (∀ w', Below W.heap.size W w' → Calls Try.prog 9 #[.int .i64 N.wrs.length, (Value.func (Fn.func 15) #[.agg #[.pointer (some ⟨w.heap.size, 0, none⟩)]] #[])] w' fun e w'' => e = .returned (.bool b4) ∧ Below w'.heap.size w' w'') := SX2.2.2.2.2.1
  have C5 : Hid (∀ w', Below W.heap.size W w' → Calls Try.prog 9 #[.int .i64 N.outs.length, (Value.func (Fn.func 16) #[] #[.pointer (some ⟨w.heap.size + 1, 0, none⟩), .pointer (some ⟨w.heap.size, 0, none⟩)])] w' fun e w'' => e = .returned (.bool b5) ∧ Below w'.heap.size w' w'') := SX2.2.2.2.2.2
  clear SX2
  have q0 : W.cell? ⟨w.heap.size, 0, none⟩ = some (.slice S.a0 N.ins.length S.c0) := QN.out 0
  have q1 : W.cell? ⟨w.heap.size, 1, none⟩ = some (.slice S.a1 N.nodes.length S.c1) := QN.out 1
  have q2 : W.cell? ⟨w.heap.size, 2, none⟩ = some (.slice S.a2 N.regs.length S.c2) := QN.out 2
  have q3 : W.cell? ⟨w.heap.size, 3, none⟩ = some (.slice S.a3 N.mems.length S.c3) := QN.out 3
  have q4 : W.cell? ⟨w.heap.size, 4, none⟩ = some (.slice S.a4 N.wrs.length S.c4) := QN.out 4
  have q5 : W.cell? ⟨w.heap.size, 5, none⟩ = some (.slice S.a5 N.outs.length S.c5) := QN.out 5
  clear QN
  have HB0 : Hid (Below W.heap.size W W) := Below.refl _ _
  have hcs : b0 = false ∨ (b0 = true ∧ b1 = false) ∨ (b0 = true ∧ b1 = true ∧ b2 = false) ∨ (b0 = true ∧ b1 = true ∧ b2 = true ∧ b3 = false) ∨ (b0 = true ∧ b1 = true ∧ b2 = true ∧ b3 = true ∧ b4 = false) ∨ (b0 = true ∧ b1 = true ∧ b2 = true ∧ b3 = true ∧ b4 = true) := by
    cases b0 <;> cases b1 <;> cases b2 <;> cases b3 <;> cases b4 <;> simp
  rcases hcs with rfl | ⟨rfl, rfl⟩ | ⟨rfl, rfl, rfl⟩ | ⟨rfl, rfl, rfl, rfl⟩ | ⟨rfl, rfl, rfl, rfl, rfl⟩ | ⟨rfl, rfl, rfl, rfl, rfl⟩
  · go_wp2_with (first | (go_at_call_of 9 (Value.int IntKind.i64 (N.ins.length : Int)); refine (C0.out _ HB0.out).mono ?_; rintro e w0 ⟨rfl, hb0⟩; have HB1 := hidden (HB0.out.trans (hb0.mono HB0.out.size)); have g1_1 := (HB1.out.cell (p := ⟨w.heap.size, 3, none⟩) hN).trans q3; have g2_1 := (HB1.out.cell (p := ⟨w.heap.size, 1, none⟩) hN).trans q1; have g3_1 := (HB1.out.cell (p := ⟨w.heap.size, 2, none⟩) hN).trans q2; have g4_1 := (HB1.out.cell (p := ⟨w.heap.size, 4, none⟩) hN).trans q4; have g5_1 := (HB1.out.cell (p := ⟨w.heap.size, 5, none⟩) hN).trans q5; have gc_1 := (HB1.out.cell (p := ⟨w.heap.size + 1, 0, none⟩) hC).trans qc; clear hb0))
    go_ret
    exact ⟨rfl, HB.out.trans (HB1.out.mono HB.out.size)⟩
  · go_wp2_with (first | (go_at_call_of 9 (Value.int IntKind.i64 (N.ins.length : Int)); refine (C0.out _ HB0.out).mono ?_; rintro e w0 ⟨rfl, hb0⟩; have HB1 := hidden (HB0.out.trans (hb0.mono HB0.out.size)); have g1_1 := (HB1.out.cell (p := ⟨w.heap.size, 3, none⟩) hN).trans q3; have g2_1 := (HB1.out.cell (p := ⟨w.heap.size, 1, none⟩) hN).trans q1; have g3_1 := (HB1.out.cell (p := ⟨w.heap.size, 2, none⟩) hN).trans q2; have g4_1 := (HB1.out.cell (p := ⟨w.heap.size, 4, none⟩) hN).trans q4; have g5_1 := (HB1.out.cell (p := ⟨w.heap.size, 5, none⟩) hN).trans q5; have gc_1 := (HB1.out.cell (p := ⟨w.heap.size + 1, 0, none⟩) hC).trans qc; clear hb0) | (go_at_call_of 9 (Value.int IntKind.i64 (N.mems.length : Int)); refine (C1.out _ HB1.out).mono ?_; rintro e w1 ⟨rfl, hb1⟩; have HB2 := hidden (HB1.out.trans (hb1.mono HB1.out.size)); have g2_2 := (HB2.out.cell (p := ⟨w.heap.size, 1, none⟩) hN).trans q1; have g3_2 := (HB2.out.cell (p := ⟨w.heap.size, 2, none⟩) hN).trans q2; have g4_2 := (HB2.out.cell (p := ⟨w.heap.size, 4, none⟩) hN).trans q4; have g5_2 := (HB2.out.cell (p := ⟨w.heap.size, 5, none⟩) hN).trans q5; have gc_2 := (HB2.out.cell (p := ⟨w.heap.size + 1, 0, none⟩) hC).trans qc; clear hb1 HB1 g1_1 g2_1 g3_1 g4_1 g5_1 gc_1))
    go_ret
    exact ⟨rfl, HB.out.trans (HB2.out.mono HB.out.size)⟩
  · go_wp2_with (first | (go_at_call_of 9 (Value.int IntKind.i64 (N.ins.length : Int)); refine (C0.out _ HB0.out).mono ?_; rintro e w0 ⟨rfl, hb0⟩; have HB1 := hidden (HB0.out.trans (hb0.mono HB0.out.size)); have g1_1 := (HB1.out.cell (p := ⟨w.heap.size, 3, none⟩) hN).trans q3; have g2_1 := (HB1.out.cell (p := ⟨w.heap.size, 1, none⟩) hN).trans q1; have g3_1 := (HB1.out.cell (p := ⟨w.heap.size, 2, none⟩) hN).trans q2; have g4_1 := (HB1.out.cell (p := ⟨w.heap.size, 4, none⟩) hN).trans q4; have g5_1 := (HB1.out.cell (p := ⟨w.heap.size, 5, none⟩) hN).trans q5; have gc_1 := (HB1.out.cell (p := ⟨w.heap.size + 1, 0, none⟩) hC).trans qc; clear hb0) | (go_at_call_of 9 (Value.int IntKind.i64 (N.mems.length : Int)); refine (C1.out _ HB1.out).mono ?_; rintro e w1 ⟨rfl, hb1⟩; have HB2 := hidden (HB1.out.trans (hb1.mono HB1.out.size)); have g2_2 := (HB2.out.cell (p := ⟨w.heap.size, 1, none⟩) hN).trans q1; have g3_2 := (HB2.out.cell (p := ⟨w.heap.size, 2, none⟩) hN).trans q2; have g4_2 := (HB2.out.cell (p := ⟨w.heap.size, 4, none⟩) hN).trans q4; have g5_2 := (HB2.out.cell (p := ⟨w.heap.size, 5, none⟩) hN).trans q5; have gc_2 := (HB2.out.cell (p := ⟨w.heap.size + 1, 0, none⟩) hC).trans qc; clear hb1 HB1 g1_1 g2_1 g3_1 g4_1 g5_1 gc_1) | (go_at_call_of 9 (Value.int IntKind.i64 (N.nodes.length : Int)); refine (C2.out _ HB2.out).mono ?_; rintro e w2 ⟨rfl, hb2⟩; have HB3 := hidden (HB2.out.trans (hb2.mono HB2.out.size)); have g3_3 := (HB3.out.cell (p := ⟨w.heap.size, 2, none⟩) hN).trans q2; have g4_3 := (HB3.out.cell (p := ⟨w.heap.size, 4, none⟩) hN).trans q4; have g5_3 := (HB3.out.cell (p := ⟨w.heap.size, 5, none⟩) hN).trans q5; have gc_3 := (HB3.out.cell (p := ⟨w.heap.size + 1, 0, none⟩) hC).trans qc; clear hb2 HB2 g2_2 g3_2 g4_2 g5_2 gc_2))
    go_ret
    exact ⟨rfl, HB.out.trans (HB3.out.mono HB.out.size)⟩
  · go_wp2_with (first | (go_at_call_of 9 (Value.int IntKind.i64 (N.ins.length : Int)); refine (C0.out _ HB0.out).mono ?_; rintro e w0 ⟨rfl, hb0⟩; have HB1 := hidden (HB0.out.trans (hb0.mono HB0.out.size)); have g1_1 := (HB1.out.cell (p := ⟨w.heap.size, 3, none⟩) hN).trans q3; have g2_1 := (HB1.out.cell (p := ⟨w.heap.size, 1, none⟩) hN).trans q1; have g3_1 := (HB1.out.cell (p := ⟨w.heap.size, 2, none⟩) hN).trans q2; have g4_1 := (HB1.out.cell (p := ⟨w.heap.size, 4, none⟩) hN).trans q4; have g5_1 := (HB1.out.cell (p := ⟨w.heap.size, 5, none⟩) hN).trans q5; have gc_1 := (HB1.out.cell (p := ⟨w.heap.size + 1, 0, none⟩) hC).trans qc; clear hb0) | (go_at_call_of 9 (Value.int IntKind.i64 (N.mems.length : Int)); refine (C1.out _ HB1.out).mono ?_; rintro e w1 ⟨rfl, hb1⟩; have HB2 := hidden (HB1.out.trans (hb1.mono HB1.out.size)); have g2_2 := (HB2.out.cell (p := ⟨w.heap.size, 1, none⟩) hN).trans q1; have g3_2 := (HB2.out.cell (p := ⟨w.heap.size, 2, none⟩) hN).trans q2; have g4_2 := (HB2.out.cell (p := ⟨w.heap.size, 4, none⟩) hN).trans q4; have g5_2 := (HB2.out.cell (p := ⟨w.heap.size, 5, none⟩) hN).trans q5; have gc_2 := (HB2.out.cell (p := ⟨w.heap.size + 1, 0, none⟩) hC).trans qc; clear hb1 HB1 g1_1 g2_1 g3_1 g4_1 g5_1 gc_1) | (go_at_call_of 9 (Value.int IntKind.i64 (N.nodes.length : Int)); refine (C2.out _ HB2.out).mono ?_; rintro e w2 ⟨rfl, hb2⟩; have HB3 := hidden (HB2.out.trans (hb2.mono HB2.out.size)); have g3_3 := (HB3.out.cell (p := ⟨w.heap.size, 2, none⟩) hN).trans q2; have g4_3 := (HB3.out.cell (p := ⟨w.heap.size, 4, none⟩) hN).trans q4; have g5_3 := (HB3.out.cell (p := ⟨w.heap.size, 5, none⟩) hN).trans q5; have gc_3 := (HB3.out.cell (p := ⟨w.heap.size + 1, 0, none⟩) hC).trans qc; clear hb2 HB2 g2_2 g3_2 g4_2 g5_2 gc_2) | (go_at_call_of 9 (Value.int IntKind.i64 (N.regs.length : Int)); refine (C3.out _ HB3.out).mono ?_; rintro e w3 ⟨rfl, hb3⟩; have HB4 := hidden (HB3.out.trans (hb3.mono HB3.out.size)); have g4_4 := (HB4.out.cell (p := ⟨w.heap.size, 4, none⟩) hN).trans q4; have g5_4 := (HB4.out.cell (p := ⟨w.heap.size, 5, none⟩) hN).trans q5; have gc_4 := (HB4.out.cell (p := ⟨w.heap.size + 1, 0, none⟩) hC).trans qc; clear hb3 HB3 g3_3 g4_3 g5_3 gc_3))
    go_ret
    exact ⟨rfl, HB.out.trans (HB4.out.mono HB.out.size)⟩
  · go_wp2_with (first | (go_at_call_of 9 (Value.int IntKind.i64 (N.ins.length : Int)); refine (C0.out _ HB0.out).mono ?_; rintro e w0 ⟨rfl, hb0⟩; have HB1 := hidden (HB0.out.trans (hb0.mono HB0.out.size)); have g1_1 := (HB1.out.cell (p := ⟨w.heap.size, 3, none⟩) hN).trans q3; have g2_1 := (HB1.out.cell (p := ⟨w.heap.size, 1, none⟩) hN).trans q1; have g3_1 := (HB1.out.cell (p := ⟨w.heap.size, 2, none⟩) hN).trans q2; have g4_1 := (HB1.out.cell (p := ⟨w.heap.size, 4, none⟩) hN).trans q4; have g5_1 := (HB1.out.cell (p := ⟨w.heap.size, 5, none⟩) hN).trans q5; have gc_1 := (HB1.out.cell (p := ⟨w.heap.size + 1, 0, none⟩) hC).trans qc; clear hb0) | (go_at_call_of 9 (Value.int IntKind.i64 (N.mems.length : Int)); refine (C1.out _ HB1.out).mono ?_; rintro e w1 ⟨rfl, hb1⟩; have HB2 := hidden (HB1.out.trans (hb1.mono HB1.out.size)); have g2_2 := (HB2.out.cell (p := ⟨w.heap.size, 1, none⟩) hN).trans q1; have g3_2 := (HB2.out.cell (p := ⟨w.heap.size, 2, none⟩) hN).trans q2; have g4_2 := (HB2.out.cell (p := ⟨w.heap.size, 4, none⟩) hN).trans q4; have g5_2 := (HB2.out.cell (p := ⟨w.heap.size, 5, none⟩) hN).trans q5; have gc_2 := (HB2.out.cell (p := ⟨w.heap.size + 1, 0, none⟩) hC).trans qc; clear hb1 HB1 g1_1 g2_1 g3_1 g4_1 g5_1 gc_1) | (go_at_call_of 9 (Value.int IntKind.i64 (N.nodes.length : Int)); refine (C2.out _ HB2.out).mono ?_; rintro e w2 ⟨rfl, hb2⟩; have HB3 := hidden (HB2.out.trans (hb2.mono HB2.out.size)); have g3_3 := (HB3.out.cell (p := ⟨w.heap.size, 2, none⟩) hN).trans q2; have g4_3 := (HB3.out.cell (p := ⟨w.heap.size, 4, none⟩) hN).trans q4; have g5_3 := (HB3.out.cell (p := ⟨w.heap.size, 5, none⟩) hN).trans q5; have gc_3 := (HB3.out.cell (p := ⟨w.heap.size + 1, 0, none⟩) hC).trans qc; clear hb2 HB2 g2_2 g3_2 g4_2 g5_2 gc_2) | (go_at_call_of 9 (Value.int IntKind.i64 (N.regs.length : Int)); refine (C3.out _ HB3.out).mono ?_; rintro e w3 ⟨rfl, hb3⟩; have HB4 := hidden (HB3.out.trans (hb3.mono HB3.out.size)); have g4_4 := (HB4.out.cell (p := ⟨w.heap.size, 4, none⟩) hN).trans q4; have g5_4 := (HB4.out.cell (p := ⟨w.heap.size, 5, none⟩) hN).trans q5; have gc_4 := (HB4.out.cell (p := ⟨w.heap.size + 1, 0, none⟩) hC).trans qc; clear hb3 HB3 g3_3 g4_3 g5_3 gc_3) | (go_at_call_of 9 (Value.int IntKind.i64 (N.wrs.length : Int)); refine (C4.out _ HB4.out).mono ?_; rintro e w4 ⟨rfl, hb4⟩; have HB5 := hidden (HB4.out.trans (hb4.mono HB4.out.size)); have g5_5 := (HB5.out.cell (p := ⟨w.heap.size, 5, none⟩) hN).trans q5; have gc_5 := (HB5.out.cell (p := ⟨w.heap.size + 1, 0, none⟩) hC).trans qc; clear hb4 HB4 g4_4 g5_4 gc_4))
    go_ret
    exact ⟨rfl, HB.out.trans (HB5.out.mono HB.out.size)⟩
  · go_wp2_with (first | (go_at_call_of 9 (Value.int IntKind.i64 (N.ins.length : Int)); refine (C0.out _ HB0.out).mono ?_; rintro e w0 ⟨rfl, hb0⟩; have HB1 := hidden (HB0.out.trans (hb0.mono HB0.out.size)); have g1_1 := (HB1.out.cell (p := ⟨w.heap.size, 3, none⟩) hN).trans q3; have g2_1 := (HB1.out.cell (p := ⟨w.heap.size, 1, none⟩) hN).trans q1; have g3_1 := (HB1.out.cell (p := ⟨w.heap.size, 2, none⟩) hN).trans q2; have g4_1 := (HB1.out.cell (p := ⟨w.heap.size, 4, none⟩) hN).trans q4; have g5_1 := (HB1.out.cell (p := ⟨w.heap.size, 5, none⟩) hN).trans q5; have gc_1 := (HB1.out.cell (p := ⟨w.heap.size + 1, 0, none⟩) hC).trans qc; clear hb0) | (go_at_call_of 9 (Value.int IntKind.i64 (N.mems.length : Int)); refine (C1.out _ HB1.out).mono ?_; rintro e w1 ⟨rfl, hb1⟩; have HB2 := hidden (HB1.out.trans (hb1.mono HB1.out.size)); have g2_2 := (HB2.out.cell (p := ⟨w.heap.size, 1, none⟩) hN).trans q1; have g3_2 := (HB2.out.cell (p := ⟨w.heap.size, 2, none⟩) hN).trans q2; have g4_2 := (HB2.out.cell (p := ⟨w.heap.size, 4, none⟩) hN).trans q4; have g5_2 := (HB2.out.cell (p := ⟨w.heap.size, 5, none⟩) hN).trans q5; have gc_2 := (HB2.out.cell (p := ⟨w.heap.size + 1, 0, none⟩) hC).trans qc; clear hb1 HB1 g1_1 g2_1 g3_1 g4_1 g5_1 gc_1) | (go_at_call_of 9 (Value.int IntKind.i64 (N.nodes.length : Int)); refine (C2.out _ HB2.out).mono ?_; rintro e w2 ⟨rfl, hb2⟩; have HB3 := hidden (HB2.out.trans (hb2.mono HB2.out.size)); have g3_3 := (HB3.out.cell (p := ⟨w.heap.size, 2, none⟩) hN).trans q2; have g4_3 := (HB3.out.cell (p := ⟨w.heap.size, 4, none⟩) hN).trans q4; have g5_3 := (HB3.out.cell (p := ⟨w.heap.size, 5, none⟩) hN).trans q5; have gc_3 := (HB3.out.cell (p := ⟨w.heap.size + 1, 0, none⟩) hC).trans qc; clear hb2 HB2 g2_2 g3_2 g4_2 g5_2 gc_2) | (go_at_call_of 9 (Value.int IntKind.i64 (N.regs.length : Int)); refine (C3.out _ HB3.out).mono ?_; rintro e w3 ⟨rfl, hb3⟩; have HB4 := hidden (HB3.out.trans (hb3.mono HB3.out.size)); have g4_4 := (HB4.out.cell (p := ⟨w.heap.size, 4, none⟩) hN).trans q4; have g5_4 := (HB4.out.cell (p := ⟨w.heap.size, 5, none⟩) hN).trans q5; have gc_4 := (HB4.out.cell (p := ⟨w.heap.size + 1, 0, none⟩) hC).trans qc; clear hb3 HB3 g3_3 g4_3 g5_3 gc_3) | (go_at_call_of 9 (Value.int IntKind.i64 (N.wrs.length : Int)); refine (C4.out _ HB4.out).mono ?_; rintro e w4 ⟨rfl, hb4⟩; have HB5 := hidden (HB4.out.trans (hb4.mono HB4.out.size)); have g5_5 := (HB5.out.cell (p := ⟨w.heap.size, 5, none⟩) hN).trans q5; have gc_5 := (HB5.out.cell (p := ⟨w.heap.size + 1, 0, none⟩) hC).trans qc; clear hb4 HB4 g4_4 g5_4 gc_4) | (go_at_call_of 9 (Value.int IntKind.i64 (N.outs.length : Int)); refine (C5.out _ HB5.out).mono ?_; rintro e w5 ⟨rfl, hb5⟩; have HB6 := hidden (HB5.out.trans (hb5.mono HB5.out.size)); have gc_6 := (HB6.out.cell (p := ⟨w.heap.size + 1, 0, none⟩) hC).trans qc; clear hb5 HB5 g5_5 gc_5))
    go_ret
    exact ⟨rfl, HB.out.trans (HB6.out.mono HB.out.size)⟩

end Go.Proofs.Ytlkhmcajedjojaa
