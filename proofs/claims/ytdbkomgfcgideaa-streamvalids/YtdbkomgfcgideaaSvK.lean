import Derived.Test.YtdbkomgfcgideaaSvJ
namespace Go.Proofs.Ytdbkomgfcgideaa
open Go.RowKit Go.Shelf
attribute [local go_sem] Oper.semAt_some wide_fn wide_depth

theorem idx5 (w : World) (x0 x1 x2 x3 x4 x : Int) (i : Int) (k : Nat) (hi : i = (k : Int)) (h : [x0, x1, x2, x3, x4][k]? = some x) :
    (Instr.index 47 (.agg #[.int .i64 x0, .int .i64 x1, .int .i64 x2, .int .i64 x3, .int .i64 x4]) (.int .i64 i)).run Try.prog w = .ok (.int .i64 x) w := by
  subst hi
  have hk : k < 5 := by simpa using (List.getElem?_eq_some_iff.1 h).1
  rcases (show k = 0 ∨ k = 1 ∨ k = 2 ∨ k = 3 ∨ k = 4 by omega) with rfl | rfl | rfl | rfl | rfl <;>
  · simp only [List.getElem?_cons_zero, List.getElem?_cons_succ, Option.some.injEq] at h
    subst h
    simp [Instr.index, run_underlying Try.underlying47, asIntOf, go_sem]
/-- the numbers of the shape -/
def shL (N : CnD) : List (Int × Int) := [(N.sh.ins, 65536), (N.sh.outs, 65536), (N.sh.regs, 65536), (N.sh.rows, 65536), (N.sh.cols, 65536)]
theorem okPs_at {L : List (Int × Int)} {k : Nat} {x : Int × Int} (h : L[k]? = some x) : okPs (L.take (k + 1)) = (okPs (L.take k) && okP x.1 x.2) := by
  unfold okPs; exact all_next _ L k x h
theorem okPs_bad {L : List (Int × Int)} {k : Nat} {x : Int × Int} (h : L[k]? = some x) (hx : okP x.1 x.2 = false) : okPs L = false := by
  unfold okPs; rw [List.all_eq_false]; exact ⟨x, List.mem_of_getElem? h, by simp [hx]⟩

set_option maxRecDepth 100000 in
set_option maxHeartbeats 16000000 in
theorem shapeFields_it (B : Nat) (w0 : World) (S : CnS) (N : CnD) (bx pc : Nat) (hbx : bx < w0.heap.size) (_hB : B ≤ w0.heap.size) (h : CnAt B w0 S N) (_hf : N.sh.fits) (hp : BoxAt w0 pc S N)
    (hc : w0.cell? ⟨bx, 0, none⟩ = some (.pointer (some ⟨pc, 0, none⟩))) : ItC Try.prog 18 #[.pointer (some ⟨bx, 0, none⟩)] (shL N) w0 := by
  intro V0 l st V m hb0 hy hb1
  have HY := hidden hy
  have HN0 := hidden hb0
  have HB1 := hidden hb1

  have HH := hidden h
  have HP := hidden hp
  have HC := hidden hc
  clear h hp hc hy hb0 hb1
  refine callsIn_of_wp Try.func18 rfl trivial ?_ rfl
  simp only [Try.ntmps18, List.size_toArray, List.length_cons, List.length_nil, Nat.reduceAdd, Nat.reduceSub, Array.replicate_succ, Array.replicate_zero, List.push_toArray, List.append_toArray, List.nil_append, List.cons_append]
  have up : Hid (∀ {W}, Below V0.heap.size V0 W → Below w0.heap.size w0 W) := fun {W} hW => HN0.out.trans (hW.mono HN0.out.size)
  have q0 : V.cell? ⟨bx, 0, none⟩ = some (.pointer (some ⟨pc, 0, none⟩)) := ((up.out HB1.out).cell (p := ⟨bx, 0, none⟩) hbx).trans HC.out
  have y0 := (HP.out.to HP.out.lt (up.out HB1.out)).c0
  have y1 := (HP.out.to HP.out.lt (up.out HB1.out)).c1
  have y2 := (HP.out.to HP.out.lt (up.out HB1.out)).c2
  have y3 := (HP.out.to HP.out.lt (up.out HB1.out)).c3
  have y4 := (HP.out.to HP.out.lt (up.out HB1.out)).c4
  gi_wp2
  generalize hW : World.alloc V _ = W
  have HBw : Hid (Below V0.heap.size V0 W) := by rw [← hW]; exact HB1.out.alloc HB1.out.size _
  clear hW q0 y0 y1 y2 y3 y4
  gi_loopw [21] (fun i' w' => ∃ (k : Nat), k ≤ 5 ∧ i' = .int .i64 k ∧ Hid (okPs ((shL N).take k) = true) ∧ Hid (w' = W)) (fun i' _ => 5 - (intOf i').toNat)
  case atStart => exact ⟨0, Nat.zero_le _, rfl, rfl, rfl⟩
  case round =>
    obtain ⟨k, hk, rfl, HA, HW⟩ := hrel
    have HBr : Below V0.heap.size V0 wr := by rw [HW.out]; exact HBw.out
    rcases (show k = 0 ∨ k = 1 ∨ k = 2 ∨ k = 3 ∨ k = 4 ∨ k = 5 by omega) with rfl | rfl | rfl | rfl | rfl | rfl
    · have hix := idx5 wr N.sh.ins N.sh.outs N.sh.regs N.sh.rows N.sh.cols N.sh.ins 0 0 rfl rfl
      cases ho : okP N.sh.ins 65536
      · have HF := hidden (show okPs (shL N) = false from okPs_bad (k := 0) rfl ho)
        obtain ⟨fn, tmps, assign, body, hy, hR⟩ := HY.out.no wr N.sh.ins 65536 (m - 1) HBr ho
        gi_wp2
        refine hR.mono ?_
        clear hR hy
        rintro e W1 ⟨rfl, h1⟩
        have HW1 := hidden h1
        clear h1
        gi_wp2
        refine bodyPost_ret (results_none rfl _ _ _) rfl ?_
        exact ⟨⟨_, rfl⟩, wr, HBr, .inr ⟨HF.out, by rw [HW1.out]; exact Below.refl _ _⟩⟩
      · have HN1 := hidden (show okPs ((shL N).take 1) = true by rw [okPs_at (L := shL N) (k := 0) rfl, HA.out]; exact ho)
        obtain ⟨fn, tmps, assign, body, hy, hR⟩ := HY.out.go wr N.sh.ins 65536 (m - 1) HBr ho
        gi_wp2
        refine hR.mono ?_
        clear hR hy
        rintro e W1 ⟨rfl, rfl⟩
        gi_wp2
        go_roundw
        case measure => simp [intOf]
        case rel => exact ⟨1, by omega, by simp, HN1.out, HW.out⟩
    · have hix := idx5 wr N.sh.ins N.sh.outs N.sh.regs N.sh.rows N.sh.cols N.sh.outs 1 1 rfl rfl
      cases ho : okP N.sh.outs 65536
      · have HF := hidden (show okPs (shL N) = false from okPs_bad (k := 1) rfl ho)
        obtain ⟨fn, tmps, assign, body, hy, hR⟩ := HY.out.no wr N.sh.outs 65536 (m - 1) HBr ho
        gi_wp2
        refine hR.mono ?_
        clear hR hy
        rintro e W1 ⟨rfl, h1⟩
        have HW1 := hidden h1
        clear h1
        gi_wp2
        refine bodyPost_ret (results_none rfl _ _ _) rfl ?_
        exact ⟨⟨_, rfl⟩, wr, HBr, .inr ⟨HF.out, by rw [HW1.out]; exact Below.refl _ _⟩⟩
      · have HN1 := hidden (show okPs ((shL N).take 2) = true by rw [okPs_at (L := shL N) (k := 1) rfl, HA.out]; exact ho)
        obtain ⟨fn, tmps, assign, body, hy, hR⟩ := HY.out.go wr N.sh.outs 65536 (m - 1) HBr ho
        gi_wp2
        refine hR.mono ?_
        clear hR hy
        rintro e W1 ⟨rfl, rfl⟩
        gi_wp2
        go_roundw
        case measure => simp [intOf]
        case rel => exact ⟨2, by omega, by simp, HN1.out, HW.out⟩
    · have hix := idx5 wr N.sh.ins N.sh.outs N.sh.regs N.sh.rows N.sh.cols N.sh.regs 2 2 rfl rfl
      cases ho : okP N.sh.regs 65536
      · have HF := hidden (show okPs (shL N) = false from okPs_bad (k := 2) rfl ho)
        obtain ⟨fn, tmps, assign, body, hy, hR⟩ := HY.out.no wr N.sh.regs 65536 (m - 1) HBr ho
        gi_wp2
        refine hR.mono ?_
        clear hR hy
        rintro e W1 ⟨rfl, h1⟩
        have HW1 := hidden h1
        clear h1
        gi_wp2
        refine bodyPost_ret (results_none rfl _ _ _) rfl ?_
        exact ⟨⟨_, rfl⟩, wr, HBr, .inr ⟨HF.out, by rw [HW1.out]; exact Below.refl _ _⟩⟩
      · have HN1 := hidden (show okPs ((shL N).take 3) = true by rw [okPs_at (L := shL N) (k := 2) rfl, HA.out]; exact ho)
        obtain ⟨fn, tmps, assign, body, hy, hR⟩ := HY.out.go wr N.sh.regs 65536 (m - 1) HBr ho
        gi_wp2
        refine hR.mono ?_
        clear hR hy
        rintro e W1 ⟨rfl, rfl⟩
        gi_wp2
        go_roundw
        case measure => simp [intOf]
        case rel => exact ⟨3, by omega, by simp, HN1.out, HW.out⟩
    · have hix := idx5 wr N.sh.ins N.sh.outs N.sh.regs N.sh.rows N.sh.cols N.sh.rows 3 3 rfl rfl
      cases ho : okP N.sh.rows 65536
      · have HF := hidden (show okPs (shL N) = false from okPs_bad (k := 3) rfl ho)
        obtain ⟨fn, tmps, assign, body, hy, hR⟩ := HY.out.no wr N.sh.rows 65536 (m - 1) HBr ho
        gi_wp2
        refine hR.mono ?_
        clear hR hy
        rintro e W1 ⟨rfl, h1⟩
        have HW1 := hidden h1
        clear h1
        gi_wp2
        refine bodyPost_ret (results_none rfl _ _ _) rfl ?_
        exact ⟨⟨_, rfl⟩, wr, HBr, .inr ⟨HF.out, by rw [HW1.out]; exact Below.refl _ _⟩⟩
      · have HN1 := hidden (show okPs ((shL N).take 4) = true by rw [okPs_at (L := shL N) (k := 3) rfl, HA.out]; exact ho)
        obtain ⟨fn, tmps, assign, body, hy, hR⟩ := HY.out.go wr N.sh.rows 65536 (m - 1) HBr ho
        gi_wp2
        refine hR.mono ?_
        clear hR hy
        rintro e W1 ⟨rfl, rfl⟩
        gi_wp2
        go_roundw
        case measure => simp [intOf]
        case rel => exact ⟨4, by omega, by simp, HN1.out, HW.out⟩
    · have hix := idx5 wr N.sh.ins N.sh.outs N.sh.regs N.sh.rows N.sh.cols N.sh.cols 4 4 rfl rfl
      cases ho : okP N.sh.cols 65536
      · have HF := hidden (show okPs (shL N) = false from okPs_bad (k := 4) rfl ho)
        obtain ⟨fn, tmps, assign, body, hy, hR⟩ := HY.out.no wr N.sh.cols 65536 (m - 1) HBr ho
        gi_wp2
        refine hR.mono ?_
        clear hR hy
        rintro e W1 ⟨rfl, h1⟩
        have HW1 := hidden h1
        clear h1
        gi_wp2
        refine bodyPost_ret (results_none rfl _ _ _) rfl ?_
        exact ⟨⟨_, rfl⟩, wr, HBr, .inr ⟨HF.out, by rw [HW1.out]; exact Below.refl _ _⟩⟩
      · have HN1 := hidden (show okPs ((shL N).take 5) = true by rw [okPs_at (L := shL N) (k := 4) rfl, HA.out]; exact ho)
        obtain ⟨fn, tmps, assign, body, hy, hR⟩ := HY.out.go wr N.sh.cols 65536 (m - 1) HBr ho
        gi_wp2
        refine hR.mono ?_
        clear hR hy
        rintro e W1 ⟨rfl, rfl⟩
        gi_wp2
        go_roundw
        case measure => simp [intOf]
        case rel => exact ⟨5, by omega, by simp, HN1.out, HW.out⟩
    · have HT : Hid (okPs (shL N) = true) := HA.out
      gi_wp2
      go_end0
      exact ⟨⟨_, rfl⟩, wr, HBr, .inl ⟨HT.out, rfl⟩⟩

end Go.Proofs.Ytdbkomgfcgideaa
