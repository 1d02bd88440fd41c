import Derived.Test.YtdbkomgfcgideaaSvK
namespace Go.Proofs.Ytdbkomgfcgideaa
open Go.RowKit Go.Shelf
attribute [local go_sem] Oper.semAt_some wide_fn wide_depth

theorem idx4 (w : World) (x0 x1 x2 x3 x : Int) (i : Int) (k : Nat) (hi : i = (k : Int)) (h : [x0, x1, x2, x3][k]? = some x) :
    (Instr.index 37 (.agg #[.int .i64 x0, .int .i64 x1, .int .i64 x2, .int .i64 x3]) (.int .i64 i)).run Try.prog w = .ok (.int .i64 x) w := by
  subst hi
  have hk : k < 4 := by simpa using (List.getElem?_eq_some_iff.1 h).1
  rcases (show k = 0 ∨ k = 1 ∨ k = 2 ∨ k = 3 by omega) with rfl | rfl | rfl | rfl <;>
  · simp only [List.getElem?_cons_zero, List.getElem?_cons_succ, Option.some.injEq] at h
    subst h
    simp [Instr.index, run_underlying Try.underlying37, asIntOf, go_sem]
/-- the numbers of a cell -/
def celP (n : Int) (d : CeD) : List (Int × Int) := [(d.bits, 65536), (d.s0, n), (d.s1, n), (d.s2, n), (d.s3, n)]
def colP (N : CnD) (k : Nat) : List (Int × Int) := match N.cols[k]? with | some d => d.cs.flatMap (celP (N.sh.src k)) | none => []
theorem colP_of {N : CnD} {k : Nat} {d : ClD} (h : N.cols[k]? = some d) : colP N k = d.cs.flatMap (celP (N.sh.src k)) := by unfold colP; rw [h]
def celL (N : CnD) : List (Int × Int) := (List.range N.cols.length).flatMap (colP N)
theorem okPs_rtake (f : Nat → List (Int × Int)) (k : Nat) : okPs ((List.range (k + 1)).flatMap f) = (okPs ((List.range k).flatMap f) && okPs (f k)) := by
  rw [List.range_succ, List.flatMap_append, okPs_app]; simp

set_option maxRecDepth 100000 in
set_option maxHeartbeats 16000000 in
theorem cellFields_it (B : Nat) (w0 : World) (S : CnS) (N : CnD) (bx pc : Nat) (hbx : bx < w0.heap.size) (hB : B ≤ w0.heap.size) (h : CnAt B w0 S N) (hf : N.sh.fits) (hp : BoxAt w0 pc S N)
    (hc : w0.cell? ⟨bx, 0, none⟩ = some (.pointer (some ⟨pc, 0, none⟩))) : ItC Try.prog 19 #[.pointer (some ⟨bx, 0, none⟩)] (celL N) w0 := by
  intro V0 l st V m hb0 hy hb1
  have HY := hidden hy
  have HN0 := hidden hb0
  have HB1 := hidden hb1
  have EC : Hid (∀ w i, Calls Try.prog 20 #[.agg N.sh.arr, .int .i64 i] w fun e w' => e = .returned (.int .i64 (N.sh.src i)) ∧ Below w.heap.size w w') := fun w i => cellChoices_any w N.sh i hf
  have hln := h.lc
  simp only [big] at hln
  have HH := hidden h
  have HP := hidden hp
  have HC := hidden hc
  clear h hp hc hy hb0 hb1
  refine callsIn_of_wp Try.func19 rfl trivial ?_ rfl
  simp only [Try.ntmps19, List.size_toArray, List.length_cons, List.length_nil, Nat.reduceAdd, Nat.reduceSub, Array.replicate_succ, Array.replicate_zero, List.push_toArray, List.append_toArray, List.nil_append, List.cons_append]
  have up : Hid (∀ {W}, Below V0.heap.size V0 W → Below w0.heap.size w0 W) := fun {W} hW => HN0.out.trans (hW.mono HN0.out.size)
  have q0 : V.cell? ⟨bx, 0, none⟩ = some (.pointer (some ⟨pc, 0, none⟩)) := ((up.out HB1.out).cell (p := ⟨bx, 0, none⟩) hbx).trans HC.out
  have q1 := (HP.out.to HP.out.lt (up.out HB1.out)).c5
  gi_wp2
  gi_loopw [15] (fun i' w' => ∃ (k : Nat), k ≤ N.cols.length ∧ i' = .int .i64 k ∧ Hid (okPs ((List.range k).flatMap (colP N)) = true) ∧ Hid (Below V0.heap.size V0 w')) (fun i' _ => N.cols.length - (intOf i').toNat)
  case atStart => exact ⟨0, Nat.zero_le _, rfl, rfl, HB1.out⟩
  case round =>
    clear q0 q1
    obtain ⟨k, hk, rfl, HA, HBW⟩ := hrel
    have q0 : wr.cell? ⟨bx, 0, none⟩ = some (.pointer (some ⟨pc, 0, none⟩)) := ((up.out HBW.out).cell (p := ⟨bx, 0, none⟩) hbx).trans HC.out
    by_cases hlt : k < N.cols.length
    · have hltI : (k : Int) < (N.cols.length : Int) := by omega
      obtain ⟨d, hd⟩ := getElem_lt hlt
      obtain ⟨b, o, ea, hlb, hc⟩ := HH.out.c.el hd
      have HRI := hidden (HH.out.cc d (List.mem_of_getElem? hd))
      have hml := HH.out.lcc d (List.mem_of_getElem? hd)
      have HCP := hidden (colP_of hd)
      obtain ⟨da, dc, cs⟩ := d
      have hbx' := (HP.out.to HP.out.lt (up.out HBW.out))
      have y0 := hbx'.c0
      have y1 := hbx'.c1
      have y2 := hbx'.c2
      have y3 := hbx'.c3
      have y4 := hbx'.c4
      have c0 : wr.cell? ⟨b, o + k, none⟩ = some (.slice da cs.length dc) := ((up.out HBW.out).cell (p := ⟨b, o + k, none⟩) (Nat.lt_of_lt_of_le hlb hB)).trans ((congrArg (fun m => w0.cell? ⟨b, o + m, none⟩) (Nat.mul_one k).symm).trans (hc 0 _ rfl))
      have e2 : IntKind.i64.wrap ((k : Int) + 1) = (k : Int) + 1 := wrapI _ (by omega) (by omega)
      dsimp only at HRI hml HCP
      simp only [big] at hml
      obtain ⟨M, HM⟩ : ∃ m, Hid (m = cs.length) := ⟨_, rfl⟩
      rw [← HM.out] at c0 hml
      rw [ea]
      clear hd hc hlb ea hbx'
      obtain ⟨n, HN⟩ : ∃ n, Hid (N.sh.src k = n) := ⟨_, rfl⟩
      rw [HN.out] at HCP
      have EK : Hid (∀ w, Calls Try.prog 20 #[.agg N.sh.arr, .int .i64 k] w fun e w' => e = .returned (.int .i64 n) ∧ Below w.heap.size w w') := fun w => by rw [← HN.out]; exact EC.out w k
      have HFC : Hid (∀ d, d ∈ cs → okPs (celP n d) = false → okPs (celL N) = false) := fun d hd hx => okPs_fno (colP N) _ k (List.mem_range.2 hlt) (by rw [HCP.out]; exact okPs_fno _ _ d hd hx)
      gi_wp2_with (gi_at_call 20; refine (callsIn_wide.2 (EK.out _)).mono ?_; rintro e v ⟨rfl, hbv⟩)
      have HBv : Hid (Below V0.heap.size V0 v) := HBW.out.trans (hbv.mono HBW.out.size)
      clear hbv y0 y1 y2 y3 y4 c0 q0
      gi_loopw [28] (fun j' w' => ∃ (j : Nat), j ≤ M ∧ j' = .int .i64 j ∧ Hid (okPs ((cs.take j).flatMap (celP n)) = true) ∧ Hid (Below V0.heap.size V0 w')) (fun j' _ => M - (intOf j').toNat)
      case atStart => exact ⟨0, Nat.zero_le _, rfl, rfl, HBv.out⟩
      case round =>
        obtain ⟨j, hj, rfl, HJ, HBr⟩ := hrel
        by_cases hjl : j < M
        · have hjI : (j : Int) < (M : Int) := by omega
          obtain ⟨d, hd⟩ := getElem_lt (show j < cs.length by rw [← HM.out]; exact hjl)
          obtain ⟨b', o', ea', hlb', hcx⟩ := HRI.out.el hd
          have HDJ := hidden hd
          have ej : IntKind.i64.wrap ((j : Int) + 1) = (j : Int) + 1 := wrapI _ (by omega) (by omega)
          have HXF := hidden (HFC.out d (List.mem_of_getElem? hd))
          obtain ⟨s0, s1, s2, s3, bits⟩ := d
          have hl' := Nat.lt_of_lt_of_le hlb' hB
          have y0 : wr.cell? ⟨b', o' + j * 5, none⟩ = some (.int .i64 s0) := ((up.out HBr.out).cell (p := ⟨b', o' + j * 5, none⟩) hl').trans (hcx 0 _ rfl)
          have y1 : wr.cell? ⟨b', o' + j * 5 + 1, none⟩ = some (.int .i64 s1) := ((up.out HBr.out).cell (p := ⟨b', o' + j * 5 + 1, none⟩) hl').trans (hcx 1 _ rfl)
          have y2 : wr.cell? ⟨b', o' + j * 5 + 2, none⟩ = some (.int .i64 s2) := ((up.out HBr.out).cell (p := ⟨b', o' + j * 5 + 2, none⟩) hl').trans (hcx 2 _ rfl)
          have y3 : wr.cell? ⟨b', o' + j * 5 + 3, none⟩ = some (.int .i64 s3) := ((up.out HBr.out).cell (p := ⟨b', o' + j * 5 + 3, none⟩) hl').trans (hcx 3 _ rfl)
          have y4 : wr.cell? ⟨b', o' + j * 5 + 4, none⟩ = some (.int .i64 bits) := ((up.out HBr.out).cell (p := ⟨b', o' + j * 5 + 4, none⟩) hl').trans (hcx 4 _ rfl)
          rw [ea']
          clear hd hcx hlb' ea' hl'
          obtain ⟨W5, hW5⟩ : ∃ W5, wr.alloc (.cells #[.int .i64 s0, .int .i64 s1, .int .i64 s2, .int .i64 s3, .int .i64 bits] 39) = W5 := ⟨_, rfl⟩
          have HW5 := hidden hW5
          clear hW5
          have HB5 : Hid (Below V0.heap.size V0 W5) := by rw [← HW5.out]; exact HBr.out.alloc HBr.out.size _
          cases ho : okP bits 65536
          · have HF := hidden (HXF.out (okPs_bad (k := 0) rfl ho))
            obtain ⟨fn, tmps, assign, body, hy, hR⟩ := HY.out.no W5 bits 65536 (m - 1) HB5.out ho
            rw [← HW5.out] at hy hR HB5
            gi_wp2
            refine hR.mono ?_
            clear hR hy
            rintro e W1 ⟨rfl, h1⟩
            have HW1 := hidden h1
            clear h1
            gi_wp2
            refine bodyPost_ret (results_none rfl _ _ _) rfl ?_
            exact ⟨⟨_, rfl⟩, _, HB5.out, .inr ⟨HF.out, by rw [HW1.out]; exact Below.refl _ _⟩⟩
          · have HN0 := hidden (show okPs ((celP n ⟨s0, s1, s2, s3, bits⟩).take 1) = true by rw [okPs_at (k := 0) rfl]; exact ho)
            have z0 : W5.cell? ⟨wr.heap.size, 0, none⟩ = some (.int .i64 s0) := by rw [← HW5.out]; simp
            have z1 : W5.cell? ⟨wr.heap.size, 1, none⟩ = some (.int .i64 s1) := by rw [← HW5.out]; simp
            have z2 : W5.cell? ⟨wr.heap.size, 2, none⟩ = some (.int .i64 s2) := by rw [← HW5.out]; simp
            have z3 : W5.cell? ⟨wr.heap.size, 3, none⟩ = some (.int .i64 s3) := by rw [← HW5.out]; simp
            obtain ⟨fn, tmps, assign, body, hy, hR⟩ := HY.out.go W5 bits 65536 (m - 1) HB5.out ho
            rw [← HW5.out] at hy hR
            gi_wp2
            rw [HW5.out] at hy hR
            refine (HW5.out ▸ hR).mono ?_
            clear hR hy
            rintro e W1 ⟨rfl, h1⟩
            obtain rfl : W1 = W5 := h1.trans HW5.out
            clear h1
            generalize wr.heap.size = zb at *
            gi_wp2
            gi_loopw [39] (fun t' w' => ∃ (t : Nat), t ≤ 4 ∧ t' = .int .i64 t ∧ Hid (okPs ((celP n ⟨s0, s1, s2, s3, bits⟩).take (t + 1)) = true) ∧ Hid (w' = W1)) (fun t' _ => 4 - (intOf t').toNat)
            case atStart => exact ⟨0, Nat.zero_le _, rfl, HN0.out, rfl⟩
            case round =>
              clear z0 z1 z2 z3
              obtain ⟨t, ht, rfl, HA5, HW⟩ := hrel
              have HBt : Below V0.heap.size V0 wr := by rw [HW.out]; exact HB5.out
              rcases (show t = 0 ∨ t = 1 ∨ t = 2 ∨ t = 3 ∨ t = 4 by omega) with rfl | rfl | rfl | rfl | rfl
              · have hix := idx4 wr s0 s1 s2 s3 s0 0 0 rfl rfl
                cases ho : okP s0 n
                · have HF := hidden (HXF.out (okPs_bad (k := 1) rfl ho))
                  obtain ⟨fn, tmps, assign, body, hy, hR⟩ := HY.out.no wr s0 n (m - 1) HBt ho
                  gi_wp2
                  refine hR.mono ?_
                  clear hR hy
                  rintro e W1 ⟨rfl, h1⟩
                  have HW1 := hidden h1
                  clear h1
                  gi_wp2
                  refine bodyPost_ret (results_none rfl _ _ _) rfl ?_
                  exact ⟨⟨_, rfl⟩, wr, HBt, .inr ⟨HF.out, by rw [HW1.out]; exact Below.refl _ _⟩⟩
                · have HN1 := hidden (show okPs ((celP n ⟨s0, s1, s2, s3, bits⟩).take 2) = true by rw [okPs_at (k := 1) rfl, HA5.out]; exact ho)
                  obtain ⟨fn, tmps, assign, body, hy, hR⟩ := HY.out.go wr s0 n (m - 1) HBt ho
                  gi_wp2
                  refine hR.mono ?_
                  clear hR hy
                  rintro e W1 ⟨rfl, rfl⟩
                  gi_wp2
                  go_roundw
                  case measure => simp [intOf]
                  case rel => exact ⟨1, by omega, by simp, HN1.out, HW.out⟩
              · have hix := idx4 wr s0 s1 s2 s3 s1 1 1 rfl rfl
                cases ho : okP s1 n
                · have HF := hidden (HXF.out (okPs_bad (k := 2) rfl ho))
                  obtain ⟨fn, tmps, assign, body, hy, hR⟩ := HY.out.no wr s1 n (m - 1) HBt ho
                  gi_wp2
                  refine hR.mono ?_
                  clear hR hy
                  rintro e W1 ⟨rfl, h1⟩
                  have HW1 := hidden h1
                  clear h1
                  gi_wp2
                  refine bodyPost_ret (results_none rfl _ _ _) rfl ?_
                  exact ⟨⟨_, rfl⟩, wr, HBt, .inr ⟨HF.out, by rw [HW1.out]; exact Below.refl _ _⟩⟩
                · have HN1 := hidden (show okPs ((celP n ⟨s0, s1, s2, s3, bits⟩).take 3) = true by rw [okPs_at (k := 2) rfl, HA5.out]; exact ho)
                  obtain ⟨fn, tmps, assign, body, hy, hR⟩ := HY.out.go wr s1 n (m - 1) HBt ho
                  gi_wp2
                  refine hR.mono ?_
                  clear hR hy
                  rintro e W1 ⟨rfl, rfl⟩
                  gi_wp2
                  go_roundw
                  case measure => simp [intOf]
                  case rel => exact ⟨2, by omega, by simp, HN1.out, HW.out⟩
              · have hix := idx4 wr s0 s1 s2 s3 s2 2 2 rfl rfl
                cases ho : okP s2 n
                · have HF := hidden (HXF.out (okPs_bad (k := 3) rfl ho))
                  obtain ⟨fn, tmps, assign, body, hy, hR⟩ := HY.out.no wr s2 n (m - 1) HBt ho
                  gi_wp2
                  refine hR.mono ?_
                  clear hR hy
                  rintro e W1 ⟨rfl, h1⟩
                  have HW1 := hidden h1
                  clear h1
                  gi_wp2
                  refine bodyPost_ret (results_none rfl _ _ _) rfl ?_
                  exact ⟨⟨_, rfl⟩, wr, HBt, .inr ⟨HF.out, by rw [HW1.out]; exact Below.refl _ _⟩⟩
                · have HN1 := hidden (show okPs ((celP n ⟨s0, s1, s2, s3, bits⟩).take 4) = true by rw [okPs_at (k := 3) rfl, HA5.out]; exact ho)
                  obtain ⟨fn, tmps, assign, body, hy, hR⟩ := HY.out.go wr s2 n (m - 1) HBt ho
                  gi_wp2
                  refine hR.mono ?_
                  clear hR hy
                  rintro e W1 ⟨rfl, rfl⟩
                  gi_wp2
                  go_roundw
                  case measure => simp [intOf]
                  case rel => exact ⟨3, by omega, by simp, HN1.out, HW.out⟩
              · have hix := idx4 wr s0 s1 s2 s3 s3 3 3 rfl rfl
                cases ho : okP s3 n
                · have HF := hidden (HXF.out (okPs_bad (k := 4) rfl ho))
                  obtain ⟨fn, tmps, assign, body, hy, hR⟩ := HY.out.no wr s3 n (m - 1) HBt ho
                  gi_wp2
                  refine hR.mono ?_
                  clear hR hy
                  rintro e W1 ⟨rfl, h1⟩
                  have HW1 := hidden h1
                  clear h1
                  gi_wp2
                  refine bodyPost_ret (results_none rfl _ _ _) rfl ?_
                  exact ⟨⟨_, rfl⟩, wr, HBt, .inr ⟨HF.out, by rw [HW1.out]; exact Below.refl _ _⟩⟩
                · have HN1 := hidden (show okPs ((celP n ⟨s0, s1, s2, s3, bits⟩).take 5) = true by rw [okPs_at (k := 4) rfl, HA5.out]; exact ho)
                  obtain ⟨fn, tmps, assign, body, hy, hR⟩ := HY.out.go wr s3 n (m - 1) HBt ho
                  gi_wp2
                  refine hR.mono ?_
                  clear hR hy
                  rintro e W1 ⟨rfl, rfl⟩
                  gi_wp2
                  go_roundw
                  case measure => simp [intOf]
                  case rel => exact ⟨4, by omega, by simp, HN1.out, HW.out⟩
              · have HN1 := hidden (show okPs ((cs.take (j + 1)).flatMap (celP n)) = true by rw [okPs_ftake _ _ j _ HDJ.out, HJ.out]; exact HA5.out)
                gi_wp2
                go_roundw
                case measure => simp [intOf]; omega
                case rel => exact ⟨j + 1, by omega, by simp, HN1.out, HBt⟩
        · have hjI : ¬ ((j : Int) < (M : Int)) := by omega
          have HN1 := hidden (show okPs ((List.range (k + 1)).flatMap (colP N)) = true by
            rw [okPs_rtake, HA.out, HCP.out]
            have := HJ.out
            rw [List.take_of_length_le (by have := HM.out; omega)] at this
            exact this)
          gi_wp2
          go_roundw
          case measure => simp [intOf]; omega
          case rel => exact ⟨k + 1, by omega, by simp, HN1.out, HBr.out⟩
    · have hge : ¬ ((k : Int) < (N.cols.length : Int)) := by omega
      have HT : Hid (okPs (celL N) = true) := by
        have := HA.out
        rw [show k = N.cols.length by omega] at this
        exact this
      gi_wp2
      go_end0
      exact ⟨⟨_, rfl⟩, wr, HBW.out, .inl ⟨HT.out, rfl⟩⟩

end Go.Proofs.Ytdbkomgfcgideaa
