import Derived.Test.YtdbkomgfcgideaaSvI
namespace Go.Proofs.Ytdbkomgfcgideaa
open Go.RowKit Go.Shelf
attribute [local go_sem] Oper.semAt_some wide_fn wide_depth

/-- the numbers of a register -/
def regP (N : CnD) (d : RgD) : List (Int × Int) := [(if d.init then 1 else 0, 2), (d.sel, endF N)]
def regL (N : CnD) : List (Int × Int) := N.regs.flatMap (regP N)
theorem okPs_app (a b : List (Int × Int)) : okPs (a ++ b) = (okPs a && okPs b) := by unfold okPs; rw [List.all_append]
theorem okPs_ftake {α : Type} (f : α → List (Int × Int)) (l : List α) (k : Nat) (x : α) (h : l[k]? = some x) : okPs ((l.take (k + 1)).flatMap f) = (okPs ((l.take k).flatMap f) && okPs (f x)) := by
  rw [take_next l k x h, List.flatMap_append, okPs_app]; simp
theorem okPs_fno {α : Type} (f : α → List (Int × Int)) (l : List α) (x : α) (h : x ∈ l) (hx : okPs (f x) = false) : okPs (l.flatMap f) = false := by
  unfold okPs at *
  rw [List.all_eq_false] at *
  obtain ⟨y, hy, h2⟩ := hx
  exact ⟨y, List.mem_flatMap.2 ⟨x, h, hy⟩, h2⟩

set_option maxRecDepth 100000 in
set_option maxHeartbeats 16000000 in
theorem regFields_it (B : Nat) (w0 : World) (S : CnS) (N : CnD) (bx pc : Nat) (hbx : bx < w0.heap.size) (hB : B ≤ w0.heap.size) (h : CnAt B w0 S N) (hf : N.sh.fits) (hp : BoxAt w0 pc S N)
    (hc : w0.cell? ⟨bx, 0, none⟩ = some (.pointer (some ⟨pc, 0, none⟩))) : ItC Try.prog 21 #[.pointer (some ⟨bx, 0, none⟩)] (regL N) w0 := by
  intro V0 l st V m hb0 hy hb1
  have HY := hidden hy
  have HN0 := hidden hb0
  have HB1 := hidden hb1
  have EC : Hid (∀ w, Calls Try.prog 22 #[.agg N.sh.arr] w fun e w' => e = .returned (.int .i64 (endF N)) ∧ Below w.heap.size w w') := fun w => endChoices_any w N.sh hf
  have HH := hidden h
  have HP := hidden hp
  have HC := hidden hc
  have hln := h.lr
  simp only [big] at hln
  clear h hp hc hy hb0 hb1
  have hmx : Try.prog.follows .mixedOrders = true := by kernel_rfl
  refine callsIn_of_wp Try.func21 rfl trivial ?_ rfl
  simp only [Try.ntmps21, List.size_toArray, List.length_cons, List.length_nil, Nat.reduceAdd, Nat.reduceSub, Array.replicate_succ, Array.replicate_zero, List.push_toArray, List.append_toArray, List.nil_append, List.cons_append]
  have up : Hid (∀ {W}, Below V0.heap.size V0 W → Below w0.heap.size w0 W) := fun {W} hW => HN0.out.trans (hW.mono HN0.out.size)
  have q0 : V.cell? ⟨bx, 0, none⟩ = some (.pointer (some ⟨pc, 0, none⟩)) := ((up.out HB1.out).cell (p := ⟨bx, 0, none⟩) hbx).trans HC.out
  have q1 := (HP.out.to HP.out.lt (up.out HB1.out)).c6
  gi_wp2
  gi_loopw [11] (fun i' w' => ∃ (k : Nat), k ≤ N.regs.length ∧ i' = .int .i64 k ∧ Hid (okPs ((N.regs.take k).flatMap (regP N)) = true) ∧ Hid (Below V0.heap.size V0 w')) (fun i' _ => N.regs.length - (intOf i').toNat)
  case atStart => exact ⟨0, Nat.zero_le _, rfl, rfl, HB1.out⟩
  case round =>
    clear q0 q1
    obtain ⟨k, hk, rfl, HA, HBW⟩ := hrel
    by_cases hlt : k < N.regs.length
    · have hltI : (k : Int) < (N.regs.length : Int) := by omega
      obtain ⟨d, hd⟩ := getElem_lt hlt
      obtain ⟨b, o, ea, hlb, hc⟩ := HH.out.r.el hd
      obtain ⟨x, fi⟩ := d
      have c0 : wr.cell? ⟨b, o + k * 2, none⟩ = some (.int .i64 x) := ((up.out HBW.out).cell (p := ⟨b, o + k * 2, none⟩) (Nat.lt_of_lt_of_le hlb hB)).trans (hc 0 _ rfl)
      have c1 : wr.cell? ⟨b, o + k * 2 + 1, none⟩ = some (.bool fi) := ((up.out HBW.out).cell (p := ⟨b, o + k * 2 + 1, none⟩) (Nat.lt_of_lt_of_le hlb hB)).trans (hc 1 _ rfl)
      have HD := hidden hd
      have e2 : IntKind.i64.wrap ((k : Int) + 1) = (k : Int) + 1 := wrapI _ (by omega) (by omega)
      rw [ea]
      clear hd hc hlb ea
      obtain ⟨W3, hW3⟩ : ∃ W3, wr.alloc (.cells #[.int .i64 x, .bool fi] 42) = W3 := ⟨_, rfl⟩
      have HB3 : Hid (Below V0.heap.size V0 W3) := by rw [← hW3]; exact HBW.out.alloc HBW.out.size _
      have z0 : W3.cell? ⟨wr.heap.size, 0, none⟩ = some (.int .i64 x) := by rw [← hW3]; simp
      have z1 : W3.cell? ⟨wr.heap.size, 1, none⟩ = some (.bool fi) := by rw [← hW3]; simp
      have HW3 := hidden hW3
      clear hW3
      have q0 : W3.cell? ⟨bx, 0, none⟩ = some (.pointer (some ⟨pc, 0, none⟩)) := ((up.out HB3.out).cell (p := ⟨bx, 0, none⟩) hbx).trans HC.out
      have hbx' := (HP.out.to HP.out.lt (up.out HB3.out))
      have y0 := hbx'.c0
      have y1 := hbx'.c1
      have y2 := hbx'.c2
      have y3 := hbx'.c3
      have y4 := hbx'.c4
      clear hbx'
      have KZ : Hid (∀ v, Below W3.heap.size W3 v → v.cell? ⟨wr.heap.size, 0, none⟩ = some (.int .i64 x)) := fun v hv => (hv.cell (p := ⟨wr.heap.size, 0, none⟩) (by rw [← HW3.out]; simp)).trans z0
      cases fi
      · skip
        cases ho : okP x (endF N)
        · have HF := hidden (show okPs (regL N) = false from okPs_fno _ _ _ (List.mem_of_getElem? HD.out) (by simp [okPs, regP, ho]))
          gi_wp2
          rw [HW3.out]
          first | obtain ⟨fn1, tmps1, assign1, body1, hy1, hR1⟩ := HY.out.go W3.drew 0 2 (m - 1) (Below.drew HB3.out) rfl | skip
          gi_region_with_o (first | (gi_at_call 22; refine (callsIn_wide.2 (EC.out _)).mono ?_; rintro e v ⟨rfl, hbv⟩; have hbV : Below V0.heap.size V0 v := HB3.out.trans ((Below.drew (Below.refl _ W3)).trans hbv |>.mono HB3.out.size); have zv := KZ.out v ((Below.drew (Below.refl _ W3)).trans hbv); obtain ⟨fn, tmps, assign, body, hy, hR⟩ := HY.out.no v x (endF N) (m - 1) hbV ho) | (refine hR1.mono ?_; clear hR1 hy1; rintro e W1 ⟨rfl, rfl⟩) | (refine hR.mono ?_; clear hR hy; rintro e W1 ⟨rfl, h1⟩; have HW1 := hidden h1; clear h1))
          all_goals
            gi_wp2
            refine bodyPost_ret (results_none rfl _ _ _) rfl ?_
            exact ⟨⟨_, rfl⟩, v, hbV, .inr ⟨HF.out, by rw [HW1.out]; exact Below.refl _ _⟩⟩
        · have HN1 := hidden (show okPs ((N.regs.take (k + 1)).flatMap (regP N)) = true by rw [okPs_ftake _ _ k _ HD.out, HA.out]; simp [okPs, regP, okP] at ho ⊢; exact ho)
          gi_wp2
          rw [HW3.out]
          first | obtain ⟨fn1, tmps1, assign1, body1, hy1, hR1⟩ := HY.out.go W3.drew 0 2 (m - 1) (Below.drew HB3.out) rfl | skip
          gi_region_with_o (first | (gi_at_call 22; refine (callsIn_wide.2 (EC.out _)).mono ?_; rintro e v ⟨rfl, hbv⟩; have hbV : Below V0.heap.size V0 v := HB3.out.trans ((Below.drew (Below.refl _ W3)).trans hbv |>.mono HB3.out.size); have zv := KZ.out v ((Below.drew (Below.refl _ W3)).trans hbv); obtain ⟨fn, tmps, assign, body, hy, hR⟩ := HY.out.go v x (endF N) (m - 1) hbV ho) | (refine hR1.mono ?_; clear hR1 hy1; rintro e W1 ⟨rfl, rfl⟩) | (refine hR.mono ?_; clear hR hy; rintro e W1 ⟨rfl, h1⟩; have HW1 := hidden h1; clear h1))
          all_goals
            gi_wp2
            go_roundw
            case measure => simp [intOf]; omega
            case rel => exact ⟨k + 1, by omega, by simp, HN1.out, by rw [HW1.out]; exact hbV⟩
      · skip
        cases ho : okP x (endF N)
        · have HF := hidden (show okPs (regL N) = false from okPs_fno _ _ _ (List.mem_of_getElem? HD.out) (by simp [okPs, regP, ho]))
          gi_wp2
          rw [HW3.out]
          first | obtain ⟨fn1, tmps1, assign1, body1, hy1, hR1⟩ := HY.out.go W3.drew 1 2 (m - 1) (Below.drew HB3.out) rfl | skip
          gi_region_with_o (first | (gi_at_call 22; refine (callsIn_wide.2 (EC.out _)).mono ?_; rintro e v ⟨rfl, hbv⟩; have hbV : Below V0.heap.size V0 v := HB3.out.trans ((Below.drew (Below.refl _ W3)).trans hbv |>.mono HB3.out.size); have zv := KZ.out v ((Below.drew (Below.refl _ W3)).trans hbv); obtain ⟨fn, tmps, assign, body, hy, hR⟩ := HY.out.no v x (endF N) (m - 1) hbV ho) | (refine hR1.mono ?_; clear hR1 hy1; rintro e W1 ⟨rfl, rfl⟩) | (refine hR.mono ?_; clear hR hy; rintro e W1 ⟨rfl, h1⟩; have HW1 := hidden h1; clear h1))
          all_goals
            gi_wp2
            refine bodyPost_ret (results_none rfl _ _ _) rfl ?_
            exact ⟨⟨_, rfl⟩, v, hbV, .inr ⟨HF.out, by rw [HW1.out]; exact Below.refl _ _⟩⟩
        · have HN1 := hidden (show okPs ((N.regs.take (k + 1)).flatMap (regP N)) = true by rw [okPs_ftake _ _ k _ HD.out, HA.out]; simp [okPs, regP, okP] at ho ⊢; exact ho)
          gi_wp2
          rw [HW3.out]
          first | obtain ⟨fn1, tmps1, assign1, body1, hy1, hR1⟩ := HY.out.go W3.drew 1 2 (m - 1) (Below.drew HB3.out) rfl | skip
          gi_region_with_o (first | (gi_at_call 22; refine (callsIn_wide.2 (EC.out _)).mono ?_; rintro e v ⟨rfl, hbv⟩; have hbV : Below V0.heap.size V0 v := HB3.out.trans ((Below.drew (Below.refl _ W3)).trans hbv |>.mono HB3.out.size); have zv := KZ.out v ((Below.drew (Below.refl _ W3)).trans hbv); obtain ⟨fn, tmps, assign, body, hy, hR⟩ := HY.out.go v x (endF N) (m - 1) hbV ho) | (refine hR1.mono ?_; clear hR1 hy1; rintro e W1 ⟨rfl, rfl⟩) | (refine hR.mono ?_; clear hR hy; rintro e W1 ⟨rfl, h1⟩; have HW1 := hidden h1; clear h1))
          all_goals
            gi_wp2
            go_roundw
            case measure => simp [intOf]; omega
            case rel => exact ⟨k + 1, by omega, by simp, HN1.out, by rw [HW1.out]; exact hbV⟩
    · have hge : ¬ ((k : Int) < (N.regs.length : Int)) := by omega
      have HT : Hid (okPs (regL N) = true) := by
        have := HA.out
        rw [List.take_of_length_le (by omega)] at this
        exact this
      gi_wp2
      go_end0
      exact ⟨⟨_, rfl⟩, wr, HBW.out, .inl ⟨HT.out, rfl⟩⟩

end Go.Proofs.Ytdbkomgfcgideaa
