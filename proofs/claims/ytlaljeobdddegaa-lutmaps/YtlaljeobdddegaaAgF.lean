import Derived.Test.YtlaljeobdddegaaAgE
namespace Go.Proofs.Ytlaljeobdddegaa
open Go.RowKit

set_option maxRecDepth 100000 in
set_option maxHeartbeats 16000000 in
theorem valid_rest (B : Nat) (w : World) (S : GrS) (G : GrD) (h : GrAt B w S G) (hB : B ≤ w.heap.size) (hs : G.small) (r : Bool) (HR : Hid (r = ((List.range G.ands.length).all (andOk G) && G.lats.all (latOk G) && G.outs.all (litOk G.vars)))) :
    Calls Try.prog 17 #[.agg (S.cells G)] w fun e w' => e = .returned (.bool r) ∧ Below w.heap.size w w' := by
  obtain ⟨g0, g1', g2', g3', g4⟩ := hs
  have HNV : Hid (G.vars = 1 + G.ins + G.lats.length + G.ands.length) := rfl
  have HFV : Hid (G.first = 1 + G.ins + G.lats.length) := rfl
  have g2 : (G.lats.length : Int) ≤ 6000 := by omega
  have g3 : (G.outs.length : Int) ≤ 60000 := by omega
  have g1 : G.ins < 60000 := by have := HNV.out; omega
  have g6 : (G.ands.length : Int) < 60000 := by have := HNV.out; omega
  have g7 : 1 ≤ G.vars := by have := HNV.out; omega
  have g8 : 1 ≤ G.first := by have := HFV.out; omega
  have g9 : G.first ≤ 70000 := by have := HFV.out; omega
  have VA : Hid (∀ w p, BoxAt w p S G → Calls Try.prog 29 #[.pointer (some ⟨p, 0, none⟩)] w fun e w' => e = .returned (.int .i64 G.vars) ∧ ∃ n, w' = w.drewN n) := fun w p hb => variables_any w p S G hb g0 g1' h.ll h.la
  have FA : Hid (∀ w p, BoxAt w p S G → Calls Try.prog 30 #[.pointer (some ⟨p, 0, none⟩)] w fun e w' => e = .returned (.int .i64 G.first) ∧ ∃ n, w' = w.drewN n) := fun w p hb => firstGate_any w p S G hb g0 g1' h.ll
  have HLA : Hid (∀ k d, G.ands[k]? = some d → andOk G k = (litOk (G.first + k) d.x && litOk (G.first + k) d.y)) := fun k d hd => andOk_of hd
  have HLL : Hid (∀ d, latOk G d = litOk G.vars d.next) := fun d => rfl
  generalize G.vars = n at *
  generalize G.first = F at *
  unfold GrS.cells at *
  clear g2' g3' g1' HNV HFV
  go_enter Try.func17, Try.ntmps17
  go_upto_region 1 with fail
  generalize hW : World.alloc w _ = W
  have HB : Hid (Below w.heap.size w W) := by rw [← hW]; exact (Below.refl _ _).alloc (Nat.le_refl _) _
  have hN : w.heap.size < W.heap.size := by rw [← hW]; simp
  have HX : Hid (BoxAt W w.heap.size S G) := by
    rw [← hW]
    exact ⟨by simp, by simp, by simp, by simp, by simp⟩
  have HAW : Hid (GrAt B W S G) := h.to (HB.out.mono hB)
  have hBW : B ≤ W.heap.size := Nat.le_trans hB HB.out.size
  clear hW h
  have q0 := HX.out.c0
  have q1 := HX.out.c1
  have q2 := HX.out.c2
  have q3 := HX.out.c3
  go_wp2_with (first | (go_at_call 29; refine (VA.out _ _ HX.out).mono ?_; rintro e w2 ⟨rfl, nd, rfl⟩) | (go_at_call 30; refine (FA.out _ _ (HX.out.to HX.out.lt (Below.drewN (Below.refl _ _) _))).mono ?_; rintro e w2 ⟨rfl, nd2, rfl⟩))
  clear q0 q1 q2 q3
  go_loopw [46] (fun i' w' => ∃ (k : Nat), k ≤ G.ands.length ∧ i' = .int .i64 k ∧ Hid ((List.range k).all (andOk G) = true) ∧ Hid (Below W.heap.size W w')) (fun i' _ => G.ands.length - (intOf i').toNat)
  case atStart => exact ⟨0, Nat.zero_le _, rfl, rfl, Below.drewN (Below.refl _ _) _⟩
  case round =>
    obtain ⟨k, hk, rfl, HA, HBr⟩ := hrel
    by_cases hlt : k < G.ands.length
    · obtain ⟨d, hd⟩ := getElem_lt hlt
      obtain ⟨b, o, ea, hlb, hc⟩ := HAW.out.a.el hd
      have HAK := hidden (HLA.out k d hd)
      have hbW : b < W.heap.size := Nat.lt_of_lt_of_le hlb hBW
      have c0 : wr.cell? ⟨b, o + k * 2, none⟩ = some (.int .i64 d.x) := (HBr.out.cell (p := ⟨b, o + k * 2, none⟩) hbW).trans (hc 0 _ rfl)
      have c1 : wr.cell? ⟨b, o + k * 2 + 1, none⟩ = some (.int .i64 d.y) := (HBr.out.cell (p := ⟨b, o + k * 2 + 1, none⟩) hbW).trans (hc 1 _ rfl)
      have hltI : (k : Int) < (G.ands.length : Int) := by omega
      have hbr : b < wr.heap.size := Nat.lt_of_lt_of_le hbW HBr.out.size
      obtain ⟨x, y⟩ := d
      simp only at c0 c1 HAK
      have e2 : IntKind.i64.wrap ((k : Int) + 1) = (k : Int) + 1 := wrapI _ (by omega) (by omega)
      have e3 : IntKind.i64.wrap (F + (k : Int)) = F + (k : Int) := wrapI _ (by omega) (by omega)
      have IX : Hid (∀ w, Calls Try.prog 31 #[.int .i64 x, .int .i64 (F + (k : Int))] w fun e w' => e = .returned (.bool (litOk (F + k) x)) ∧ w' = w) := fun w => isLiteral_any _ _ (by omega) (by omega) w
      have IY : Hid (∀ w, Calls Try.prog 31 #[.int .i64 y, .int .i64 (F + (k : Int))] w fun e w' => e = .returned (.bool (litOk (F + k) y)) ∧ w' = w) := fun w => isLiteral_any _ _ (by omega) (by omega) w
      rw [ea]
      clear hd hc hlb ea
      generalize litOk (F + k) x = bx at *
      generalize litOk (F + k) y = bY at *
      cases bx
      · have HF : Hid (r = false) := by
          show _ = _
          rw [HR.out, range_false hlt (by rw [HAK.out]; rfl)]; rfl
        clear HR
        go_wp2_with fail
        generalize hW5 : World.alloc wr _ = w5
        have HB5 : Hid (Below W.heap.size W w5) := by rw [← hW5]; exact HBr.out.alloc HBr.out.size _
        have z0 : w5.cell? ⟨wr.heap.size, 0, none⟩ = some (.int .i64 x) := by rw [← hW5]; simp
        have z1 : w5.cell? ⟨wr.heap.size, 1, none⟩ = some (.int .i64 y) := by rw [← hW5]; simp
        clear hW5 HBr c0 c1
        generalize wr.heap.size = zb at *
        go_at_call 31
        refine (IX.out _).mono ?_
        rintro e w2 ⟨rfl, rfl⟩
        go_wp2_with fail
        go_ret
        exact ⟨ret_bool HF.out.symm, HB.out.trans (HB5.out.mono HB.out.size)⟩
      · cases bY
        · have HF : Hid (r = false) := by
            show _ = _
            rw [HR.out, range_false hlt (by rw [HAK.out]; rfl)]; rfl
          clear HR
          go_wp2_with fail
          generalize hW5 : World.alloc wr _ = w5
          have HB5 : Hid (Below W.heap.size W w5) := by rw [← hW5]; exact HBr.out.alloc HBr.out.size _
          have z0 : w5.cell? ⟨wr.heap.size, 0, none⟩ = some (.int .i64 x) := by rw [← hW5]; simp
          have z1 : w5.cell? ⟨wr.heap.size, 1, none⟩ = some (.int .i64 y) := by rw [← hW5]; simp
          clear hW5 HBr c0 c1
          generalize wr.heap.size = zb at *
          go_at_call 31
          refine (IX.out _).mono ?_
          rintro e w2 ⟨rfl, rfl⟩
          go_wp2_with fail
          go_at_call 31
          refine (IY.out _).mono ?_
          rintro e w6 ⟨rfl, rfl⟩
          go_wp2_with fail
          go_ret
          exact ⟨ret_bool HF.out.symm, HB.out.trans (HB5.out.mono HB.out.size)⟩
        · have HN1 : Hid ((List.range (k + 1)).all (andOk G) = true) := by
            show _ = _
            rw [range_next, HA.out, HAK.out]; rfl
          go_wp2_with fail
          generalize hW5 : World.alloc wr _ = w5
          have HB5 : Hid (Below W.heap.size W w5) := by rw [← hW5]; exact HBr.out.alloc HBr.out.size _
          have z0 : w5.cell? ⟨wr.heap.size, 0, none⟩ = some (.int .i64 x) := by rw [← hW5]; simp
          have z1 : w5.cell? ⟨wr.heap.size, 1, none⟩ = some (.int .i64 y) := by rw [← hW5]; simp
          clear hW5 HBr c0 c1
          generalize wr.heap.size = zb at *
          go_at_call 31
          refine (IX.out _).mono ?_
          rintro e w2 ⟨rfl, rfl⟩
          go_wp2_with fail
          go_at_call 31
          refine (IY.out _).mono ?_
          rintro e w6 ⟨rfl, rfl⟩
          go_wp2_with fail
          go_roundw
          case measure => simp [intOf]; omega
          case rel => exact ⟨k + 1, by omega, by simp, HN1.out, HB5.out⟩
    · have hge : ¬ ((k : Int) < (G.ands.length : Int)) := by omega
      have HA' : Hid ((List.range G.ands.length).all (andOk G) = true) := by
        have := HA.out
        rwa [show k = G.ands.length by omega] at this
      clear HA
      have IL : Hid (∀ l w, Calls Try.prog 31 #[.int .i64 l, .int .i64 n] w fun e w' => e = .returned (.bool (litOk n l)) ∧ w' = w) := fun l w => isLiteral_any l n (by omega) (by omega) w
      have p1 : wr.cell? ⟨w.heap.size, 1, none⟩ = some (.slice S.a1 G.lats.length S.c1) := (HBr.out.cell (p := ⟨w.heap.size, 1, none⟩) hN).trans HX.out.c1
      have HB3 := hidden HBr.out
      clear HLA
      go_wp2_with fail
      clear p1 HBr
      go_loopw [71] (fun i' w' => ∃ (k : Nat), k ≤ G.lats.length ∧ i' = .int .i64 k ∧ Hid ((G.lats.take k).all (latOk G) = true) ∧ Hid (Below W.heap.size W w')) (fun i' _ => G.lats.length - (intOf i').toNat)
      case atStart => exact ⟨0, Nat.zero_le _, rfl, rfl, HB3.out⟩
      case round =>
        obtain ⟨k2, hk2, rfl, HL, HBr⟩ := hrel
        by_cases hlt2 : k2 < G.lats.length
        · obtain ⟨d, hd⟩ := getElem_lt hlt2
          obtain ⟨b, o, ea, hlb, hc⟩ := HAW.out.l.el hd
          have HD := hidden hd
          have HXr : Hid (BoxAt wr w.heap.size S G) := HX.out.to hN HBr.out
          have q1 := HXr.out.c1
          have hbW : b < W.heap.size := Nat.lt_of_lt_of_le hlb hBW
          have c0 : wr.cell? ⟨b, o + k2 * 2, none⟩ = some (.int .i64 d.next) := (HBr.out.cell (p := ⟨b, o + k2 * 2, none⟩) hbW).trans (hc 0 _ rfl)
          have hltI : (k2 : Int) < (G.lats.length : Int) := by omega
          rw [ea] at q1
          have e2 : IntKind.i64.wrap ((k2 : Int) + 1) = (k2 : Int) + 1 := wrapI _ (by omega) (by omega)
          have HLd := hidden (HLL.out d)
          have IX := hidden (IL.out d.next)
          generalize litOk n d.next = bx at *
          generalize d.next = x at *
          clear hd hc ea hlb
          cases bx
          · have HF : Hid (r = false) := by
              show _ = _
              rw [HR.out, show G.lats.all (latOk G) = false from List.all_eq_false.2 ⟨_, List.mem_of_getElem? HD.out, by rw [HLd.out]; decide⟩, Bool.and_false]; rfl
            clear HR
            go_wp2_with fail
            go_quiet (first | (go_at_call 29; exact Calls.quiet_of (VA.out _ _ (HXr.out.to HXr.out.lt (Below.drewN (Below.refl _ _) _)))) | (go_at_call 31; exact Calls.quiet_of_same (IX.out _)))
            go_wp2
            go_ret
            exact ⟨ret_bool HF.out.symm, HB.out.trans ((Below.drewN HBr.out _).mono HB.out.size)⟩
          · have HN1 : Hid ((G.lats.take (k2 + 1)).all (latOk G) = true) := by
              show _ = _
              rw [all_next _ _ k2 _ HD.out, HL.out, HLd.out]; rfl
            go_wp2_with fail
            go_quiet (first | (go_at_call 29; exact Calls.quiet_of (VA.out _ _ (HXr.out.to HXr.out.lt (Below.drewN (Below.refl _ _) _)))) | (go_at_call 31; exact Calls.quiet_of_same (IX.out _)))
            go_wp2
            go_roundw
            case measure => simp [intOf]; omega
            case rel => exact ⟨k2 + 1, by omega, by simp, HN1.out, Below.drewN HBr.out _⟩
        · have hge2 : ¬ ((k2 : Int) < (G.lats.length : Int)) := by omega
          have HL' : Hid (G.lats.all (latOk G) = true) := by
            have := HL.out
            rwa [List.take_of_length_le (by omega)] at this
          clear HL
          have p3 : wr.cell? ⟨w.heap.size, 3, none⟩ = some (.slice S.a3 G.outs.length S.c3) := (HBr.out.cell (p := ⟨w.heap.size, 3, none⟩) hN).trans HX.out.c3
          have HB4 := hidden HBr.out
          go_wp2_with fail
          clear p3 HBr
          go_loopw [87] (fun i' w' => ∃ (k : Nat), k ≤ G.outs.length ∧ i' = .int .i64 k ∧ Hid ((G.outs.take k).all (litOk n) = true) ∧ Hid (Below W.heap.size W w')) (fun i' _ => G.outs.length - (intOf i').toNat)
          case atStart => exact ⟨0, Nat.zero_le _, rfl, rfl, HB4.out⟩
          case round =>
            obtain ⟨k3, hk3, rfl, HO, HBo⟩ := hrel
            by_cases hlt3 : k3 < G.outs.length
            · obtain ⟨x, hd⟩ := getElem_lt hlt3
              obtain ⟨b, o, ea, hlb, hc⟩ := HAW.out.o.el hd
              have HD := hidden hd
              have HXr : Hid (BoxAt wr w.heap.size S G) := HX.out.to hN HBo.out
              have hbW : b < W.heap.size := Nat.lt_of_lt_of_le hlb hBW
              have c0 : wr.cell? ⟨b, o + k3, none⟩ = some (.int .i64 x) := (HBo.out.cell (p := ⟨b, o + k3, none⟩) hbW).trans ((congrArg (fun m => W.cell? ⟨b, o + m, none⟩) (Nat.mul_one k3).symm).trans (hc 0 _ rfl))
              have hltI : (k3 : Int) < (G.outs.length : Int) := by omega
              have e2 : IntKind.i64.wrap ((k3 : Int) + 1) = (k3 : Int) + 1 := wrapI _ (by omega) (by omega)
              have IX := hidden (IL.out x)
              have HLx : ∃ bx, Hid (litOk n x = bx) := ⟨_, rfl⟩
              obtain ⟨bx, HLx⟩ := HLx
              rw [HLx.out] at IX
              rw [ea]
              clear hd hc ea hlb
              cases bx
              · have HF : Hid (r = false) := by
                  show _ = _
                  rw [HR.out, show G.outs.all (litOk n) = false from List.all_eq_false.2 ⟨_, List.mem_of_getElem? HD.out, by rw [HLx.out]; decide⟩, Bool.and_false]
                clear HR
                go_wp2_with fail
                go_at_call 29
                refine (VA.out _ _ HXr.out).mono ?_
                rintro e w2 ⟨rfl, nd3, rfl⟩
                go_wp2_with fail
                go_at_call 31
                refine (IX.out _).mono ?_
                rintro e w2 ⟨rfl, rfl⟩
                go_wp2_with fail
                go_ret
                exact ⟨ret_bool HF.out.symm, HB.out.trans ((Below.drewN HBo.out _).mono HB.out.size)⟩
              · have HN1 : Hid ((G.outs.take (k3 + 1)).all (litOk n) = true) := by
                  show _ = _
                  rw [all_next _ _ k3 _ HD.out, HO.out, HLx.out]; rfl
                go_wp2_with fail
                go_at_call 29
                refine (VA.out _ _ HXr.out).mono ?_
                rintro e w2 ⟨rfl, nd3, rfl⟩
                go_wp2_with fail
                go_at_call 31
                refine (IX.out _).mono ?_
                rintro e w2 ⟨rfl, rfl⟩
                go_wp2_with fail
                go_roundw
                case measure => simp [intOf]; omega
                case rel => exact ⟨k3 + 1, by omega, by simp, HN1.out, Below.drewN HBo.out _⟩
            · have hge3 : ¬ ((k3 : Int) < (G.outs.length : Int)) := by omega
              have HO' : Hid (G.outs.all (litOk n) = true) := by
                have := HO.out
                rwa [List.take_of_length_le (by omega)] at this
              have HF : Hid (r = true) := by show _ = _; rw [HR.out, HA'.out, HL'.out, HO'.out]; rfl
              clear HO HR
              go_wp2
              go_ret
              exact ⟨ret_bool HF.out.symm, HB.out.trans (HBo.out.mono HB.out.size)⟩

theorem valid_any (B : Nat) (w : World) (S : GrS) (G : GrD) (h : GrAt B w S G) (hB : B ≤ w.heap.size) :
    Calls Try.prog 17 #[.agg (S.cells G)] w fun e w' => e = .returned (.bool (GrOk G)) ∧ Below w.heap.size w w' := by
  by_cases hs : G.small
  · refine valid_rest B w S G h hB hs _ ?_
    show _ = _
    unfold GrOk; rw [decide_eq_true hs, Bool.true_and]
  · have e : GrOk G = false := by unfold GrOk; rw [decide_eq_false hs]; rfl
    rw [e]; exact valid_small w S G h.ll h.la hs

end Go.Proofs.Ytlaljeobdddegaa
