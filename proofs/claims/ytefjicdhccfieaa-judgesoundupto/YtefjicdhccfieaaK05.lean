import Derived.Test.YtefjicdhccfieaaK01
import Derived.Test.YtefjicdhccfieaaK04
import Derived.Deep.Cut
set_option maxRecDepth 100000
set_option maxHeartbeats 16000000
namespace Go.Proofs.Ytefjicdhccfieaa
open Go.RowKit
theorem isValid_small (W : World) (p : Nat) (S : GrS) (G : GrD) (hX : BoxAt W p S G) (h2 : G.lats.length < big) (h3 : G.ands.length < big) (hs : ¬ G.small) :
  Calls Try.prog 59 #[.pointer (some ⟨p, 0, none⟩)] W fun e w' => e = .returned (.bool false) ∧ Below W.heap.size W w' := by
 have hcs : ¬ 0 ≤ G.ins ∨ (0 ≤ G.ins ∧ ¬ G.ins < 60000) ∨ (0 ≤ G.ins ∧ G.ins < 60000 ∧ ¬ (G.ands.length : Int) < 60000) ∨ (0 ≤ G.ins ∧ G.ins < 60000 ∧ (G.ands.length : Int) < 60000 ∧ ¬ (G.lats.length : Int) ≤ 6000) ∨ (0 ≤ G.ins ∧ G.ins < 60000 ∧ (G.ands.length : Int) < 60000 ∧ (G.lats.length : Int) ≤ 6000 ∧ ¬ (G.outs.length : Int) ≤ 60000) ∨ (0 ≤ G.ins ∧ G.ins < 60000 ∧ (G.ands.length : Int) < 60000 ∧ (G.lats.length : Int) ≤ 6000 ∧ (G.outs.length : Int) ≤ 60000 ∧ ¬ G.vars ≤ 60000) := by
  unfold GrD.small at hs; omega
 have VA : Hid (0 ≤ G.ins → G.ins < 60000 → ∀ w p, BoxAt w p S G → Calls Try.prog 62 #[.pointer (some ⟨p, 0, none⟩)] w fun e w' => e = .returned (.int .i64 G.vars) ∧ ∃ n, w' = w.drewN n) := fun a b w p hb => variables_any w p S G hb a (by omega) h2 h3
 generalize G.vars = n at *
 clear hs h2 h3
 go_enter Try.func59, Try.ntmps59
 have HX := hidden hX
 have HB : Hid (Below W.heap.size W W) := Below.refl _ _
 clear hX
 have q0 := HX.out.c0
 have q1 := HX.out.c1
 have q2 := HX.out.c2
 have q3 := HX.out.c3
 rcases hcs with g1 | ⟨g0, g1⟩ | ⟨g0, g1, g2⟩ | ⟨g0, g1, g2, g3⟩ | ⟨g0, g1, g2, g3, g4⟩ | ⟨g0, g1, g2, g3, g4, g5⟩
 ·have d0 : decide (0 ≤ G.ins) = false := decide_eq_false g1
  go_wp2
  go_ret
  exact ⟨rfl, HB.out⟩
 ·have d0 : decide (G.ins < 60000) = false := decide_eq_false g1
  go_wp2
  go_ret
  exact ⟨rfl, HB.out⟩
 ·have d0 : decide ((G.ands.length : Int) < 60000) = false := decide_eq_false g2
  go_wp2
  go_ret
  exact ⟨rfl, HB.out⟩
 ·have d0 : decide ((G.lats.length : Int) ≤ 6000) = false := decide_eq_false g3
  go_wp2
  go_ret
  exact ⟨rfl, HB.out⟩
 ·have d0 : decide ((G.outs.length : Int) ≤ 60000) = false := decide_eq_false g4
  go_wp2
  go_ret
  exact ⟨rfl, HB.out⟩
 ·have d0 : decide (n ≤ 60000) = false := decide_eq_false g5
  go_wp2_with (go_at_call 62; refine (VA.out g0 g1 _ _ HX.out).mono ?_; rintro e w2 ⟨rfl, nd, rfl⟩)
  go_ret
  exact ⟨rfl, HB.out.trans ((Below.drewN (Below.refl _ _) _).mono HB.out.size)⟩
theorem isValid_rest (B : Nat) (W : World) (p : Nat) (S : GrS) (G : GrD) (hX : BoxAt W p S G) (h : GrAt B W S G) (hBW : B ≤ W.heap.size) (hs : G.small) (r : Bool) (HR : Hid (r = ((List.range G.ands.length).all (andOk G) && G.lats.all (latOk G) && G.outs.all (litOkG G.vars)))) :
  Calls Try.prog 59 #[.pointer (some ⟨p, 0, none⟩)] W fun e w' => e = .returned (.bool r) ∧ Below W.heap.size W w' := by
 obtain ⟨g0, g1', g2', g3', g4⟩ := hs
 have HNV : Hid (G.vars = 1 + G.ins + G.lats.length + G.ands.length) := rfl
 have HFV : Hid (G.first = 1 + G.ins + G.lats.length) := rfl
 have g2 : (G.lats.length : Int) ≤ 6000 := by omega
 have g3 : (G.outs.length : Int) ≤ 60000 := by omega
 have g1 : G.ins < 60000 := by have := HNV.out; omega
 have g6 : (G.ands.length : Int) < 60000 := by have := HNV.out; omega
 have g7 : 1 ≤ G.vars := by have := HNV.out; omega
 have g8 : 1 ≤ G.first := by have := HFV.out; omega
 have g9 : G.first ≤ 70000 := by have := HFV.out; omega
 have VA : Hid (∀ w p, BoxAt w p S G → Calls Try.prog 62 #[.pointer (some ⟨p, 0, none⟩)] w fun e w' => e = .returned (.int .i64 G.vars) ∧ ∃ n, w' = w.drewN n) := fun w p hb => variables_any w p S G hb g0 g1' h.ll h.la
 have FA : Hid (∀ w p, BoxAt w p S G → Calls Try.prog 74 #[.pointer (some ⟨p, 0, none⟩)] w fun e w' => e = .returned (.int .i64 G.first) ∧ ∃ n, w' = w.drewN n) := fun w p hb => firstGate_any w p S G hb g0 g1' h.ll
 have HLA : Hid (∀ k d, G.ands[k]? = some d → andOk G k = (litOkG (G.first + k) d.x && litOkG (G.first + k) d.y)) := fun k d hd => andOk_of hd
 have HLL : Hid (∀ d, latOk G d = litOkG G.vars d.next) := fun d => rfl
 generalize G.vars = n at *
 generalize G.first = F at *
 clear g2' g3' g1' HNV HFV
 go_enter Try.func59, Try.ntmps59
 have HX := hidden hX
 have HB : Hid (Below W.heap.size W W) := Below.refl _ _
 have hN : p < W.heap.size := hX.lt
 have HAW := hidden h
 clear hX h
 have q0 := HX.out.c0
 have q1 := HX.out.c1
 have q2 := HX.out.c2
 have q3 := HX.out.c3
 go_wp2_with (go_at_call 62; refine (VA.out _ _ HX.out).mono ?_; rintro e w2 ⟨rfl, nd, rfl⟩)
 clear q0 q1 q2 q3
 go_loopw [59] (fun i' w' => ∃ (k : Nat), k ≤ G.ands.length ∧ i' = .int .i64 k ∧ Hid ((List.range k).all (andOk G) = true) ∧ Hid (Below W.heap.size W w')) (fun i' _ => G.ands.length - (intOf i').toNat)
 case atStart => exact ⟨0, Nat.zero_le _, rfl, rfl, Below.drewN (Below.refl _ _) _⟩
 case round =>
  obtain ⟨k, hk, rfl, HA, HBr⟩ := hrel
  by_cases hlt : k < G.ands.length
  ·obtain ⟨d, hd⟩ := getElem_lt hlt
   obtain ⟨b, o, ea, hlb, hc⟩ := HAW.out.a.el hd
   have HAK := hidden (HLA.out k d hd)
   have hbW : b < W.heap.size := Nat.lt_of_lt_of_le hlb hBW
   have c0 : wr.cell? ⟨b, o + k * 2, none⟩ = some (.int .i64 d.x) := (HBr.out.cell (p := ⟨b, o + k * 2, none⟩) hbW).trans (hc 0 _ rfl)
   have c1 : wr.cell? ⟨b, o + k * 2 + 1, none⟩ = some (.int .i64 d.y) := (HBr.out.cell (p := ⟨b, o + k * 2 + 1, none⟩) hbW).trans (hc 1 _ rfl)
   have hltI : (k : Int) < (G.ands.length : Int) := by omega
   have hbr : b < wr.heap.size := Nat.lt_of_lt_of_le hbW HBr.out.size
   obtain ⟨x, y⟩ := d
   simp only at c0 c1 HAK
   have e2 : IntKind.i64.wrap ((k : Int) + 1) = (k : Int) + 1 := wrapI _ (by omega) (by omega)
   have e3 : IntKind.i64.wrap (F + (k : Int)) = F + (k : Int) := wrapI _ (by omega) (by omega)
   have IX : Hid (∀ w, Calls Try.prog 61 #[.int .i64 x, .int .i64 (F + (k : Int))] w fun e w' => e = .returned (.bool (litOkG (F + k) x)) ∧ w' = w) := fun w => isLiteral_any _ _ (by omega) (by omega) w
   have IY : Hid (∀ w, Calls Try.prog 61 #[.int .i64 y, .int .i64 (F + (k : Int))] w fun e w' => e = .returned (.bool (litOkG (F + k) y)) ∧ w' = w) := fun w => isLiteral_any _ _ (by omega) (by omega) w
   rw [ea]
   clear hd hc hlb ea
   generalize litOkG (F + k) x = bx at *
   generalize litOkG (F + k) y = bY at *
   cases bx
   ·have HF : Hid (r = false) := by
     show _ = _
     rw [HR.out, range_false hlt (by rw [HAK.out]; rfl)]; rfl
    clear HR
    go_wp2_with fail
    generalize hW5 : World.alloc wr _ = w5
    have HB5 : Hid (Below W.heap.size W w5) := by rw [← hW5]; exact HBr.out.alloc HBr.out.size _
    have z0 : w5.cell? ⟨wr.heap.size, 0, none⟩ = some (.int .i64 x) := by rw [← hW5]; simp
    have z1 : w5.cell? ⟨wr.heap.size, 1, none⟩ = some (.int .i64 y) := by rw [← hW5]; simp
    clear hW5 HBr c0 c1
    generalize wr.heap.size = zb at *
    go_at_call 74
    refine (FA.out _ _ (HX.out.to HX.out.lt HB5.out)).mono ?_
    rintro e w9 ⟨rfl, nd9, rfl⟩
    have y0 : (w5.drewN nd9).cell? ⟨zb, 0, none⟩ = some (.int .i64 x) := z0
    have y1 : (w5.drewN nd9).cell? ⟨zb, 1, none⟩ = some (.int .i64 y) := z1
    replace HB5 : Hid (Below W.heap.size W (w5.drewN nd9)) := Below.drewN HB5.out _
    generalize w5.drewN nd9 = w5 at *
    clear z0 z1
    go_wp2_with fail
    go_at_call 61
    refine (IX.out _).mono ?_
    rintro e w2 ⟨rfl, rfl⟩
    go_wp2_with fail
    go_ret
    exact ⟨ret_bool HF.out.symm, HB.out.trans (HB5.out.mono HB.out.size)⟩
   ·cases bY
    ·have HF : Hid (r = false) := by
      show _ = _
      rw [HR.out, range_false hlt (by rw [HAK.out]; rfl)]; rfl
     clear HR
     go_wp2_with fail
     generalize hW5 : World.alloc wr _ = w5
     have HB5 : Hid (Below W.heap.size W w5) := by rw [← hW5]; exact HBr.out.alloc HBr.out.size _
     have z0 : w5.cell? ⟨wr.heap.size, 0, none⟩ = some (.int .i64 x) := by rw [← hW5]; simp
     have z1 : w5.cell? ⟨wr.heap.size, 1, none⟩ = some (.int .i64 y) := by rw [← hW5]; simp
     clear hW5 HBr c0 c1
     generalize wr.heap.size = zb at *
     go_at_call 74
     refine (FA.out _ _ (HX.out.to HX.out.lt HB5.out)).mono ?_
     rintro e w9 ⟨rfl, nd9, rfl⟩
     have y0 : (w5.drewN nd9).cell? ⟨zb, 0, none⟩ = some (.int .i64 x) := z0
     have y1 : (w5.drewN nd9).cell? ⟨zb, 1, none⟩ = some (.int .i64 y) := z1
     replace HB5 : Hid (Below W.heap.size W (w5.drewN nd9)) := Below.drewN HB5.out _
     generalize w5.drewN nd9 = w5 at *
     clear z0 z1
     go_wp2_with fail
     go_at_call 61
     refine (IX.out _).mono ?_
     rintro e w2 ⟨rfl, rfl⟩
     go_wp2_with fail
     go_at_call 61
     refine (IY.out _).mono ?_
     rintro e w6 ⟨rfl, rfl⟩
     go_wp2_with fail
     go_ret
     exact ⟨ret_bool HF.out.symm, HB.out.trans (HB5.out.mono HB.out.size)⟩
    ·have HN1 : Hid ((List.range (k + 1)).all (andOk G) = true) := by
      show _ = _
      rw [range_next, HA.out, HAK.out]; rfl
     go_wp2_with fail
     generalize hW5 : World.alloc wr _ = w5
     have HB5 : Hid (Below W.heap.size W w5) := by rw [← hW5]; exact HBr.out.alloc HBr.out.size _
     have z0 : w5.cell? ⟨wr.heap.size, 0, none⟩ = some (.int .i64 x) := by rw [← hW5]; simp
     have z1 : w5.cell? ⟨wr.heap.size, 1, none⟩ = some (.int .i64 y) := by rw [← hW5]; simp
     clear hW5 HBr c0 c1
     generalize wr.heap.size = zb at *
     go_at_call 74
     refine (FA.out _ _ (HX.out.to HX.out.lt HB5.out)).mono ?_
     rintro e w9 ⟨rfl, nd9, rfl⟩
     have y0 : (w5.drewN nd9).cell? ⟨zb, 0, none⟩ = some (.int .i64 x) := z0
     have y1 : (w5.drewN nd9).cell? ⟨zb, 1, none⟩ = some (.int .i64 y) := z1
     replace HB5 : Hid (Below W.heap.size W (w5.drewN nd9)) := Below.drewN HB5.out _
     generalize w5.drewN nd9 = w5 at *
     clear z0 z1
     go_wp2_with fail
     go_at_call 61
     refine (IX.out _).mono ?_
     rintro e w2 ⟨rfl, rfl⟩
     go_wp2_with fail
     go_at_call 61
     refine (IY.out _).mono ?_
     rintro e w6 ⟨rfl, rfl⟩
     go_wp2_with fail
     go_roundw
     case measure => simp [intOf]; omega
     case rel => exact ⟨k + 1, by omega, by simp, HN1.out, HB5.out⟩
  ·have hge : ¬ ((k : Int) < (G.ands.length : Int)) := by omega
   have HA' : Hid ((List.range G.ands.length).all (andOk G) = true) := by
    have := HA.out
    rwa [show k = G.ands.length by omega] at this
   clear HA
   have IL : Hid (∀ l w, Calls Try.prog 61 #[.int .i64 l, .int .i64 n] w fun e w' => e = .returned (.bool (litOkG n l)) ∧ w' = w) := fun l w => isLiteral_any l n (by omega) (by omega) w
   have p1 : wr.cell? ⟨p, 1, none⟩ = some (.slice S.a1 G.lats.length S.c1) := (HBr.out.cell (p := ⟨p, 1, none⟩) hN).trans HX.out.c1
   have HB3 := hidden HBr.out
   clear HLA
   go_wp2_with fail
   clear p1 HBr
   go_loopw [86] (fun i' w' => ∃ (k : Nat), k ≤ G.lats.length ∧ i' = .int .i64 k ∧ Hid ((G.lats.take k).all (latOk G) = true) ∧ Hid (Below W.heap.size W w')) (fun i' _ => G.lats.length - (intOf i').toNat)
   case atStart => exact ⟨0, Nat.zero_le _, rfl, rfl, HB3.out⟩
   case round =>
    obtain ⟨k2, hk2, rfl, HL, HBr⟩ := hrel
    by_cases hlt2 : k2 < G.lats.length
    ·obtain ⟨d, hd⟩ := getElem_lt hlt2
     obtain ⟨b, o, ea, hlb, hc⟩ := HAW.out.l.el hd
     have HD := hidden hd
     have HXr : Hid (BoxAt wr p S G) := HX.out.to hN HBr.out
     have q1 := HXr.out.c1
     have hbW : b < W.heap.size := Nat.lt_of_lt_of_le hlb hBW
     have c0 : wr.cell? ⟨b, o + k2 * 2, none⟩ = some (.int .i64 d.next) := (HBr.out.cell (p := ⟨b, o + k2 * 2, none⟩) hbW).trans (hc 0 _ rfl)
     have c1 : wr.cell? ⟨b, o + k2 * 2 + 1, none⟩ = some (.bool d.init) := (HBr.out.cell (p := ⟨b, o + k2 * 2 + 1, none⟩) hbW).trans (hc 1 _ rfl)
     have hltI : (k2 : Int) < (G.lats.length : Int) := by omega
     rw [ea]
     clear q1
     have e2 : IntKind.i64.wrap ((k2 : Int) + 1) = (k2 : Int) + 1 := wrapI _ (by omega) (by omega)
     have HLd := hidden (HLL.out d)
     have IX := hidden (IL.out d.next)
     generalize litOkG n d.next = bx at *
     generalize d.next = x at *
     clear hd hc ea hlb
     cases bx
     ·have HF : Hid (r = false) := by
       show _ = _
       rw [HR.out, show G.lats.all (latOk G) = false from List.all_eq_false.2 ⟨_, List.mem_of_getElem? HD.out, by rw [HLd.out]; decide⟩, Bool.and_false]; rfl
      clear HR
      go_upto_region 14 with fail
      generalize hW5 : World.alloc wr _ = w5
      have HB5 : Hid (Below W.heap.size W w5) := by rw [← hW5]; exact HBr.out.alloc HBr.out.size _
      have z0 : w5.cell? ⟨wr.heap.size, 0, none⟩ = some (.int .i64 x) := by rw [← hW5]; simp
      have HX5 : Hid (BoxAt w5 p S G) := HX.out.to hN HB5.out
      clear hW5 c0 c1
      go_quiet (first | (go_at_call 62; exact Calls.quiet_of (VA.out _ _ (HX5.out.to HX5.out.lt (Below.drewN (Below.refl _ _) _)))) | (go_at_call 61; exact Calls.quiet_of_same (IX.out _)))
      go_wp2
      go_ret
      exact ⟨ret_bool HF.out.symm, HB.out.trans ((Below.drewN HB5.out _).mono HB.out.size)⟩
     ·have HN1 : Hid ((G.lats.take (k2 + 1)).all (latOk G) = true) := by
       show _ = _
       rw [all_next _ _ k2 _ HD.out, HL.out, HLd.out]; rfl
      go_upto_region 14 with fail
      generalize hW5 : World.alloc wr _ = w5
      have HB5 : Hid (Below W.heap.size W w5) := by rw [← hW5]; exact HBr.out.alloc HBr.out.size _
      have z0 : w5.cell? ⟨wr.heap.size, 0, none⟩ = some (.int .i64 x) := by rw [← hW5]; simp
      have HX5 : Hid (BoxAt w5 p S G) := HX.out.to hN HB5.out
      clear hW5 c0 c1
      go_quiet (first | (go_at_call 62; exact Calls.quiet_of (VA.out _ _ (HX5.out.to HX5.out.lt (Below.drewN (Below.refl _ _) _)))) | (go_at_call 61; exact Calls.quiet_of_same (IX.out _)))
      go_wp2
      go_roundw
      case measure => simp [intOf]; omega
      case rel => exact ⟨k2 + 1, by omega, by simp, HN1.out, Below.drewN HB5.out _⟩
    ·have hge2 : ¬ ((k2 : Int) < (G.lats.length : Int)) := by omega
     have HL' : Hid (G.lats.all (latOk G) = true) := by
      have := HL.out
      rwa [List.take_of_length_le (by omega)] at this
     clear HL
     have p3 : wr.cell? ⟨p, 3, none⟩ = some (.slice S.a3 G.outs.length S.c3) := (HBr.out.cell (p := ⟨p, 3, none⟩) hN).trans HX.out.c3
     have HB4 := hidden HBr.out
     go_wp2_with fail
     clear p3 HBr
     go_loopw [102] (fun i' w' => ∃ (k : Nat), k ≤ G.outs.length ∧ i' = .int .i64 k ∧ Hid ((G.outs.take k).all (litOkG n) = true) ∧ Hid (Below W.heap.size W w')) (fun i' _ => G.outs.length - (intOf i').toNat)
     case atStart => exact ⟨0, Nat.zero_le _, rfl, rfl, HB4.out⟩
     case round =>
      obtain ⟨k3, hk3, rfl, HO, HBo⟩ := hrel
      by_cases hlt3 : k3 < G.outs.length
      ·obtain ⟨x, hd⟩ := getElem_lt hlt3
       obtain ⟨b, o, ea, hlb, hc⟩ := HAW.out.o.el hd
       have HD := hidden hd
       have HXr : Hid (BoxAt wr p S G) := HX.out.to hN HBo.out
       have hbW : b < W.heap.size := Nat.lt_of_lt_of_le hlb hBW
       have c0 : wr.cell? ⟨b, o + k3, none⟩ = some (.int .i64 x) := (HBo.out.cell (p := ⟨b, o + k3, none⟩) hbW).trans ((congrArg (fun m => W.cell? ⟨b, o + m, none⟩) (Nat.mul_one k3).symm).trans (hc 0 _ rfl))
       have hltI : (k3 : Int) < (G.outs.length : Int) := by omega
       have e2 : IntKind.i64.wrap ((k3 : Int) + 1) = (k3 : Int) + 1 := wrapI _ (by omega) (by omega)
       have IX := hidden (IL.out x)
       have HLx : ∃ bx, Hid (litOkG n x = bx) := ⟨_, rfl⟩
       obtain ⟨bx, HLx⟩ := HLx
       rw [HLx.out] at IX
       rw [ea]
       clear hd hc ea hlb
       cases bx
       ·have HF : Hid (r = false) := by
         show _ = _
         rw [HR.out, show G.outs.all (litOkG n) = false from List.all_eq_false.2 ⟨_, List.mem_of_getElem? HD.out, by rw [HLx.out]; decide⟩, Bool.and_false]
        clear HR
        go_wp2_with fail
        go_at_call 62
        refine (VA.out _ _ HXr.out).mono ?_
        rintro e w2 ⟨rfl, nd3, rfl⟩
        go_wp2_with fail
        go_at_call 61
        refine (IX.out _).mono ?_
        rintro e w2 ⟨rfl, rfl⟩
        go_wp2_with fail
        go_ret
        exact ⟨ret_bool HF.out.symm, HB.out.trans ((Below.drewN HBo.out _).mono HB.out.size)⟩
       ·have HN1 : Hid ((G.outs.take (k3 + 1)).all (litOkG n) = true) := by
         show _ = _
         rw [all_next _ _ k3 _ HD.out, HO.out, HLx.out]; rfl
        go_wp2_with fail
        go_at_call 62
        refine (VA.out _ _ HXr.out).mono ?_
        rintro e w2 ⟨rfl, nd3, rfl⟩
        go_wp2_with fail
        go_at_call 61
        refine (IX.out _).mono ?_
        rintro e w2 ⟨rfl, rfl⟩
        go_wp2_with fail
        go_roundw
        case measure => simp [intOf]; omega
        case rel => exact ⟨k3 + 1, by omega, by simp, HN1.out, Below.drewN HBo.out _⟩
      ·have hge3 : ¬ ((k3 : Int) < (G.outs.length : Int)) := by omega
       have HO' : Hid (G.outs.all (litOkG n) = true) := by
        have := HO.out
        rwa [List.take_of_length_le (by omega)] at this
       have HF : Hid (r = true) := by show _ = _; rw [HR.out, HA'.out, HL'.out, HO'.out]; rfl
       clear HO HR
       go_wp2
       go_ret
       exact ⟨ret_bool HF.out.symm, HB.out.trans (HBo.out.mono HB.out.size)⟩
theorem isValid_any (B : Nat) (w : World) (p : Nat) (S : GrS) (G : GrD) (hX : BoxAt w p S G) (h : GrAt B w S G) (hB : B ≤ w.heap.size) :
  Calls Try.prog 59 #[.pointer (some ⟨p, 0, none⟩)] w fun e w' => e = .returned (.bool (GrOk G)) ∧ Below w.heap.size w w' := by
 by_cases hs : G.small
 ·refine isValid_rest B w p S G hX h hB hs _ ?_
  show _ = _
  unfold GrOk; rw [decide_eq_true hs, Bool.true_and]
 ·have e : GrOk G = false := by unfold GrOk; rw [decide_eq_false hs]; rfl
  rw [e]; exact isValid_small w p S G hX h.ll h.la hs
end Go.Proofs.Ytefjicdhccfieaa
