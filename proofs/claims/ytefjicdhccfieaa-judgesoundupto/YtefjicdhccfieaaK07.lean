import Derived.Test.YtefjicdhccfieaaK01
import Derived.Test.YtefjicdhccfieaaK06
set_option maxRecDepth 100000
set_option maxHeartbeats 16000000
namespace Go.Proofs.Ytefjicdhccfieaa
open Go.RowKit
def pairsOk (n : Int) (prs : List AndD) : Bool := prs.all fun d => litOkG n d.x && litOkG n d.y
theorem areLiterals_any (C : Nat) (w : World) (p : Nat) (S : GrS) (G : GrD) (hX : BoxAt w p S G) (h0 : 0 ≤ G.ins) (h1 : G.ins ≤ 60000) (h2 : G.lats.length < big) (h3 : G.ands.length < big) (hn : G.vars ≤ 1000000) (hn0 : 0 ≤ G.vars) (a : Option Addr) (c : Nat) (prs : List AndD) (R : RowAt C w a 2 (prs.map AndD.cells)) (hC : C ≤ w.heap.size) (hl : prs.length < big) :
  Calls Try.prog 33 #[.pointer (some ⟨p, 0, none⟩), .slice a prs.length c] w fun e w' => e = .returned (.bool (pairsOk G.vars prs)) ∧ Below w.heap.size w w' := by
 have VA : Hid (∀ w p, BoxAt w p S G → Calls Try.prog 62 #[.pointer (some ⟨p, 0, none⟩)] w fun e w' => e = .returned (.int .i64 G.vars) ∧ ∃ n, w' = w.drewN n) := fun w p hb => variables_any w p S G hb h0 h1 h2 h3
 generalize G.vars = n at *
 have IL : Hid (∀ l w, Calls Try.prog 61 #[.int .i64 l, .int .i64 n] w fun e w' => e = .returned (.bool (litOkG n l)) ∧ w' = w) := fun l w => isLiteral_any l n (by omega) (by omega) w
 have HR := hidden R
 have HX := hidden hX
 obtain ⟨r, HRR⟩ : ∃ r, Hid (pairsOk n prs = r) := ⟨_, rfl⟩
 rw [HRR.out]
 simp only [big] at hl
 clear R hX h0 h1 h2 h3
 go_enter Try.func33, Try.ntmps33
 go_wp2_with fail
 go_loopw [9] (fun i' w' => ∃ (k : Nat), k ≤ prs.length ∧ i' = .int .i64 k ∧ Hid (pairsOk n (prs.take k) = true) ∧ Hid (Below w.heap.size w w')) (fun i' _ => prs.length - (intOf i').toNat)
 case atStart => exact ⟨0, Nat.zero_le _, rfl, rfl, Below.refl _ _⟩
 case round =>
  obtain ⟨k, hk, rfl, HA, HBr⟩ := hrel
  by_cases hlt : k < prs.length
  ·obtain ⟨d, hd⟩ := getElem_lt hlt
   obtain ⟨b, o, ea, hlb, hc⟩ := HR.out.el hd
   have HD := hidden hd
   have hbW : b < w.heap.size := Nat.lt_of_lt_of_le hlb hC
   have c0 : wr.cell? ⟨b, o + k * 2, none⟩ = some (.int .i64 d.x) := (HBr.out.cell (p := ⟨b, o + k * 2, none⟩) hbW).trans (hc 0 _ rfl)
   have c1 : wr.cell? ⟨b, o + k * 2 + 1, none⟩ = some (.int .i64 d.y) := (HBr.out.cell (p := ⟨b, o + k * 2 + 1, none⟩) hbW).trans (hc 1 _ rfl)
   have hltI : (k : Int) < (prs.length : Int) := by omega
   have e2 : IntKind.i64.wrap ((k : Int) + 1) = (k : Int) + 1 := wrapI _ (by omega) (by omega)
   have IX := hidden (IL.out d.x)
   have IY := hidden (IL.out d.y)
   have HN0 : Hid (pairsOk n (prs.take (k + 1)) = (litOkG n d.x && litOkG n d.y)) := by
    show _ = _
    unfold pairsOk at HA ⊢
    rw [all_next _ _ k d HD.out, HA.out, Bool.true_and]
   have HFF : Hid ((litOkG n d.x && litOkG n d.y) = false → r = false) := fun hf => by
    rw [← HRR.out]
    exact List.all_eq_false.2 ⟨d, List.mem_of_getElem? HD.out, by rw [hf]; decide⟩
   generalize litOkG n d.x = bx at *
   generalize litOkG n d.y = bY at *
   obtain ⟨x, y⟩ := d
   simp only at c0 c1 IX IY
   rw [ea]
   clear hd hc hlb ea
   go_upto_region 4 with fail
   generalize hW5 : World.alloc wr _ = w5
   have HB5 : Hid (Below w.heap.size w w5) := by rw [← hW5]; exact HBr.out.alloc HBr.out.size _
   have z0 : w5.cell? ⟨wr.heap.size, 0, none⟩ = some (.int .i64 x) := by rw [← hW5]; simp
   have z1 : w5.cell? ⟨wr.heap.size, 1, none⟩ = some (.int .i64 y) := by rw [← hW5]; simp
   have HX5 : Hid (BoxAt w5 p S G) := HX.out.to HX.out.lt HB5.out
   clear hW5 c0 c1
   generalize wr.heap.size = zb at *
   have hzb : zb < w5.heap.size := by
    rcases Nat.lt_or_ge zb w5.heap.size with h | h
    ·exact h
    ·simp [World.cell?, Array.getElem?_eq_none h] at z0
   have K1 : Hid (∀ w', Below w5.heap.size w5 w' → (fun w' => w'.cell? ⟨zb, 0, none⟩ = some (.int .i64 x) ∧ w'.cell? ⟨zb, 1, none⟩ = some (.int .i64 y)) w') := fun w' hb => ⟨(hb.cell (p := ⟨zb, 0, none⟩) hzb).trans z0, (hb.cell (p := ⟨zb, 1, none⟩) hzb).trans z1⟩
   clear z0 z1
   cases bx
   ·have HF := hidden (HFF.out rfl)
    refine wp_region_noPanic ?_
    refine wp_region_held_drew (S := (fun w' => w'.cell? ⟨zb, 0, none⟩ = some (.int .i64 x) ∧ w'.cell? ⟨zb, 1, none⟩ = some (.int .i64 y))) (by kernel_rfl) (by first | assumption | exact K1.out _ (Below.refl _ _) | exact K1.out _ (Below.drew (Below.refl _ _)) | exact K1.out _ (by assumption)) (fun hHeld => ?_)
    refine tk 0 ?_
    refine tk 1 ?_
    refine tk 2 ?_
    refine wpAnyH_ready (rs := [3]) (by kernel_rfl) (by simp) ?_
    refine AllReadyH.cons (o := _) rfl (fun K hK => ?_) AllReadyH.nil
    (try simp only [gA, gB, gC])
    go_simp
    go_at_call 62
    refine (VA.out _ _ (HX5.out.to HX5.out.lt (Below.drew (Below.refl w5.heap.size w5)))).mono ?_
    rintro e v1 ⟨rfl, nd1, hv1⟩
    have hb1 : Below w5.heap.size w5 v1 := by rw [hv1]; exact Below.drewN (Below.drew (Below.refl w5.heap.size w5)) nd1
    clear hv1
    go_wp2_with fail
    refine hK.out _ _ (by first | assumption | exact K1.out _ (Below.refl _ _) | exact K1.out _ (Below.drew (Below.refl _ _)) | exact K1.out _ (by assumption)) (fun hHeld1 => ?_)
    clear hK K
    try simp only [Act.put, sA, sB, sC]
    refine wpAnyH_ready (rs := [4]) (by kernel_rfl) (by simp) ?_
    refine AllReadyH.cons (o := _) rfl (fun K hK => ?_) AllReadyH.nil
    (try simp only [gA, gB, gC])
    go_simp
    go_at_call 61
    refine (IX.out _).mono ?_
    rintro e v9 ⟨rfl, rfl⟩
    go_wp2_with fail
    refine hK.out _ _ (by first | assumption | exact K1.out _ (Below.refl _ _) | exact K1.out _ (Below.drew (Below.refl _ _)) | exact K1.out _ (by assumption)) (fun hHeld2 => ?_)
    clear hK K
    try simp only [Act.put, sA, sB, sC]
    refine tk 5 ?_
    refine tk 6 ?_
    refine tu 7 ?_
    refine tu 8 ?_
    refine tu 9 ?_
    refine tu 10 ?_
    refine tu 11 ?_
    refine tu 12 ?_
    refine tk 13 ?_
    refine wpAnyH_done (by kernel_rfl) ?_ _
    refine NoPanic.normal ?_
    go_wp2
    go_ret
    exact ⟨ret_bool HF.out.symm, HB5.out.trans (hb1.mono HB5.out.size)⟩
   ·cases bY
    ·have HF := hidden (HFF.out rfl)
     refine wp_region_noPanic ?_
     refine wp_region_held_drew (S := (fun w' => w'.cell? ⟨zb, 0, none⟩ = some (.int .i64 x) ∧ w'.cell? ⟨zb, 1, none⟩ = some (.int .i64 y))) (by kernel_rfl) (by first | assumption | exact K1.out _ (Below.refl _ _) | exact K1.out _ (Below.drew (Below.refl _ _)) | exact K1.out _ (by assumption)) (fun hHeld => ?_)
     refine tk 0 ?_
     refine tk 1 ?_
     refine tk 2 ?_
     refine wpAnyH_ready (rs := [3]) (by kernel_rfl) (by simp) ?_
     refine AllReadyH.cons (o := _) rfl (fun K hK => ?_) AllReadyH.nil
     (try simp only [gA, gB, gC])
     go_simp
     go_at_call 62
     refine (VA.out _ _ (HX5.out.to HX5.out.lt (Below.drew (Below.refl w5.heap.size w5)))).mono ?_
     rintro e v1 ⟨rfl, nd1, hv1⟩
     have hb1 : Below w5.heap.size w5 v1 := by rw [hv1]; exact Below.drewN (Below.drew (Below.refl w5.heap.size w5)) nd1
     clear hv1
     go_wp2_with fail
     refine hK.out _ _ (by first | assumption | exact K1.out _ (Below.refl _ _) | exact K1.out _ (Below.drew (Below.refl _ _)) | exact K1.out _ (by assumption)) (fun hHeld1 => ?_)
     clear hK K
     try simp only [Act.put, sA, sB, sC]
     refine wpAnyH_ready (rs := [4]) (by kernel_rfl) (by simp) ?_
     refine AllReadyH.cons (o := _) rfl (fun K hK => ?_) AllReadyH.nil
     (try simp only [gA, gB, gC])
     go_simp
     go_at_call 61
     refine (IX.out _).mono ?_
     rintro e v9 ⟨rfl, rfl⟩
     go_wp2_with fail
     refine hK.out _ _ (by first | assumption | exact K1.out _ (Below.refl _ _) | exact K1.out _ (Below.drew (Below.refl _ _)) | exact K1.out _ (by assumption)) (fun hHeld2 => ?_)
     clear hK K
     try simp only [Act.put, sA, sB, sC]
     refine tk 5 ?_
     refine tk 6 ?_
     refine tk 7 ?_
     refine tk 8 ?_
     refine tk 9 ?_
     refine wpAnyH_ready (rs := [10]) (by kernel_rfl) (by simp) ?_
     refine AllReadyH.cons (o := _) rfl (fun K hK => ?_) AllReadyH.nil
     (try simp only [gA, gB, gC])
     go_simp
     go_at_call 62
     refine (VA.out _ _ (HX5.out.to HX5.out.lt (hb1))).mono ?_
     rintro e v2 ⟨rfl, nd2, hv2⟩
     have hb2 : Below w5.heap.size w5 v2 := by rw [hv2]; exact Below.drewN (hb1) nd2
     clear hv2
     go_wp2_with fail
     refine hK.out _ _ (by first | assumption | exact K1.out _ (Below.refl _ _) | exact K1.out _ (Below.drew (Below.refl _ _)) | exact K1.out _ (by assumption)) (fun hHeld3 => ?_)
     clear hK K
     try simp only [Act.put, sA, sB, sC]
     refine wpAnyH_ready (rs := [11]) (by kernel_rfl) (by simp) ?_
     refine AllReadyH.cons (o := _) rfl (fun K hK => ?_) AllReadyH.nil
     (try simp only [gA, gB, gC])
     go_simp
     go_at_call 61
     refine (IY.out _).mono ?_
     rintro e v9 ⟨rfl, rfl⟩
     go_wp2_with fail
     refine hK.out _ _ (by first | assumption | exact K1.out _ (Below.refl _ _) | exact K1.out _ (Below.drew (Below.refl _ _)) | exact K1.out _ (by assumption)) (fun hHeld4 => ?_)
     clear hK K
     try simp only [Act.put, sA, sB, sC]
     refine tk 12 ?_
     refine tk 13 ?_
     refine wpAnyH_done (by kernel_rfl) ?_ _
     refine NoPanic.normal ?_
     go_wp2
     go_ret
     exact ⟨ret_bool HF.out.symm, HB5.out.trans (hb2.mono HB5.out.size)⟩
    ·skip
     refine wp_region_noPanic ?_
     refine wp_region_held_drew (S := (fun w' => w'.cell? ⟨zb, 0, none⟩ = some (.int .i64 x) ∧ w'.cell? ⟨zb, 1, none⟩ = some (.int .i64 y))) (by kernel_rfl) (by first | assumption | exact K1.out _ (Below.refl _ _) | exact K1.out _ (Below.drew (Below.refl _ _)) | exact K1.out _ (by assumption)) (fun hHeld => ?_)
     refine tk 0 ?_
     refine tk 1 ?_
     refine tk 2 ?_
     refine wpAnyH_ready (rs := [3]) (by kernel_rfl) (by simp) ?_
     refine AllReadyH.cons (o := _) rfl (fun K hK => ?_) AllReadyH.nil
     (try simp only [gA, gB, gC])
     go_simp
     go_at_call 62
     refine (VA.out _ _ (HX5.out.to HX5.out.lt (Below.drew (Below.refl w5.heap.size w5)))).mono ?_
     rintro e v1 ⟨rfl, nd1, hv1⟩
     have hb1 : Below w5.heap.size w5 v1 := by rw [hv1]; exact Below.drewN (Below.drew (Below.refl w5.heap.size w5)) nd1
     clear hv1
     go_wp2_with fail
     refine hK.out _ _ (by first | assumption | exact K1.out _ (Below.refl _ _) | exact K1.out _ (Below.drew (Below.refl _ _)) | exact K1.out _ (by assumption)) (fun hHeld1 => ?_)
     clear hK K
     try simp only [Act.put, sA, sB, sC]
     refine wpAnyH_ready (rs := [4]) (by kernel_rfl) (by simp) ?_
     refine AllReadyH.cons (o := _) rfl (fun K hK => ?_) AllReadyH.nil
     (try simp only [gA, gB, gC])
     go_simp
     go_at_call 61
     refine (IX.out _).mono ?_
     rintro e v9 ⟨rfl, rfl⟩
     go_wp2_with fail
     refine hK.out _ _ (by first | assumption | exact K1.out _ (Below.refl _ _) | exact K1.out _ (Below.drew (Below.refl _ _)) | exact K1.out _ (by assumption)) (fun hHeld2 => ?_)
     clear hK K
     try simp only [Act.put, sA, sB, sC]
     refine tk 5 ?_
     refine tk 6 ?_
     refine tk 7 ?_
     refine tk 8 ?_
     refine tk 9 ?_
     refine wpAnyH_ready (rs := [10]) (by kernel_rfl) (by simp) ?_
     refine AllReadyH.cons (o := _) rfl (fun K hK => ?_) AllReadyH.nil
     (try simp only [gA, gB, gC])
     go_simp
     go_at_call 62
     refine (VA.out _ _ (HX5.out.to HX5.out.lt (hb1))).mono ?_
     rintro e v2 ⟨rfl, nd2, hv2⟩
     have hb2 : Below w5.heap.size w5 v2 := by rw [hv2]; exact Below.drewN (hb1) nd2
     clear hv2
     go_wp2_with fail
     refine hK.out _ _ (by first | assumption | exact K1.out _ (Below.refl _ _) | exact K1.out _ (Below.drew (Below.refl _ _)) | exact K1.out _ (by assumption)) (fun hHeld3 => ?_)
     clear hK K
     try simp only [Act.put, sA, sB, sC]
     refine wpAnyH_ready (rs := [11]) (by kernel_rfl) (by simp) ?_
     refine AllReadyH.cons (o := _) rfl (fun K hK => ?_) AllReadyH.nil
     (try simp only [gA, gB, gC])
     go_simp
     go_at_call 61
     refine (IY.out _).mono ?_
     rintro e v9 ⟨rfl, rfl⟩
     go_wp2_with fail
     refine hK.out _ _ (by first | assumption | exact K1.out _ (Below.refl _ _) | exact K1.out _ (Below.drew (Below.refl _ _)) | exact K1.out _ (by assumption)) (fun hHeld4 => ?_)
     clear hK K
     try simp only [Act.put, sA, sB, sC]
     refine tk 12 ?_
     refine tk 13 ?_
     refine wpAnyH_done (by kernel_rfl) ?_ _
     refine NoPanic.normal ?_
     go_wp2
     go_roundw
     case measure => simp [intOf]; omega
     case rel => exact ⟨k + 1, by omega, by simp, HN0.out, HB5.out.trans (hb2.mono HB5.out.size)⟩
  ·have hge : ¬ ((k : Int) < (prs.length : Int)) := by omega
   have HF : Hid (r = true) := by
    have := HA.out
    rw [List.take_of_length_le (by omega), HRR.out] at this
    exact this
   go_wp2
   go_ret
   exact ⟨ret_bool HF.out.symm, HBr.out⟩
end Go.Proofs.Ytefjicdhccfieaa
