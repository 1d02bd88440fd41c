import Derived.Test.YtefjicdhccfieaaK01
import Derived.Test.YtefjicdhccfieaaK09
set_option maxRecDepth 100000
set_option maxHeartbeats 16000000
namespace Go.Proofs.Ytefjicdhccfieaa
open Go.RowKit
structure JG (C : Nat) (w : World) (gp : Nat) (S : GrS) (G : GrD) : Prop where
 box : BoxAt w gp S G
 gl : gp < C
 at_ : GrAt C w S G
 i0 : 0 ≤ G.ins
 i1 : G.ins ≤ 60000
 l1 : G.lats.length ≤ 20000
 a1 : G.ands.length ≤ 200000
 o1 : G.outs.length ≤ 200000
 andL : ∀ d, d ∈ G.ands → (0 ≤ d.x ∧ d.x ≤ 4000000) ∧ (0 ≤ d.y ∧ d.y ≤ 4000000)
 latL : ∀ d, d ∈ G.lats → 0 ≤ d.next ∧ d.next ≤ 4000000
 outL : ∀ x, x ∈ G.outs → 0 ≤ x ∧ x ≤ 4000000
theorem JG.to {C : Nat} {w w' : World} {gp : Nat} {S : GrS} {G : GrD} (h : JG C w gp S G) (hb : Below C w w') : JG C w' gp S G :=
 ⟨h.box.to h.gl hb, h.gl, h.at_.to hb, h.i0, h.i1, h.l1, h.a1, h.o1, h.andL, h.latL, h.outL⟩
theorem JG.sz {C : Nat} {w : World} {gp : Nat} {S : GrS} {G : GrD} (h : JG C w gp S G) : 0 ≤ G.vars ∧ G.vars ≤ 1000000 := by
 have := h.i0; have := h.i1; have := h.l1; have := h.a1
 unfold GrD.vars GrD.first; omega
theorem JG.fs {C : Nat} {w : World} {gp : Nat} {S : GrS} {G : GrD} (h : JG C w gp S G) : 0 ≤ G.first ∧ G.first ≤ 100000 := by
 have := h.i0; have := h.i1; have := h.l1
 unfold GrD.first; omega
theorem flat_next {α : Type} (f : Nat → List α) (k : Nat) : (List.range (k + 1)).flatMap f = (List.range k).flatMap f ++ f k := by rw [List.range_succ]; simp
theorem flat_len {α : Type} (f : Nat → List α) (n : Nat) (hf : ∀ i, (f i).length ≤ n) (k : Nat) : ((List.range k).flatMap f).length ≤ n * k := by
 induction k with
 | zero => simp
 | succ k ih => rw [flat_next, List.length_append, Nat.mul_succ]; have := hf k; omega
def gateF (sz k : Int) (G : GrD) (i : Nat) : List (List Int) := match G.ands[i]? with
 | some d => [[-(numF sz k (2 * (G.first + i))), numF sz k d.x], [-(numF sz k (2 * (G.first + i))), numF sz k d.y], [numF sz k (2 * (G.first + i)), -(numF sz k d.x), -(numF sz k d.y)]]
 | none => []
theorem gateF_len (sz k : Int) (G : GrD) (i : Nat) : (gateF sz k G i).length ≤ 3 := by unfold gateF; split <;> simp
def frameF (sz k : Int) (G : GrD) : List (List Int) := [[-(numF sz k 0)]] ++ (List.range G.ands.length).flatMap (gateF sz k G)
theorem frame_any (C : Nat) (w : World) (wb gp : Nat) (S : GrS) (G : GrD) (F : List (List Int)) (hW : WF C w wb gp G.vars F) (hJ : JG C w gp S G) (k : Int) (hk : k = 0 ∨ k = 1) (hn : F.length + 1 + 3 * G.ands.length ≤ 16777216) :
  Calls Try.prog 63 #[.pointer (some ⟨wb, 0, none⟩), .int .i64 (k)] w fun e w' => e = .returned (.tuple #[]) ∧ WF C w' wb gp G.vars (F ++ frameF G.vars k G) ∧ Below C w w' := by
 have HJ := hidden hJ
 have HK := hidden hk
 have HSZ := hidden hJ.sz
 have HFS := hidden hJ.fs
 have HW := hidden hW
 have p1 := hW.c1
 have q2 := hJ.box.c2
 have p0 := hW.c0
 have ha1 := hJ.a1
 obtain ⟨an, HAN⟩ : ∃ n, Hid (n = G.ands.length) := ⟨_, rfl⟩
 obtain ⟨fl, HFL⟩ : ∃ n, Hid (n = F.length) := ⟨_, rfl⟩
 rw [← HAN.out] at ha1 hn q2
 rw [← HFL.out] at hn
 obtain ⟨X0, HX0⟩ : ∃ zz, Hid (zz = numF G.vars k 0) := ⟨_, rfl⟩
 have hX0b : -4000000 ≤ X0 ∧ X0 ≤ 4000000 := by rw [HX0.out]; exact numF_le HSZ.out HK.out ⟨by decide, by decide⟩
 have NX0 : Hid (∀ w', w'.cell? ⟨wb, 1, none⟩ = some (.int .i64 G.vars) → Calls Try.prog 77 #[.pointer (some ⟨wb, 0, none⟩), .int .i64 (0), .int .i64 (k)] w' fun e w'' => e = .returned (.int .i64 X0) ∧ w'' = w') := fun w' hc => by rw [HX0.out]; exact number_any w' wb G.vars k 0 hc HSZ.out HK.out ⟨by decide, by decide⟩
 have enX0 : IntKind.i64.wrap (-X0) = -X0 := wrapI _ (by omega) (by omega)
 clear hW hJ hk
 go_enter Try.func63, Try.ntmps63
 go_wp2_with fail
 go_at_call 77
 refine (NX0.out _ (p1)).mono ?_
 rintro e v9 ⟨rfl, hv9⟩
 rw [hv9]
 clear hv9 v9
 go_wp2_with fail
 go_at_call 76
 refine (say1 C _ wb gp G.vars _ HW.out (-X0) (by have := HFL.out; omega)).mono ?_
 rintro e w1 ⟨rfl, hf_w1, hb_w1⟩
 have HF_w1 := hidden hf_w1
 have HB_w1 := hidden hb_w1
 clear hf_w1 hb_w1
 have g0 := HF_w1.out.c0
 have g2 := (HJ.out.to HB_w1.out).box.c2
 rw [← HAN.out] at g2
 clear p0 p1 q2
 go_wp2_with fail
 clear g0 g2
 obtain ⟨fi, HFI⟩ : ∃ x, Hid (x = G.first) := ⟨_, rfl⟩
 have hfi : 0 ≤ fi ∧ fi ≤ 100000 := by rw [HFI.out]; exact HFS.out
 go_loopw [24] (fun i' w' => ∃ (i : Nat), i ≤ an ∧ i' = .int .i64 i ∧ Hid (WF C w' wb gp G.vars (F ++ [[-X0]] ++ (List.range i).flatMap (gateF G.vars k G))) ∧ Hid (Below C w w')) (fun i' _ => an - (intOf i').toNat)
 case atStart => exact ⟨0, Nat.zero_le _, rfl, by show WF _ _ _ _ _ _; simpa using HF_w1.out, HB_w1.out⟩
 case round =>
  obtain ⟨i, hi, rfl, HFk, HBk⟩ := hrel
  by_cases hlt : i < an
  ·have hltI : (i : Int) < (an : Int) := by omega
   obtain ⟨d, hd⟩ := getElem_lt (show i < G.ands.length by have := HAN.out; omega)
   obtain ⟨b, o, ea, hlb, hc⟩ := (HJ.out.to HBk.out).at_.a.el hd
   have c0 : wr.cell? ⟨b, o + i * 2, none⟩ = some (.int .i64 d.x) := hc 0 _ rfl
   have c1 : wr.cell? ⟨b, o + i * 2 + 1, none⟩ = some (.int .i64 d.y) := hc 1 _ rfl
   have hdl := HJ.out.andL d (List.mem_of_getElem? hd)
   have HGF : Hid (gateF G.vars k G i = [[-(numF G.vars k (2 * (G.first + i))), numF G.vars k d.x], [-(numF G.vars k (2 * (G.first + i))), numF G.vars k d.y], [numF G.vars k (2 * (G.first + i)), -(numF G.vars k d.x), -(numF G.vars k d.y)]]) := by show _ = _; unfold gateF; rw [hd]
   rw [← HFI.out] at HGF
   obtain ⟨x, y⟩ := d
   dsimp only at c0 c1 hdl HGF
   have hl0 : 0 ≤ 2 * (fi + (i : Int)) ∧ 2 * (fi + (i : Int)) ≤ 4000000 := by omega
   obtain ⟨X, HX⟩ : ∃ zz, Hid (zz = numF G.vars k (2 * (fi + (i : Int)))) := ⟨_, rfl⟩
   have hXb : -4000000 ≤ X ∧ X ≤ 4000000 := by rw [HX.out]; exact numF_le HSZ.out HK.out hl0
   have NX : Hid (∀ w', w'.cell? ⟨wb, 1, none⟩ = some (.int .i64 G.vars) → Calls Try.prog 77 #[.pointer (some ⟨wb, 0, none⟩), .int .i64 ((2 * (fi + (i : Int)))), .int .i64 (k)] w' fun e w'' => e = .returned (.int .i64 X) ∧ w'' = w') := fun w' hc => by rw [HX.out]; exact number_any w' wb G.vars k (2 * (fi + (i : Int))) hc HSZ.out HK.out hl0
   have enX : IntKind.i64.wrap (-X) = -X := wrapI _ (by omega) (by omega)
   obtain ⟨Y, HY⟩ : ∃ zz, Hid (zz = numF G.vars k x) := ⟨_, rfl⟩
   have hYb : -4000000 ≤ Y ∧ Y ≤ 4000000 := by rw [HY.out]; exact numF_le HSZ.out HK.out hdl.1
   have NY : Hid (∀ w', w'.cell? ⟨wb, 1, none⟩ = some (.int .i64 G.vars) → Calls Try.prog 77 #[.pointer (some ⟨wb, 0, none⟩), .int .i64 (x), .int .i64 (k)] w' fun e w'' => e = .returned (.int .i64 Y) ∧ w'' = w') := fun w' hc => by rw [HY.out]; exact number_any w' wb G.vars k x hc HSZ.out HK.out hdl.1
   have enY : IntKind.i64.wrap (-Y) = -Y := wrapI _ (by omega) (by omega)
   obtain ⟨Z, HZ⟩ : ∃ zz, Hid (zz = numF G.vars k y) := ⟨_, rfl⟩
   have hZb : -4000000 ≤ Z ∧ Z ≤ 4000000 := by rw [HZ.out]; exact numF_le HSZ.out HK.out hdl.2
   have NZ : Hid (∀ w', w'.cell? ⟨wb, 1, none⟩ = some (.int .i64 G.vars) → Calls Try.prog 77 #[.pointer (some ⟨wb, 0, none⟩), .int .i64 (y), .int .i64 (k)] w' fun e w'' => e = .returned (.int .i64 Z) ∧ w'' = w') := fun w' hc => by rw [HZ.out]; exact number_any w' wb G.vars k y hc HSZ.out HK.out hdl.2
   have enZ : IntKind.i64.wrap (-Z) = -Z := wrapI _ (by omega) (by omega)
   rw [← HX.out, ← HY.out, ← HZ.out] at HGF
   have HLEN : Hid ((F ++ [[-X0]] ++ (List.range i).flatMap (gateF G.vars k G)).length ≤ fl + 1 + 3 * i) := by
    have := flat_len (gateF G.vars k G) 3 (gateF_len _ _ _) i
    have := HFL.out
    simp only [List.length_append, List.length_cons, List.length_nil]
    show _ ≤ _
    omega
   have e1 : IntKind.i64.wrap (fi + (i : Int)) = fi + (i : Int) := wrapI _ (by omega) (by omega)
   have e2 : IntKind.i64.wrap (2 * (fi + (i : Int))) = 2 * (fi + (i : Int)) := wrapI _ (by omega) (by omega)
   have e3 : IntKind.i64.wrap ((i : Int) + 1) = (i : Int) + 1 := wrapI _ (by omega) (by omega)
   rw [ea]
   clear hd hc hlb ea hdl
   go_upto_region 4 with fail
   generalize hW5 : World.alloc wr _ = w5
   have HB5 : Hid (Below wr.heap.size wr w5) := by rw [← hW5]; exact (Below.refl _ _).alloc (Nat.le_refl _) _
   have z0 : w5.cell? ⟨wr.heap.size, 0, none⟩ = some (.int .i64 x) := by rw [← hW5]; exact cell_of_row _ _ 0 _ _ (0, 0) (heap_new _ _)
   have z1 : w5.cell? ⟨wr.heap.size, 1, none⟩ = some (.int .i64 y) := by rw [← hW5]; exact cell_of_row _ _ 1 _ _ (0, 0) (heap_new _ _)
   have hzb : wr.heap.size < w5.heap.size := by rw [← hW5]; simp
   have HCr : Hid (C ≤ wr.heap.size) := HFk.out.size
   have HF5 := hidden (HFk.out.rest HB5.out)
   have HJ5 := hidden (HJ.out.to (HBk.out.trans (HB5.out.mono HCr.out)))
   have HBw5 : Hid (Below C w w5) := HBk.out.trans (HB5.out.mono HCr.out)
   clear hW5 c0 c1
   obtain ⟨zb, HZB⟩ : ∃ z, Hid (z = wr.heap.size) := ⟨_, rfl⟩
   rw [← HZB.out] at z0 z1 hzb ⊢
   have p0 := HF5.out.c0
   have p1 : Hid (∀ w', Below w5.heap.size w5 w' → w'.cell? ⟨wb, 1, none⟩ = some (.int .i64 G.vars)) := fun w' hb => (HF5.out.rest hb).c1
   have FA : Hid (∀ w', Below w5.heap.size w5 w' → Calls Try.prog 74 #[.pointer (some ⟨gp, 0, none⟩)] w' fun e w'' => e = .returned (.int .i64 fi) ∧ ∃ n, w'' = w'.drewN n) := fun w' hb => by
    have hj := HJ5.out.to (hb.mono (Nat.le_trans HCr.out HB5.out.size))
    rw [HFI.out]; exact firstGate_any w' gp S G hj.box hj.i0 hj.i1 hj.at_.ll
   have K1 : Hid (∀ w', Below w5.heap.size w5 w' → (fun w' => w'.cell? ⟨wb, 0, none⟩ = some (.pointer (some ⟨gp, 0, none⟩)) ∧ w'.cell? ⟨zb, 0, none⟩ = some (.int .i64 x) ∧ w'.cell? ⟨zb, 1, none⟩ = some (.int .i64 y)) w') := fun w' hb => ⟨(HF5.out.rest hb).c0, (hb.cell (p := ⟨zb, 0, none⟩) hzb).trans z0, (hb.cell (p := ⟨zb, 1, none⟩) hzb).trans z1⟩
   clear z0 z1 p0
   refine wp_region_noPanic ?_
   refine wp_region_held_drew (S := (fun w' => w'.cell? ⟨wb, 0, none⟩ = some (.pointer (some ⟨gp, 0, none⟩)) ∧ w'.cell? ⟨zb, 0, none⟩ = some (.int .i64 x) ∧ w'.cell? ⟨zb, 1, none⟩ = some (.int .i64 y))) (by kernel_rfl) (by first | assumption | exact K1.out _ (Below.refl _ _) | exact K1.out _ (Below.drew (Below.refl _ _)) | exact K1.out _ (by assumption)) (fun hHeld => ?_)
   refine tk 0 ?_
   refine tk 1 ?_
   refine tk 2 ?_
   refine tk 3 ?_
   refine tk 4 ?_
   refine tk 6 ?_
   refine tk 9 ?_
   refine tk 11 ?_
   refine tk 12 ?_
   refine tk 13 ?_
   refine tk 14 ?_
   refine tk 16 ?_
   refine tk 17 ?_
   refine tk 18 ?_
   refine tk 19 ?_
   refine wpAnyH_ready (rs := [5]) (by kernel_rfl) (by simp) ?_
   refine AllReadyH.cons (o := _) rfl (fun K hK => ?_) AllReadyH.nil
   (try simp only [gA, gB, gC])
   go_simp
   go_at_call 74
   refine (FA.out _ (Below.drew (Below.refl w5.heap.size w5))).mono ?_
   rintro e v1 ⟨rfl, nd1, hv1⟩
   have hb1 : Below w5.heap.size w5 v1 := by rw [hv1]; exact Below.drewN (Below.drew (Below.refl w5.heap.size w5)) nd1
   clear hv1
   go_wp2_with fail
   refine hK.out _ _ (by first | assumption | exact K1.out _ (Below.refl _ _) | exact K1.out _ (Below.drew (Below.refl _ _)) | exact K1.out _ (by assumption)) (fun hHeld1 => ?_)
   clear hK K
   try simp only [Act.put, sA, sB, sC]
   refine tk 7 ?_
   refine tk 8 ?_
   refine wpAnyH_ready (rs := [10]) (by kernel_rfl) (by simp) ?_
   refine AllReadyH.cons (o := _) rfl (fun K hK => ?_) AllReadyH.nil
   (try simp only [gA, gB, gC])
   go_simp
   go_at_call 77
   refine (NX.out _ (p1.out _ hb1)).mono ?_
   rintro e v9 ⟨rfl, hv9⟩
   rw [hv9]
   clear hv9 v9
   go_wp2_with fail
   refine hK.out _ _ (by first | assumption | exact K1.out _ (Below.refl _ _) | exact K1.out _ (Below.drew (Below.refl _ _)) | exact K1.out _ (by assumption)) (fun hHeld2 => ?_)
   clear hK K
   try simp only [Act.put, sA, sB, sC]
   refine wpAnyH_ready (rs := [15]) (by kernel_rfl) (by simp) ?_
   refine AllReadyH.cons (o := _) rfl (fun K hK => ?_) AllReadyH.nil
   (try simp only [gA, gB, gC])
   go_simp
   go_at_call 77
   refine (NY.out _ (p1.out _ hb1)).mono ?_
   rintro e v9 ⟨rfl, hv9⟩
   rw [hv9]
   clear hv9 v9
   go_wp2_with fail
   refine hK.out _ _ (by first | assumption | exact K1.out _ (Below.refl _ _) | exact K1.out _ (Below.drew (Below.refl _ _)) | exact K1.out _ (by assumption)) (fun hHeld3 => ?_)
   clear hK K
   try simp only [Act.put, sA, sB, sC]
   refine wpAnyH_ready (rs := [20]) (by kernel_rfl) (by simp) ?_
   refine AllReadyH.cons (o := _) rfl (fun K hK => ?_) AllReadyH.nil
   (try simp only [gA, gB, gC])
   go_simp
   go_at_call 77
   refine (NZ.out _ (p1.out _ hb1)).mono ?_
   rintro e v9 ⟨rfl, hv9⟩
   rw [hv9]
   clear hv9 v9
   go_wp2_with fail
   refine hK.out _ _ (by first | assumption | exact K1.out _ (Below.refl _ _) | exact K1.out _ (Below.drew (Below.refl _ _)) | exact K1.out _ (by assumption)) (fun hHeld4 => ?_)
   clear hK K
   try simp only [Act.put, sA, sB, sC]
   refine tk 21 ?_
   refine tk 22 ?_
   refine tk 23 ?_
   refine wpAnyH_done (by kernel_rfl) ?_ _
   refine NoPanic.normal ?_
   try clear hHeld
   try clear hHeld1
   try clear hHeld2
   try clear hHeld3
   try clear hHeld4
   have HFv := hidden (HF5.out.rest hb1)
   have HBv : Hid (Below C w v1) := HBw5.out.trans (hb1.mono (Nat.le_trans HCr.out HB5.out.size))
   clear K1 FA hb1 HF5 HJ5 HBw5 HFk
   go_wp2_with fail
   go_at_call 76
   refine (say2 C _ wb gp G.vars _ HFv.out (-X) (Y) (by have := HLEN.out; omega)).mono ?_
   rintro e w6 ⟨rfl, hf_w6, hb_w6⟩
   have HF_w6 := hidden hf_w6
   have HB_w6 := hidden hb_w6
   clear hf_w6 hb_w6
   go_wp2_with fail
   go_at_call 76
   refine (say2 C _ wb gp G.vars _ HF_w6.out (-X) (Z) (by have := HLEN.out; rw [List.length_append, List.length_cons, List.length_nil]; omega)).mono ?_
   rintro e w7 ⟨rfl, hf_w7, hb_w7⟩
   have HF_w7 := hidden hf_w7
   have HB_w7 := hidden hb_w7
   clear hf_w7 hb_w7
   go_wp2_with fail
   go_at_call 76
   refine (say3 C _ wb gp G.vars _ HF_w7.out (X) (-Y) (-Z) (by have := HLEN.out; rw [List.length_append, List.length_append, List.length_cons, List.length_nil, List.length_cons, List.length_nil]; omega)).mono ?_
   rintro e w8 ⟨rfl, hf_w8, hb_w8⟩
   have HF_w8 := hidden hf_w8
   have HB_w8 := hidden hb_w8
   clear hf_w8 hb_w8
   have HF8 : Hid (WF C w8 wb gp G.vars (F ++ [[-X0]] ++ (List.range (i + 1)).flatMap (gateF G.vars k G))) := by
    have := HF_w8.out
    show WF _ _ _ _ _ _
    rw [flat_next, HGF.out]
    simpa using this
   have HB8 : Hid (Below C w w8) := ((HBv.out.trans HB_w6.out).trans HB_w7.out).trans HB_w8.out
   clear HFv HBv HF_w6 HF_w7 HF_w8 HB_w6 HB_w7 HB_w8
   go_wp2
   go_roundw
   case measure => simp [intOf]; omega
   case rel => exact ⟨i + 1, by omega, by simp, HF8.out, HB8.out⟩
  ·have hge : ¬ ((i : Int) < (an : Int)) := by omega
   have HX : Hid (WF C wr wb gp G.vars (F ++ frameF G.vars k G) ∧ Below C w wr) := by
    refine ⟨?_, HBk.out⟩
    have := HFk.out
    rw [show i = G.ands.length by have := HAN.out; omega, HX0.out] at this
    unfold frameF
    rw [← List.append_assoc]; exact this
   go_wp2
   go_end0
   exact ⟨rfl, HX.out⟩
end Go.Proofs.Ytefjicdhccfieaa
