import Derived.Test.YtefjicdhccfieaaJ01
import Derived.Test.YtefjicdhccfieaaJ18
import Derived.Test.YtefjicdhccfieaaJ19
import Derived.Test.YtefjicdhccfieaaJ10
set_option maxRecDepth 100000
set_option maxHeartbeats 16000000
namespace Go.Proofs.Ytefjicdhccfieaa
open Go.RowKit
theorem alike_ok {A B : GrD} (h : AlikeG A B = true) : GrOk A = true ∧ GrOk B = true ∧ A.ins = B.ins ∧ A.outs.length = B.outs.length := by
 unfold AlikeG at h
 rw [Bool.and_eq_true, Bool.and_eq_true, Bool.and_eq_true] at h
 obtain ⟨⟨⟨h1, h2⟩, h3⟩, h4⟩ := h
 refine ⟨h1, h2, of_decide_eq_true h3, ?_⟩
 have := of_decide_eq_true h4
 omega
structure JnB (G : GrD) : Prop where
 i0 : 0 ≤ G.ins
 i1 : G.ins ≤ 60000
 l1 : G.lats.length ≤ 20000
 a1 : G.ands.length ≤ 200000
 o1 : G.outs.length ≤ 200000
 andL : ∀ d, d ∈ G.ands → (0 ≤ d.x ∧ d.x ≤ 4000000) ∧ (0 ≤ d.y ∧ d.y ≤ 4000000)
 latL : ∀ d, d ∈ G.lats → 0 ≤ d.next ∧ d.next ≤ 4000000
 outL : ∀ x, x ∈ G.outs → 0 ≤ x ∧ x ≤ 4000000
theorem join_bounds {A B : GrD} (okA : OkB A) (okB : OkB B) : JnB (joinG A B) := by
 have hl : ((joinG A B).lats.length = A.lats.length + B.lats.length) ∧ ((joinG A B).ands.length = A.ands.length + B.ands.length) ∧ ((joinG A B).outs.length = A.outs.length + B.outs.length) := by
  obtain ⟨t1, t2, t3⟩ := takeG_lens (takeG ⟨A.ins, [], [], []⟩ A 0 B.lats.length) B A.lats.length (A.lats.length + A.ands.length)
  obtain ⟨q1, q2, q3⟩ := takeG_lens ⟨A.ins, [], [], []⟩ A 0 B.lats.length
  exact ⟨by show (takeG _ _ _ _).lats.length = _; rw [t1, q1]; simp, by show (takeG _ _ _ _).ands.length = _; rw [t2, q2]; simp, by show (takeG _ _ _ _).outs.length = _; rw [t3, q3]; simp⟩
 have a1 := okA.l1; have a2 := okA.a1; have a3 := okA.o1; have b1 := okB.l1; have b2 := okB.a1; have b3 := okB.o1
 have f1 : (0 : Int) ≤ 0 ∧ (0 : Int) ≤ 100000 := by omega
 have f2 : (0 : Int) ≤ B.lats.length ∧ (B.lats.length : Int) ≤ 100000 := by omega
 have f3 : (0 : Int) ≤ A.lats.length ∧ (A.lats.length : Int) ≤ 100000 := by omega
 have f4 : (0 : Int) ≤ (A.lats.length : Int) + A.ands.length ∧ (A.lats.length : Int) + A.ands.length ≤ 100000 := by omega
 refine ⟨okA.i0, okA.i1, by rw [hl.1]; omega, by rw [hl.2.1]; omega, by rw [hl.2.2]; omega, fun d hd => ?_, fun d hd => ?_, fun x hx => ?_⟩
 ·have hd' : d ∈ ([] ++ A.ands.map (mvA A 0 B.lats.length)) ++ B.ands.map (mvA B A.lats.length (A.lats.length + A.ands.length)) := hd
  rcases List.mem_append.1 hd' with h | h
  ·obtain ⟨c, hc, rfl⟩ := List.mem_map.1 (by simpa using h)
   exact ⟨mvF_le (okA.andL c hc).1 f1 f2, mvF_le (okA.andL c hc).2 f1 f2⟩
  ·obtain ⟨c, hc, rfl⟩ := List.mem_map.1 h
   exact ⟨mvF_le (okB.andL c hc).1 f3 f4, mvF_le (okB.andL c hc).2 f3 f4⟩
 ·have hd' : d ∈ ([] ++ A.lats.map (mvL A 0 B.lats.length)) ++ B.lats.map (mvL B A.lats.length (A.lats.length + A.ands.length)) := hd
  rcases List.mem_append.1 hd' with h | h
  ·obtain ⟨c, hc, rfl⟩ := List.mem_map.1 (by simpa using h)
   exact mvF_le (okA.latL c hc) f1 f2
  ·obtain ⟨c, hc, rfl⟩ := List.mem_map.1 h
   exact mvF_le (okB.latL c hc) f3 f4
 ·have hd' : x ∈ ([] ++ A.outs.map (mvF A 0 B.lats.length)) ++ B.outs.map (mvF B A.lats.length (A.lats.length + A.ands.length)) := hx
  rcases List.mem_append.1 hd' with h | h
  ·obtain ⟨c, hc, rfl⟩ := List.mem_map.1 (by simpa using h)
   exact mvF_le (okA.outL c hc) f1 f2
  ·obtain ⟨c, hc, rfl⟩ := List.mem_map.1 h
   exact mvF_le (okB.outL c hc) f3 f4
theorem pairs_le {n : Int} {prs : List AndD} (h : pairsOk n prs = true) (hn : n ≤ 1000000) : ∀ d, d ∈ prs → (0 ≤ d.x ∧ d.x ≤ 4000000) ∧ (0 ≤ d.y ∧ d.y ≤ 4000000) := fun d hd => by
 have := List.all_eq_true.1 h d hd
 rw [Bool.and_eq_true] at this
 have q1 := of_decide_eq_true this.1
 have q2 := of_decide_eq_true this.2
 omega
theorem JnB.vs {G : GrD} (h : JnB G) : 0 ≤ G.vars ∧ G.vars ≤ 1000000 := by
 have := h.i0; have := h.i1; have := h.l1; have := h.a1
 have e : G.vars = 1 + G.ins + G.lats.length + G.ands.length := rfl
 omega
end Go.Proofs.Ytefjicdhccfieaa

set_option maxRecDepth 100000
set_option maxHeartbeats 16000000
namespace Go.Proofs.Ytefjicdhccfieaa
open Go.RowKit
theorem same_doc (C : Nat) (w : World) (mb : Nat) (S : GrS) (G : GrD) (vv : Int) (F : List (List Int)) (hW : MFP C w mb S G vv F []) (hj : JnB G) (pa : Option Addr) (pc : Nat) (prs : List AndD) (R : RowAt C w pa 2 (prs.map AndD.cells)) (hpl : ∀ d, d ∈ prs → (0 ≤ d.x ∧ d.x ≤ 4000000) ∧ (0 ≤ d.y ∧ d.y ≤ 4000000)) (k : Int) (hk : k = 0 ∨ k = 1) (hn : F.length + 2 * prs.length ≤ 16777216) :
  Calls Try.prog 57 #[.pointer (some ⟨mb, 0, none⟩), .int .i64 k, .slice pa prs.length pc] w fun e w' => e = .returned (.tuple #[]) ∧ MFP C w' mb S G vv (F ++ (List.range prs.length).flatMap (alikeF G.vars k prs)) [] ∧ Below C w w' := by
 have HW := hidden hW
 have HJ := hidden hj
 have HR := hidden R
 have HPL := hidden hpl
 have HK := hidden hk
 have hCw := hW.size
 obtain ⟨an, HAN⟩ : ∃ n, Hid (n = prs.length) := ⟨_, rfl⟩
 obtain ⟨fl, HFL⟩ : ∃ n, Hid (n = F.length) := ⟨_, rfl⟩
 rw [← HAN.out, ← HFL.out] at hn
 rw [← HAN.out]
 clear hW hj R hpl hk
 go_enter Try.func57, Try.ntmps57
 go_wp2_with fail
 go_loopw [6] (fun i' w' => ∃ (i : Nat), i ≤ an ∧ i' = .int .i64 i ∧ Hid (MFP C w' mb S G vv (F ++ (List.range i).flatMap (alikeF G.vars k prs)) []) ∧ Hid (Below C w w')) (fun i' _ => an - (intOf i').toNat)
 case atStart => exact ⟨0, Nat.zero_le _, rfl, by show MFP _ _ _ _ _ _ _ _; simpa using HW.out, Below.refl _ _⟩
 case round =>
  obtain ⟨i, hi, rfl, HM0, HQ0⟩ := hrel
  by_cases hlt : i < an
  ·have hltI : (i : Int) < (an : Int) := by omega
   obtain ⟨d, hd⟩ := getElem_lt (show i < prs.length by have := HAN.out; omega)
   obtain ⟨b, o, ea, hlb, hc⟩ := (HR.out.to HQ0.out).el hd
   have c0 : wr.cell? ⟨b, o + i * 2, none⟩ = some (.int .i64 d.x) := hc 0 _ rfl
   have HC1 : Hid (∀ w', Below C wr w' → w'.cell? ⟨b, o + i * 2 + 1, none⟩ = some (.int .i64 d.y)) := fun w' hb => (hb.cell (p := ⟨b, o + i * 2 + 1, none⟩) hlb).trans (hc 1 _ rfl)
   have hdl := HPL.out d (List.mem_of_getElem? hd)
   have HGF : Hid (alikeF G.vars k prs i = [[-(numF G.vars k d.x), numF G.vars k d.y], [numF G.vars k d.x, -(numF G.vars k d.y)]]) := by show _ = _; unfold alikeF; rw [hd]
   obtain ⟨x, y⟩ := d
   dsimp only at c0 HC1 HGF hdl
   obtain ⟨X, HX⟩ : ∃ zz, Hid (zz = numF G.vars k (x)) := ⟨_, rfl⟩
   have hXb : -4000000 ≤ X ∧ X ≤ 4000000 := by rw [HX.out]; exact numF_le HJ.out.vs HK.out hdl.1
   have NX : Hid (∀ w', BoxAt w' mb S G → Calls Try.prog 55 #[.pointer (some ⟨mb, 0, none⟩), .int .i64 k, .int .i64 (x)] w' fun e w'' => e = .returned (.int .i64 X) ∧ Below w'.heap.size w' w'') := fun w' hc => by rw [HX.out]; exact at_doc w' mb S G hc HJ.out.i0 HJ.out.i1 (by have := HJ.out.l1; simp only [big]; omega) (by have := HJ.out.a1; simp only [big]; omega) HJ.out.vs k (x) HK.out hdl.1
   have enX : IntKind.i64.wrap (-X) = -X := wrapI _ (by omega) (by omega)
   obtain ⟨Y, HY⟩ : ∃ zz, Hid (zz = numF G.vars k (y)) := ⟨_, rfl⟩
   have hYb : -4000000 ≤ Y ∧ Y ≤ 4000000 := by rw [HY.out]; exact numF_le HJ.out.vs HK.out hdl.2
   have NY : Hid (∀ w', BoxAt w' mb S G → Calls Try.prog 55 #[.pointer (some ⟨mb, 0, none⟩), .int .i64 k, .int .i64 (y)] w' fun e w'' => e = .returned (.int .i64 Y) ∧ Below w'.heap.size w' w'') := fun w' hc => by rw [HY.out]; exact at_doc w' mb S G hc HJ.out.i0 HJ.out.i1 (by have := HJ.out.l1; simp only [big]; omega) (by have := HJ.out.a1; simp only [big]; omega) HJ.out.vs k (y) HK.out hdl.2
   have enY : IntKind.i64.wrap (-Y) = -Y := wrapI _ (by omega) (by omega)
   rw [← HX.out, ← HY.out] at HGF
   have HLEN : Hid ((F ++ (List.range i).flatMap (alikeF G.vars k prs)).length ≤ fl + 2 * i) := by
    have := flat_len (alikeF G.vars k prs) 2 (fun _ => alike_any_len ..) i
    have := HFL.out
    simp only [List.length_append]
    show _ ≤ _
    omega
   have e3 : IntKind.i64.wrap ((i : Int) + 1) = (i : Int) + 1 := wrapI _ (by omega) (by omega)
   rw [ea]
   clear hd hc hlb ea
   obtain ⟨FF, HFF⟩ : ∃ z, Hid (z = (F ++ (List.range i).flatMap (alikeF G.vars k prs))) := ⟨_, rfl⟩
   rw [← HFF.out] at HM0 HLEN
   go_wp2_with fail
   go_at_call 55
   refine (NX.out _ HM0.out.boxAt).mono ?_
   rintro e v1 ⟨rfl, hbx1⟩
   have HM1 := hidden (HM0.out.rest hbx1)
   have HQ1 : Hid (Below C w v1) := HQ0.out.trans (hbx1.mono HM0.out.size)
   have c1 := HC1.out _ (hbx1.mono HM0.out.size)
   clear c0 hbx1
   go_wp2_with fail
   go_at_call 55
   refine (NY.out _ HM1.out.boxAt).mono ?_
   rintro e v2 ⟨rfl, hbx2⟩
   have HM2 := hidden (HM1.out.rest hbx2)
   have HQ2 : Hid (Below C w v2) := HQ1.out.trans (hbx2.mono HM1.out.size)
   clear c1 hbx2
   go_wp2_with fail
   go_at_call 54
   refine (put2 C _ mb S G vv _ [] HM2.out (-X) (Y) (by have := HLEN.out; omega)).mono ?_
   rintro e v3 ⟨rfl, hmx3, hbx3, -⟩
   have HM3 := hidden hmx3
   have HQ3 : Hid (Below C w v3) := HQ2.out.trans hbx3
   clear hmx3 hbx3
   go_wp2_with fail
   go_at_call 54
   refine (put2 C _ mb S G vv _ [] HM3.out (X) (-Y) (by have := HLEN.out; simp only [List.length_append, List.length_cons, List.length_nil]; omega)).mono ?_
   rintro e v4 ⟨rfl, hmx4, hbx4, -⟩
   have HM4 := hidden hmx4
   have HQ4 : Hid (Below C w v4) := HQ3.out.trans hbx4
   clear hmx4 hbx4
   have HM9 : Hid (MFP C v4 mb S G vv (F ++ (List.range (i + 1)).flatMap (alikeF G.vars k prs)) []) := by
    have := HM4.out
    rw [HFF.out] at this
    show MFP _ _ _ _ _ _ _ _
    rw [List.range_succ, List.flatMap_append, ← List.append_assoc, List.flatMap_singleton, HGF.out]
    simpa using this
   clear HM4 HM0 HM1 HM2 HM3
   go_wp2
   go_roundw
   case measure => simp [intOf]; omega
   case rel => exact ⟨i + 1, by omega, by simp, HM9.out, HQ4.out⟩
  ·have hge : ¬ ((i : Int) < (an : Int)) := by omega
   have HME : Hid (MFP C wr mb S G vv (F ++ (List.range an).flatMap (alikeF G.vars k prs)) []) := by rw [show an = i by omega]; exact HM0.out
   clear HM0
   go_wp2
   go_end0
   exact ⟨rfl, HME.out, HQ0.out⟩
end Go.Proofs.Ytefjicdhccfieaa

set_option maxRecDepth 100000
set_option maxHeartbeats 16000000
namespace Go.Proofs.Ytefjicdhccfieaa
open Go.RowKit
theorem frame_doc (C : Nat) (w : World) (mb : Nat) (S : GrS) (G : GrD) (vv : Int) (F : List (List Int)) (hW : MFP C w mb S G vv F []) (hj : JnB G) (hat : GrAt C w S G) (k : Int) (hk : k = 0 ∨ k = 1) (hn : F.length + 1 + 3 * G.ands.length ≤ 16777216) :
  Calls Try.prog 53 #[.pointer (some ⟨mb, 0, none⟩), .int .i64 k] w fun e w' => e = .returned (.tuple #[]) ∧ MFP C w' mb S G vv (F ++ frameF G.vars k G) [] ∧ Below C w w' := by
 have HM0 := hidden hW
 have HJ := hidden hj
 have HGA := hidden hat
 have HK := hidden hk
 have hCw := hW.size
 have HQ0 : Hid (Below C w w) := Below.refl _ _
 obtain ⟨an, HAN⟩ : ∃ n, Hid (n = G.ands.length) := ⟨_, rfl⟩
 obtain ⟨ln, HLN⟩ : ∃ n, Hid (n = G.lats.length) := ⟨_, rfl⟩
 obtain ⟨fl, HFL⟩ : ∃ n, Hid (n = F.length) := ⟨_, rfl⟩
 rw [← HAN.out, ← HFL.out] at hn
 have b1 := hj.i0
 have b2 := hj.i1
 have b3 := hj.l1
 have b4 := hj.a1
 rw [← HLN.out] at b3
 rw [← HAN.out] at b4
 have HFS : Hid (G.first = 1 + G.ins + ln) := by rw [HLN.out]; rfl
 have HF0 : Hid (F ++ frameF G.vars k G = F ++ [[numF G.vars k 1]] ++ (List.range an).flatMap (gateF G.vars k G)) := by
  show _ = _
  rw [HAN.out]
  unfold frameF
  rw [← List.append_assoc]
  have : -(numF G.vars k 0) = numF G.vars k 1 := by unfold numF; rw [if_neg (by decide), if_pos (by decide)]; rfl
  rw [this]
 clear hW hj hat hk
 obtain ⟨Z, HZ⟩ : ∃ zz, Hid (zz = numF G.vars k (1)) := ⟨_, rfl⟩
 have hZb : -4000000 ≤ Z ∧ Z ≤ 4000000 := by rw [HZ.out]; exact numF_le HJ.out.vs HK.out (by decide)
 have NZ : Hid (∀ w', BoxAt w' mb S G → Calls Try.prog 55 #[.pointer (some ⟨mb, 0, none⟩), .int .i64 k, .int .i64 (1)] w' fun e w'' => e = .returned (.int .i64 Z) ∧ Below w'.heap.size w' w'') := fun w' hc => by rw [HZ.out]; exact at_doc w' mb S G hc HJ.out.i0 HJ.out.i1 (by have := HJ.out.l1; simp only [big]; omega) (by have := HJ.out.a1; simp only [big]; omega) HJ.out.vs k (1) HK.out (by decide)
 have enZ : IntKind.i64.wrap (-Z) = -Z := wrapI _ (by omega) (by omega)
 rw [HF0.out, ← HZ.out]
 obtain ⟨F0, HF00⟩ : ∃ z, Hid (z = F ++ [[Z]]) := ⟨_, rfl⟩
 rw [← HF00.out]
 have HL0 : Hid (F0.length = fl + 1) := by show _ = _; rw [HF00.out, HFL.out]; simp
 go_enter Try.func53, Try.ntmps53
 go_wp2_with fail
 go_at_call 55
 refine (NZ.out _ HM0.out.boxAt).mono ?_
 rintro e v1 ⟨rfl, hbx1⟩
 have HM1 := hidden (HM0.out.rest hbx1)
 have HQ1 : Hid (Below C w v1) := HQ0.out.trans (hbx1.mono HM0.out.size)
 clear hbx1
 go_wp2_with fail
 go_at_call 54
 refine (put1 C _ mb S G vv _ [] HM1.out (Z) (by have := HFL.out; omega)).mono ?_
 rintro e v2 ⟨rfl, hmx2, hbx2, -⟩
 have HM2 := hidden hmx2
 have HQ2 : Hid (Below C w v2) := HQ1.out.trans hbx2
 clear hmx2 hbx2
 rw [← HF00.out] at HM2
 go_upto_region 1 with fail
 have K1 : Hid (∀ w', Below v2.heap.size v2 w' → (fun w' => w'.cell? ⟨mb, 0, none⟩ = some (.int .i64 G.ins) ∧ w'.cell? ⟨mb, 1, none⟩ = some (.slice S.a1 ln S.c1)) w') := fun w' hb => by
  have hx := (HM2.out.rest hb).boxAt
  rw [HLN.out]
  exact ⟨hx.c0, hx.c1⟩
 have e1 : IntKind.i64.wrap (1 + G.ins) = 1 + G.ins := wrapI _ (by omega) (by omega)
 have e2 : IntKind.i64.wrap (1 + G.ins + (ln : Int)) = 1 + G.ins + (ln : Int) := wrapI _ (by omega) (by omega)
 refine wp_region_noPanic ?_
 refine wp_region_held_drew (S := (fun w' => w'.cell? ⟨mb, 0, none⟩ = some (.int .i64 G.ins) ∧ w'.cell? ⟨mb, 1, none⟩ = some (.slice S.a1 ln S.c1))) (by kernel_rfl) (by first | assumption | exact K1.out _ (Below.refl _ _) | exact K1.out _ (Below.drew (Below.refl _ _)) | exact K1.out _ (by assumption)) (fun hHeld => ?_)
 refine tk 0 ?_
 refine tk 1 ?_
 refine tk 2 ?_
 refine tk 3 ?_
 refine tk 4 ?_
 refine tk 5 ?_
 refine tk 6 ?_
 refine tk 7 ?_
 refine tk 8 ?_
 refine tk 9 ?_
 refine tk 10 ?_
 refine tk 11 ?_
 refine tk 12 ?_
 refine tk 13 ?_
 refine wpAnyH_done (by kernel_rfl) ?_ _
 refine NoPanic.normal ?_
 have HM3 : Hid (MFP C v2.drew mb S G vv F0 []) := HM2.out.rest (Below.drew (Below.refl _ _))
 have HQ3 : Hid (Below C w v2.drew) := Below.drew HQ2.out
 clear K1 e1 e2 HM0 HM1 HM2 HQ0 HQ1 HQ2
 obtain ⟨fs, HFF1⟩ : ∃ z, Hid (z = 1 + G.ins + (ln : Int)) := ⟨_, rfl⟩
 rw [← HFF1.out]
 have hfs : 0 ≤ fs ∧ fs ≤ 100000 := by rw [HFF1.out]; omega
 rw [← HFF1.out] at HFS
 generalize v2.drew = V at *
 go_wp2_with fail
 go_loopw [5] (fun i' w' => ∃ (i : Nat), i ≤ an ∧ i' = .int .i64 i ∧ Hid (MFP C w' mb S G vv (F0 ++ (List.range i).flatMap (gateF G.vars k G)) []) ∧ Hid (Below C w w')) (fun i' _ => an - (intOf i').toNat)
 case atStart => exact ⟨0, Nat.zero_le _, rfl, by show MFP _ _ _ _ _ _ _ _; simpa using HM3.out, HQ3.out⟩
 case round =>
  clear HM3 HQ3
  obtain ⟨i, hi, rfl, HM0, HQ0⟩ := hrel
  have g2 : wr.cell? ⟨mb, 2, none⟩ = some (.slice S.a2 an S.c2) := by rw [HAN.out]; exact HM0.out.boxAt.c2
  by_cases hlt : i < an
  ·have hltI : (i : Int) < (an : Int) := by omega
   obtain ⟨d, hd⟩ := getElem_lt (show i < G.ands.length by have := HAN.out; omega)
   obtain ⟨b, o, ea, hlb, hc⟩ := (HGA.out.a.to HQ0.out).el hd
   have HC0 : Hid (∀ w', Below C wr w' → w'.cell? ⟨b, o + i * 2, none⟩ = some (.int .i64 d.x)) := fun w' hb => (hb.cell (p := ⟨b, o + i * 2, none⟩) hlb).trans (hc 0 _ rfl)
   have HC1 : Hid (∀ w', Below C wr w' → w'.cell? ⟨b, o + i * 2 + 1, none⟩ = some (.int .i64 d.y)) := fun w' hb => (hb.cell (p := ⟨b, o + i * 2 + 1, none⟩) hlb).trans (hc 1 _ rfl)
   have HG2 : Hid (∀ w', MFP C w' mb S G vv (F0 ++ (List.range i).flatMap (gateF G.vars k G)) [] → w'.cell? ⟨mb, 2, none⟩ = some (.slice (some ⟨b, o, none⟩) an S.c2)) := fun w' hm => by rw [HAN.out, ← ea]; exact hm.boxAt.c2
   have hdl := HJ.out.andL d (List.mem_of_getElem? hd)
   have HGF : Hid (gateF G.vars k G i = [[-(numF G.vars k (2 * (fs + (i : Int)))), numF G.vars k d.x], [-(numF G.vars k (2 * (fs + (i : Int)))), numF G.vars k d.y], [numF G.vars k (2 * (fs + (i : Int))), -(numF G.vars k d.x), -(numF G.vars k d.y)]]) := by show _ = _; unfold gateF; rw [hd, HFS.out]
   obtain ⟨x, y⟩ := d
   dsimp only at HC0 HC1 HGF hdl
   obtain ⟨X, HX⟩ : ∃ zz, Hid (zz = numF G.vars k (2 * (fs + (i : Int)))) := ⟨_, rfl⟩
   have hXb : -4000000 ≤ X ∧ X ≤ 4000000 := by rw [HX.out]; exact numF_le HJ.out.vs HK.out (by omega)
   have NX : Hid (∀ w', BoxAt w' mb S G → Calls Try.prog 55 #[.pointer (some ⟨mb, 0, none⟩), .int .i64 k, .int .i64 (2 * (fs + (i : Int)))] w' fun e w'' => e = .returned (.int .i64 X) ∧ Below w'.heap.size w' w'') := fun w' hc => by rw [HX.out]; exact at_doc w' mb S G hc HJ.out.i0 HJ.out.i1 (by have := HJ.out.l1; simp only [big]; omega) (by have := HJ.out.a1; simp only [big]; omega) HJ.out.vs k (2 * (fs + (i : Int))) HK.out (by omega)
   have enX : IntKind.i64.wrap (-X) = -X := wrapI _ (by omega) (by omega)
   obtain ⟨P, HP⟩ : ∃ zz, Hid (zz = numF G.vars k (x)) := ⟨_, rfl⟩
   have hPb : -4000000 ≤ P ∧ P ≤ 4000000 := by rw [HP.out]; exact numF_le HJ.out.vs HK.out hdl.1
   have NP : Hid (∀ w', BoxAt w' mb S G → Calls Try.prog 55 #[.pointer (some ⟨mb, 0, none⟩), .int .i64 k, .int .i64 (x)] w' fun e w'' => e = .returned (.int .i64 P) ∧ Below w'.heap.size w' w'') := fun w' hc => by rw [HP.out]; exact at_doc w' mb S G hc HJ.out.i0 HJ.out.i1 (by have := HJ.out.l1; simp only [big]; omega) (by have := HJ.out.a1; simp only [big]; omega) HJ.out.vs k (x) HK.out hdl.1
   have enP : IntKind.i64.wrap (-P) = -P := wrapI _ (by omega) (by omega)
   obtain ⟨Q, HQ⟩ : ∃ zz, Hid (zz = numF G.vars k (y)) := ⟨_, rfl⟩
   have hQb : -4000000 ≤ Q ∧ Q ≤ 4000000 := by rw [HQ.out]; exact numF_le HJ.out.vs HK.out hdl.2
   have NQ : Hid (∀ w', BoxAt w' mb S G → Calls Try.prog 55 #[.pointer (some ⟨mb, 0, none⟩), .int .i64 k, .int .i64 (y)] w' fun e w'' => e = .returned (.int .i64 Q) ∧ Below w'.heap.size w' w'') := fun w' hc => by rw [HQ.out]; exact at_doc w' mb S G hc HJ.out.i0 HJ.out.i1 (by have := HJ.out.l1; simp only [big]; omega) (by have := HJ.out.a1; simp only [big]; omega) HJ.out.vs k (y) HK.out hdl.2
   have enQ : IntKind.i64.wrap (-Q) = -Q := wrapI _ (by omega) (by omega)
   rw [← HX.out, ← HP.out, ← HQ.out] at HGF
   have HLEN : Hid ((F0 ++ (List.range i).flatMap (gateF G.vars k G)).length ≤ fl + 1 + 3 * i) := by
    have := flat_len (gateF G.vars k G) 3 (gateF_len _ _ _) i
    have := HL0.out
    simp only [List.length_append]
    show _ ≤ _
    omega
   have e3 : IntKind.i64.wrap ((i : Int) + 1) = (i : Int) + 1 := wrapI _ (by omega) (by omega)
   have e4 : IntKind.i64.wrap (fs + (i : Int)) = fs + (i : Int) := wrapI _ (by omega) (by omega)
   have e5 : IntKind.i64.wrap (2 * (fs + (i : Int))) = 2 * (fs + (i : Int)) := wrapI _ (by omega) (by omega)
   clear hd hc hlb ea
   obtain ⟨FF, HFF⟩ : ∃ z, Hid (z = (F0 ++ (List.range i).flatMap (gateF G.vars k G))) := ⟨_, rfl⟩
   rw [← HFF.out] at HM0 HLEN HG2
   go_wp2_with fail
   go_at_call 55
   refine (NX.out _ HM0.out.boxAt).mono ?_
   rintro e v1 ⟨rfl, hbx1⟩
   have HM1 := hidden (HM0.out.rest hbx1)
   have HQ1 : Hid (Below C w v1) := HQ0.out.trans (hbx1.mono HM0.out.size)
   have c0 := HC0.out _ (hbx1.mono HM0.out.size)
   have g2 := HG2.out _ HM1.out
   have hB1 : Below C wr v1 := hbx1.mono HM0.out.size
   clear hbx1
   go_wp2_with fail
   go_at_call 55
   refine (NP.out _ HM1.out.boxAt).mono ?_
   rintro e v2 ⟨rfl, hbx2⟩
   have HM2 := hidden (HM1.out.rest hbx2)
   have HQ2 : Hid (Below C w v2) := HQ1.out.trans (hbx2.mono HM1.out.size)
   have hB2 : Below C wr v2 := hB1.trans (hbx2.mono HM1.out.size)
   have c1 := HC1.out _ hB2
   have g2 := HG2.out _ HM2.out
   clear c0 hbx2 hB1 hB2
   go_wp2_with fail
   go_at_call 55
   refine (NQ.out _ HM2.out.boxAt).mono ?_
   rintro e v3 ⟨rfl, hbx3⟩
   have HM3 := hidden (HM2.out.rest hbx3)
   have HQ3 : Hid (Below C w v3) := HQ2.out.trans (hbx3.mono HM2.out.size)
   clear c1 hbx3
   go_wp2_with fail
   go_at_call 54
   refine (put2 C _ mb S G vv _ [] HM3.out (-X) (P) (by have := HLEN.out; omega)).mono ?_
   rintro e v4 ⟨rfl, hmx4, hbx4, -⟩
   have HM4 := hidden hmx4
   have HQ4 : Hid (Below C w v4) := HQ3.out.trans hbx4
   clear hmx4 hbx4
   go_wp2_with fail
   go_at_call 54
   refine (put2 C _ mb S G vv _ [] HM4.out (-X) (Q) (by have := HLEN.out; simp only [List.length_append, List.length_cons, List.length_nil]; omega)).mono ?_
   rintro e v5 ⟨rfl, hmx5, hbx5, -⟩
   have HM5 := hidden hmx5
   have HQ5 : Hid (Below C w v5) := HQ4.out.trans hbx5
   clear hmx5 hbx5
   go_wp2_with fail
   go_at_call 54
   refine (put3 C _ mb S G vv _ [] HM5.out (X) (-P) (-Q) (by have := HLEN.out; simp only [List.length_append, List.length_cons, List.length_nil]; omega)).mono ?_
   rintro e v6 ⟨rfl, hmx6, hbx6, -⟩
   have HM6 := hidden hmx6
   have HQ6 : Hid (Below C w v6) := HQ5.out.trans hbx6
   clear hmx6 hbx6
   have HM9 : Hid (MFP C v6 mb S G vv (F0 ++ (List.range (i + 1)).flatMap (gateF G.vars k G)) []) := by
    have := HM6.out
    rw [HFF.out] at this
    show MFP _ _ _ _ _ _ _ _
    rw [flat_next, ← List.append_assoc, HGF.out]
    simpa using this
   clear HM0 HM1 HM2 HM3 HM4 HM5 HM6
   go_wp2
   go_roundw
   case measure => simp [intOf]; omega
   case rel => exact ⟨i + 1, by omega, by simp, HM9.out, HQ6.out⟩
  ·have hge : ¬ ((i : Int) < (an : Int)) := by omega
   have HME : Hid (MFP C wr mb S G vv (F0 ++ (List.range an).flatMap (gateF G.vars k G)) []) := by rw [show an = i by omega]; exact HM0.out
   clear HM0
   go_wp2
   go_end0
   exact ⟨rfl, HME.out, HQ0.out⟩
end Go.Proofs.Ytefjicdhccfieaa
