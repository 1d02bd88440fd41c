import Derived.Test.YtefjicdhccfieaaJ01
import Derived.Test.YtefjicdhccfieaaJ21
import Derived.Test.YtefjicdhccfieaaJ12
set_option maxRecDepth 100000
set_option maxHeartbeats 16000000
namespace Go.Proofs.Ytefjicdhccfieaa
open Go.RowKit
theorem outPrs_at {outs : List Int} {n i : Nat} {X Y : Int} (hn : n = outs.length / 2) (hi : i < n) (hx : outs[i]? = some X) (hy : outs[n + i]? = some Y) : (outPrs outs)[i]? = some ⟨X, Y⟩ := by
 subst hn
 unfold outPrs
 rw [List.getElem?_map, List.getElem?_range hi]
 simp [List.getD, hx, hy]
def OutDP (w : World) (ps : List AndD) (e : Ending) (w' : World) : Prop := ∃ (a : Option Addr) (c : Nat), e = .returned (.slice a ps.length c) ∧ RowAt w'.heap.size w' a 2 (ps.map AndD.cells) ∧ Below w.heap.size w w' ∧ ∀ x, a = some x → w.heap.size ≤ x.block
theorem outlets_doc (C : Nat) (w : World) (S : GrS) (G : GrD) (hat : GrAt C w S G) (hC : C ≤ w.heap.size) (ho : G.outs.length ≤ 200000) :
  Calls Try.prog 58 #[.agg (S.cells G)] w fun e w' => OutDP w (outPrs G.outs) e w' := by
 have HGA := hidden hat
 obtain ⟨on, HON⟩ : ∃ x, Hid (x = G.outs.length) := ⟨_, rfl⟩
 obtain ⟨n, HN⟩ : ∃ x, Hid (x = G.outs.length / 2) := ⟨_, rfl⟩
 have hn2 : 2 * n ≤ on := by rw [HN.out, HON.out]; omega
 have q1 : Int.tdiv (on : Int) 2 = (n : Int) := by rw [Int.tdiv_eq_ediv_of_nonneg (by omega), HN.out, HON.out]; omega
 have e1 : IntKind.i64.wrap (n : Int) = (n : Int) := wrapI _ (by rw [← HON.out] at ho; omega) (by rw [← HON.out] at ho; omega)
 rw [← HON.out] at ho
 obtain ⟨il, hi, hz, hs, hby⟩ := info_two
 have HI := hidden hi
 have HZ := hidden hz
 have HSI := hidden hs
 have HBY := hidden hby
 clear hi hz hs hby hat
 unfold GrS.cells
 rw [← HON.out]
 go_enter Try.func58, Try.ntmps58
 go_upto_region 1 with fail
 generalize hW : World.alloc w _ = W
 obtain ⟨pg, hpg⟩ : ∃ x, x = w.heap.size := ⟨_, rfl⟩
 have HB1 : Hid (Below w.heap.size w W) := by rw [← hW]; exact (Below.refl _ _).alloc (Nat.le_refl _) _
 have d1 : W.heap[pg]? = some (.cells #[.int .i64 G.ins, .slice S.a1 G.lats.length S.c1, .slice S.a2 G.ands.length S.c2, .slice S.a3 on S.c3] 30 (0, 0)) := by rw [← hW, hpg]; exact heap_new _ _
 have hpl : pg < W.heap.size := (Array.getElem?_eq_some_iff.1 d1).1
 have g3 : W.cell? ⟨pg, 3, none⟩ = some (.slice S.a3 on S.c3) := (cell_of_row _ _ 3 _ _ (0, 0) d1).trans rfl
 have HG3 := hidden g3
 rw [← hpg]
 have hwW : w.heap.size ≤ W.heap.size := HB1.out.size
 clear hW hpg d1
 go_wp2_with fail
 clear g3
 go_loopw [3, 5] (fun sv i' w' => ∃ (i : Nat), i ≤ n ∧ i' = .int .i64 i ∧ Hid (w'.ownsRow W.heap.size 33 2 sv i (((outPrs G.outs).take i).flatMap AndD.cells)) ∧ Hid (Below W.heap.size W w')) (fun _ i' _ => n - (intOf i').toNat)
 case atStart => exact ⟨0, Nat.zero_le _, rfl, ⟨rfl, .inl ⟨rfl, rfl⟩⟩, Below.refl _ _⟩
 case round =>
  obtain ⟨i, hi, rfl, HO0, HQ0⟩ := hrel
  by_cases hlt : i < n
  ·have hltI : (i : Int) < (n : Int) := by omega
   obtain ⟨X, hX⟩ := getElem_lt (show i < G.outs.length by have := HON.out; omega)
   obtain ⟨Y, hY⟩ := getElem_lt (show n + i < G.outs.length by have := HON.out; omega)
   have HDI := hidden (outPrs_at HN.out hlt hX hY)
   obtain ⟨b, o, ea, hlb, hc⟩ := (HGA.out.to (HB1.out.mono hC)).o.el hX
   obtain ⟨b', o', ea', hlb', hc'⟩ := (HGA.out.to (HB1.out.mono hC)).o.el hY
   rw [ea] at ea'
   obtain ⟨rfl, rfl⟩ : b = b' ∧ o = o' := by injection ea' with h; injection h with h1 h2; exact ⟨h1, h2⟩
   have hbW : b < W.heap.size := by omega
   have y0 := hc 0 _ rfl
   have y1 := hc' 0 _ rfl
   simp only [Nat.mul_one, Nat.add_zero] at y0 y1
   have K1 : Hid (∀ w', Below W.heap.size W w' → (fun w' => w'.cell? ⟨pg, 3, none⟩ = some (.slice (some ⟨b, o, none⟩) on S.c3) ∧ w'.cell? ⟨b, o + i, none⟩ = some (.int .i64 X) ∧ w'.cell? ⟨b, o + (n + i), none⟩ = some (.int .i64 Y)) w') := fun w' hb => ⟨by rw [← ea]; exact (hb.cell (p := ⟨pg, 3, none⟩) hpl).trans HG3.out, (hb.cell (p := ⟨b, o + i, none⟩) hbW).trans y0, (hb.cell (p := ⟨b, o + (n + i), none⟩) hbW).trans y1⟩
   have e3 : IntKind.i64.wrap ((i : Int) + 1) = (i : Int) + 1 := wrapI _ (by omega) (by omega)
   obtain ⟨ni, HNI⟩ : ∃ z, Hid (z = n + i) := ⟨_, rfl⟩
   have e4 : IntKind.i64.wrap ((n : Int) + (i : Int)) = (ni : Int) := by rw [HNI.out, wrapI _ (by omega) (by omega)]; omega
   have l1 : (i : Int) < (on : Int) := by omega
   have l2 : (ni : Int) < (on : Int) := by rw [HNI.out]; omega
   rw [← HNI.out] at K1
   have HOW : Hid (wr.drew.ownsRow W.heap.size 33 2 u3 i (((outPrs G.outs).take i).flatMap AndD.cells)) := own_below HO0.out (Below.drew (Below.refl _ _))
   have hm1 : i + 1 ≤ maxLen := by simp only [maxLen]; omega
   have hm2 : (i + 1) * 16 ≤ 140737488355328 := by omega
   have hm3 : W.heap.size ≤ (wr.drew.alloc (.cells #[.int .i64 X, .int .i64 Y] 33)).heap.size := by have := HQ0.out.size; simp; omega
   clear hX hY hc hc' y0 y1 hlb hlb' ea ea' HO0
   go_upto_region 6 with fail
   refine wp_region_noPanic ?_
   refine wp_region_held_drew (S := (fun w' => w'.cell? ⟨pg, 3, none⟩ = some (.slice (some ⟨b, o, none⟩) on S.c3) ∧ w'.cell? ⟨b, o + i, none⟩ = some (.int .i64 X) ∧ w'.cell? ⟨b, o + ni, none⟩ = some (.int .i64 Y))) (by kernel_rfl) (by first | assumption | exact K1.out _ HQ0.out | exact K1.out _ (Below.drew HQ0.out) | exact K1.out _ ((Below.drew HQ0.out).alloc (Below.drew HQ0.out).size _)) (fun hHeld => ?_)
   refine tk 0 ?_
   refine tk 1 ?_
   refine tk 2 ?_
   refine tk 3 ?_
   refine tk 4 ?_
   refine tk 5 ?_
   refine tk 6 ?_
   refine tk 7 ?_
   refine tk 8 ?_
   refine tk 9 ?_
   refine tk 10 ?_
   refine tk 11 ?_
   refine tk 12 ?_
   refine tk 13 ?_
   refine wpAnyH_ready (rs := [14]) (by kernel_rfl) (by simp) ?_
   refine AllReadyH.cons (o := _) rfl (fun K hK => ?_) AllReadyH.nil
   (try simp only [gA, gB, gC])
   go_simp
   refine hK.out _ _ (by first | assumption | exact K1.out _ HQ0.out | exact K1.out _ (Below.drew HQ0.out) | exact K1.out _ ((Below.drew HQ0.out).alloc (Below.drew HQ0.out).size _)) (fun hHeld14 => ?_)
   clear hK K
   (try simp only [Act.put]); (try simp only [sA]); (try simp only [sB, sC])
   refine wpAnyH_ready (rs := [15]) (by kernel_rfl) (by simp) ?_
   refine AllReadyH.cons (o := _) rfl (fun K hK => ?_) AllReadyH.nil
   refine step_append_lies _ rfl (.tmp 15) (.tmp 29) 28 rfl W.heap.size 33 il _ 2 16 Try.underlying28 HI.out HZ.out HSI.out HBY.out rfl (by decide) u3 i _ rfl (HOW.out.alloc _) ⟨wr.drew.heap.size, 0, none⟩ 1 1 [.int .i64 X, .int .i64 Y] rfl rfl (World.news_of_block (heap_new _ _)) (by simp [Value.oneCell']) (by decide) hm1 hm2 hm3 _ rfl ?_
   intro g cap w6 hown hgrow hat hlt6
   have hg6 := grown_trn (World.grownBy_alloc wr.drew _ _) hgrow
   have hQ6 : Below W.heap.size W w6 := (Below.drew HQ0.out).trans ⟨hg6.os, hg6.tape, hg6.output, hg6.size, fun k hk => hg6.block k (Nat.lt_of_lt_of_le hk (Below.drew HQ0.out).size) (fun e => by have := (HOW.out.lt k e.symm).1; omega)⟩
   have K3 := K1.out _ hQ6
   refine hK.out _ _ (by first | assumption | exact K3) (fun hHeldp => ?_)
   clear hK K
   (try simp only [Act.put]); (try simp only [sA]); (try simp only [sB, sC])
   refine tk 16 ?_
   refine wpAnyH_done (by kernel_rfl) ?_ _
   refine NoPanic.normal ?_
   have HQ6 := hidden hQ6
   have HO9 : Hid (w6.ownsRow W.heap.size 33 2 (.slice (some ⟨g, 0, none⟩) (i + 1) cap) (i + 1) (((outPrs G.outs).take (i + 1)).flatMap AndD.cells)) := by
    show World.ownsRow _ _ _ _ _ _ _
    rw [take_next _ i _ HDI.out, List.flatMap_append]
    exact hown
   clear hown hgrow hat hlt6 hg6 hQ6 K3 K1 HOW
   go_wp2
   go_roundw
   case measure => simp [intOf]; omega
   case rel => exact ⟨i + 1, by omega, by simp, HO9.out, HQ6.out⟩
  ·have hge : ¬ ((i : Int) < (n : Int)) := by omega
   have hin : i = n := by omega
   have how := HO0.out
   rw [List.take_of_length_le (by rw [outPrs_len, ← HN.out]; omega), List.flatMap_def] at how
   obtain ⟨a, c, hu, hrow⟩ := own_row how (fun l hl => by obtain ⟨q, _, rfl⟩ := List.mem_map.1 hl; rfl) (by decide)
   have HRR := hidden hrow
   have HNW : Hid (∀ x, a = some x → w.heap.size ≤ x.block) := fun x hx => by
    have := (HO0.out.lt x.block (by rw [hu, hx]; rfl)).1
    omega
   have HBE : Hid (Below w.heap.size w wr) := HB1.out.trans (HQ0.out.mono hwW)
   have HL : Hid (i = (outPrs G.outs).length) := by show _ = _; rw [outPrs_len, ← HN.out]; exact hin
   clear how HO0 hrow hin
   subst hu
   go_wp2
   go_ret
   exact ⟨a, c, by rw [← HL.out]; rfl, HRR.out, HBE.out, HNW.out⟩
end Go.Proofs.Ytefjicdhccfieaa

set_option maxRecDepth 100000
set_option maxHeartbeats 16000000
namespace Go.Proofs.Ytefjicdhccfieaa
open Go.RowKit
theorem paired_doc (C : Nat) (w : World) (S : GrS) (G : GrD) (hj : JnB G) (pa : Option Addr) (pc : Nat) (prs : List AndD) (R : RowAt C w pa 2 (prs.map AndD.cells)) (hC : C ≤ w.heap.size) (hl : prs.length < big) :
  Calls Try.prog 27 #[.agg (S.cells G), .slice pa prs.length pc] w fun e w' => e = .returned (.bool (pairsOk G.vars prs)) ∧ Below w.heap.size w w' := by
 have HR := hidden R
 have VA : Hid (∀ w', Calls Try.prog 52 #[.agg #[.int .i64 G.ins, .slice S.a1 G.lats.length S.c1, .slice S.a2 G.ands.length S.c2, .slice S.a3 G.outs.length S.c3]] w' fun e w'' => e = .returned (.int .i64 G.vars) ∧ Below w'.heap.size w' w'') := fun w' => vars_any w' S G hj.i0 hj.i1 (by have := hj.l1; simp only [big]; omega) (by have := hj.a1; simp only [big]; omega)
 have hn := hj.vs
 clear hj R
 generalize G.vars = n at *
 obtain ⟨r, HRR⟩ : ∃ r, Hid (pairsOk n prs = r) := ⟨_, rfl⟩
 rw [HRR.out]
 simp only [big] at hl
 obtain ⟨pn, HPN⟩ : ∃ x, Hid (x = prs.length) := ⟨_, rfl⟩
 rw [← HPN.out] at hl
 rw [← HPN.out]
 unfold GrS.cells
 go_enter Try.func27, Try.ntmps27
 go_upto_region 1 with fail
 generalize hW : World.alloc w _ = W
 obtain ⟨pg, hpg⟩ : ∃ x, x = w.heap.size := ⟨_, rfl⟩
 have HB1 : Hid (Below w.heap.size w W) := by rw [← hW]; exact (Below.refl _ _).alloc (Nat.le_refl _) _
 have d1 : W.heap[pg]? = some (.cells #[.int .i64 G.ins, .slice S.a1 G.lats.length S.c1, .slice S.a2 G.ands.length S.c2, .slice S.a3 G.outs.length S.c3] 30 (0, 0)) := by rw [← hW, hpg]; exact heap_new _ _
 have HX : Hid (BoxAt W pg S G) := ⟨(Array.getElem?_eq_some_iff.1 d1).1, (cell_of_row _ _ 0 _ _ (0, 0) d1).trans rfl, (cell_of_row _ _ 1 _ _ (0, 0) d1).trans rfl, (cell_of_row _ _ 2 _ _ (0, 0) d1).trans rfl, (cell_of_row _ _ 3 _ _ (0, 0) d1).trans rfl⟩
 rw [← hpg]
 have hwW : w.heap.size ≤ W.heap.size := HB1.out.size
 clear hW hpg d1
 go_wp2_with fail
 go_loopw [5] (fun i' w' => ∃ (i : Nat), i ≤ pn ∧ i' = .int .i64 i ∧ Hid (pairsOk n (prs.take i) = true) ∧ Hid (Below W.heap.size W w')) (fun i' _ => pn - (intOf i').toNat)
 case atStart => exact ⟨0, Nat.zero_le _, rfl, rfl, Below.refl _ _⟩
 case round =>
  obtain ⟨i, hi, rfl, HA, HQ0⟩ := hrel
  by_cases hlt : i < pn
  ·have hltI : (i : Int) < (pn : Int) := by omega
   obtain ⟨d, hd⟩ := getElem_lt (show i < prs.length by have := HPN.out; omega)
   obtain ⟨b, o, ea, hlb, hc⟩ := (HR.out.to (HB1.out.mono hC)).el hd
   obtain ⟨x, y⟩ := d
   have hbW : b < W.heap.size := by omega
   have HCX : Hid (W.cell? ⟨b, o + i * 2, none⟩ = some (.int .i64 x)) := hc 0 _ rfl
   have HCY : Hid (W.cell? ⟨b, o + i * 2 + 1, none⟩ = some (.int .i64 y)) := hc 1 _ rfl
   have e3 : IntKind.i64.wrap ((i : Int) + 1) = (i : Int) + 1 := wrapI _ (by omega) (by omega)
   have e5 : IntKind.i64.wrap (2 * n) = 2 * n := wrapI _ (by omega) (by omega)
   have HN0 : Hid (litOkG n x = true → litOkG n y = true → pairsOk n (prs.take (i + 1)) = true) := fun h1 h2 => by
    show _ = _
    unfold pairsOk at HA ⊢
    rw [all_next _ _ i ⟨x, y⟩ hd, HA.out, Bool.true_and]
    show (litOkG n x && litOkG n y) = true
    rw [h1, h2]; rfl
   have HFF : Hid ((litOkG n x && litOkG n y) = false → r = false) := fun hf => by
    rw [← HRR.out]
    exact List.all_eq_false.2 ⟨⟨x, y⟩, List.mem_of_getElem? hd, by show ¬ (litOkG n x && litOkG n y) = true; rw [hf]; decide⟩
   rw [ea]
   clear hd hc hlb ea HA
   go_wp2_with fail
   go_loopw [6] (fun k' w' => ∃ (kk : Nat), kk ≤ 2 ∧ k' = .int .i64 kk ∧ Hid (1 ≤ kk → litOkG n x = true) ∧ Hid (2 ≤ kk → litOkG n y = true) ∧ Hid (Below W.heap.size W w')) (fun k' _ => 2 - (intOf k').toNat)
   case atStart => exact ⟨0, by omega, rfl, fun h => absurd h (by decide), fun h => absurd h (by decide), HQ0.out⟩
   case round =>
    clear HQ0
    obtain ⟨kk, hkk, rfl, HX1, HX2, HQ1⟩ := hrel
    by_cases hk2 : kk < 2
    ·have hk2I : (kk : Int) < 2 := by omega
     obtain ⟨z, HZ⟩ : ∃ z, Hid (z = if kk = 0 then x else y) := ⟨_, rfl⟩
     have hcz : W.cell? ⟨b, o + i * 2 + kk, none⟩ = some (.int .i64 z) := by
      rw [HZ.out]
      rcases (show kk = 0 ∨ kk = 1 by omega) with rfl | rfl
      ·exact HCX.out
      ·exact HCY.out
     have K1 : Hid (∀ w', Below W.heap.size W w' → (fun w' => w'.cell? ⟨b, o + i * 2 + kk, none⟩ = some (.int .i64 z) ∧ w'.cell? ⟨pg, 0, none⟩ = some (.int .i64 G.ins) ∧ w'.cell? ⟨pg, 1, none⟩ = some (.slice S.a1 G.lats.length S.c1) ∧ w'.cell? ⟨pg, 2, none⟩ = some (.slice S.a2 G.ands.length S.c2) ∧ w'.cell? ⟨pg, 3, none⟩ = some (.slice S.a3 G.outs.length S.c3)) w') := fun w' hb => by
      have hx := HX.out.to HX.out.lt hb
      exact ⟨(hb.cell (p := ⟨b, o + i * 2 + kk, none⟩) hbW).trans hcz, hx.c0, hx.c1, hx.c2, hx.c3⟩
     have e6 : IntKind.i64.wrap ((kk : Int) + 1) = (kk : Int) + 1 := wrapI _ (by omega) (by omega)
     have HZF : Hid (litOkG n z = false → r = false) := fun hf => by
      refine HFF.out ?_
      rw [HZ.out] at hf
      by_cases h0 : kk = 0
      ·rw [if_pos h0] at hf; rw [hf]; rfl
      ·rw [if_neg h0] at hf; rw [hf, Bool.and_false]
     have HZT : Hid (litOkG n z = true → (1 ≤ kk + 1 → litOkG n x = true) ∧ (2 ≤ kk + 1 → litOkG n y = true)) := fun ht => by
      rw [HZ.out] at ht
      by_cases h0 : kk = 0
      ·rw [if_pos h0] at ht
       exact ⟨fun _ => ht, fun h => absurd h (by omega)⟩
      ·rw [if_neg h0] at ht
       exact ⟨fun _ => HX1.out (by omega), fun _ => ht⟩
     clear hcz
     go_upto_region 7 with fail
     by_cases hz0 : z < 0
     ·have hzd : decide (z < 0) = true := decide_eq_true hz0
      have HF : Hid (r = false) := HZF.out (decide_eq_false (fun h => absurd h.1 (by omega)))
      have HBE : Hid (Below w.heap.size w wr.drew) := HB1.out.trans ((Below.drew HQ1.out).mono hwW)
      refine wp_region_noPanic ?_
      refine wp_region_held_drew (S := (fun w' => w'.cell? ⟨b, o + i * 2 + kk, none⟩ = some (.int .i64 z) ∧ w'.cell? ⟨pg, 0, none⟩ = some (.int .i64 G.ins) ∧ w'.cell? ⟨pg, 1, none⟩ = some (.slice S.a1 G.lats.length S.c1) ∧ w'.cell? ⟨pg, 2, none⟩ = some (.slice S.a2 G.ands.length S.c2) ∧ w'.cell? ⟨pg, 3, none⟩ = some (.slice S.a3 G.outs.length S.c3))) (by kernel_rfl) (by first | assumption | exact K1.out _ HQ1.out | exact K1.out _ (Below.drew HQ1.out) | exact K1.out _ (by assumption)) (fun hHeld => ?_)
      refine tk 0 ?_
      refine tk 1 ?_
      refine tk 2 ?_
      refine tk 3 ?_
      refine tk 4 ?_
      refine tk 5 ?_
      refine tk 6 ?_
      refine tk 7 ?_
      refine tu 8 ?_
      refine tu 9 ?_
      refine tu 10 ?_
      refine tu 11 ?_
      refine tu 12 ?_
      refine tu 13 ?_
      refine tu 14 ?_
      refine tu 15 ?_
      refine tu 16 ?_
      refine tu 17 ?_
      refine tk 18 ?_
      refine wpAnyH_done (by kernel_rfl) ?_ _
      refine NoPanic.normal ?_
      go_wp2
      go_ret
      exact ⟨ret_bool HF.out.symm, HBE.out⟩
     ·have hzd : decide (z < 0) = false := decide_eq_false hz0
      by_cases hz1 : 2 * n ≤ z
      ·have hzd1 : decide (2 * n ≤ z) = true := decide_eq_true hz1
       have HF : Hid (r = false) := HZF.out (decide_eq_false (fun h => absurd h.2 (by omega)))
       refine wp_region_noPanic ?_
       refine wp_region_held_drew (S := (fun w' => w'.cell? ⟨b, o + i * 2 + kk, none⟩ = some (.int .i64 z) ∧ w'.cell? ⟨pg, 0, none⟩ = some (.int .i64 G.ins) ∧ w'.cell? ⟨pg, 1, none⟩ = some (.slice S.a1 G.lats.length S.c1) ∧ w'.cell? ⟨pg, 2, none⟩ = some (.slice S.a2 G.ands.length S.c2) ∧ w'.cell? ⟨pg, 3, none⟩ = some (.slice S.a3 G.outs.length S.c3))) (by kernel_rfl) (by first | assumption | exact K1.out _ HQ1.out | exact K1.out _ (Below.drew HQ1.out) | exact K1.out _ (by assumption)) (fun hHeld => ?_)
       refine tk 0 ?_
       refine tk 1 ?_
       refine tk 2 ?_
       refine tk 3 ?_
       refine tk 4 ?_
       refine tk 5 ?_
       refine tk 6 ?_
       refine tk 7 ?_
       refine tk 8 ?_
       refine tk 9 ?_
       refine tk 10 ?_
       refine tk 11 ?_
       refine tk 12 ?_
       refine tk 13 ?_
       refine tk 14 ?_
       refine wpAnyH_ready (rs := [15]) (by kernel_rfl) (by simp) ?_
       refine AllReadyH.cons (o := _) rfl (fun K hK => ?_) AllReadyH.nil
       (try simp only [gA, gB, gC])
       go_simp
       go_at_call 52
       refine (VA.out _).mono ?_
       rintro e v1 ⟨rfl, hbv1⟩
       have hb1 : Below W.heap.size W v1 := (Below.drew HQ1.out).trans (hbv1.mono (Below.drew HQ1.out).size)
       clear hbv1
       go_wp2_with fail
       refine hK.out _ _ (by first | assumption | exact K1.out _ HQ1.out | exact K1.out _ (Below.drew HQ1.out) | exact K1.out _ (by assumption)) (fun hHeld1 => ?_)
       clear hK K
       try simp only [Act.put, sA, sB, sC]
       refine tk 16 ?_
       refine tk 17 ?_
       refine tk 18 ?_
       refine wpAnyH_done (by kernel_rfl) ?_ _
       refine NoPanic.normal ?_
       have HBE : Hid (Below w.heap.size w v1) := HB1.out.trans (hb1.mono hwW)
       go_wp2
       go_ret
       exact ⟨ret_bool HF.out.symm, HBE.out⟩
      ·have hzd1 : decide (2 * n ≤ z) = false := decide_eq_false hz1
       have HT := hidden (HZT.out (decide_eq_true ⟨by omega, by omega⟩))
       refine wp_region_noPanic ?_
       refine wp_region_held_drew (S := (fun w' => w'.cell? ⟨b, o + i * 2 + kk, none⟩ = some (.int .i64 z) ∧ w'.cell? ⟨pg, 0, none⟩ = some (.int .i64 G.ins) ∧ w'.cell? ⟨pg, 1, none⟩ = some (.slice S.a1 G.lats.length S.c1) ∧ w'.cell? ⟨pg, 2, none⟩ = some (.slice S.a2 G.ands.length S.c2) ∧ w'.cell? ⟨pg, 3, none⟩ = some (.slice S.a3 G.outs.length S.c3))) (by kernel_rfl) (by first | assumption | exact K1.out _ HQ1.out | exact K1.out _ (Below.drew HQ1.out) | exact K1.out _ (by assumption)) (fun hHeld => ?_)
       refine tk 0 ?_
       refine tk 1 ?_
       refine tk 2 ?_
       refine tk 3 ?_
       refine tk 4 ?_
       refine tk 5 ?_
       refine tk 6 ?_
       refine tk 7 ?_
       refine tk 8 ?_
       refine tk 9 ?_
       refine tk 10 ?_
       refine tk 11 ?_
       refine tk 12 ?_
       refine tk 13 ?_
       refine tk 14 ?_
       refine wpAnyH_ready (rs := [15]) (by kernel_rfl) (by simp) ?_
       refine AllReadyH.cons (o := _) rfl (fun K hK => ?_) AllReadyH.nil
       (try simp only [gA, gB, gC])
       go_simp
       go_at_call 52
       refine (VA.out _).mono ?_
       rintro e v1 ⟨rfl, hbv1⟩
       have hb1 : Below W.heap.size W v1 := (Below.drew HQ1.out).trans (hbv1.mono (Below.drew HQ1.out).size)
       clear hbv1
       go_wp2_with fail
       refine hK.out _ _ (by first | assumption | exact K1.out _ HQ1.out | exact K1.out _ (Below.drew HQ1.out) | exact K1.out _ (by assumption)) (fun hHeld1 => ?_)
       clear hK K
       try simp only [Act.put, sA, sB, sC]
       refine tk 16 ?_
       refine tk 17 ?_
       refine tk 18 ?_
       refine wpAnyH_done (by kernel_rfl) ?_ _
       refine NoPanic.normal ?_
       go_wp2
       go_roundw
       case measure => simp [intOf]; omega
       case rel => exact ⟨kk + 1, by omega, by simp, HT.out.1, HT.out.2, hb1⟩
    ·have hk2I : ¬ ((kk : Int) < 2) := by omega
     have HN1 := hidden (HN0.out (HX1.out (by omega)) (HX2.out (by omega)))
     go_wp2
     go_roundw
     case measure => simp [intOf]; omega
     case rel => exact ⟨i + 1, by omega, by simp, HN1.out, HQ1.out⟩
  ·have hge : ¬ ((i : Int) < (pn : Int)) := by omega
   have HF : Hid (r = true) := by
    have := HA.out
    rw [List.take_of_length_le (by have := HPN.out; omega), HRR.out] at this
    exact this
   have HBE : Hid (Below w.heap.size w wr) := HB1.out.trans (HQ0.out.mono hwW)
   go_wp2
   go_ret
   exact ⟨ret_bool HF.out.symm, HBE.out⟩
end Go.Proofs.Ytefjicdhccfieaa
