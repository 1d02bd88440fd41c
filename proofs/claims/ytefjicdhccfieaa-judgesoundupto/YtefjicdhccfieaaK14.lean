import Derived.Test.YtefjicdhccfieaaK01
import Derived.Test.YtefjicdhccfieaaK13
set_option maxRecDepth 100000
set_option maxHeartbeats 16000000
namespace Go.Proofs.Ytefjicdhccfieaa
open Go.RowKit
def outPrs (outs : List Int) : List AndD := (List.range (outs.length / 2)).map fun (i : Nat) => ⟨outs.getD i 0, outs.getD (outs.length / 2 + i) 0⟩
theorem outPrs_len (outs : List Int) : (outPrs outs).length = outs.length / 2 := by simp [outPrs]
def arrP (ps : List AndD) (n i : Nat) : List Value := (ps.take i).flatMap AndD.cells ++ List.replicate (2 * (n - i)) (Value.int .i64 0)
theorem flatP_len (ps : List AndD) (i : Nat) (hi : i ≤ ps.length) : ((ps.take i).flatMap AndD.cells).length = i * 2 := by
 induction i with
 | zero => simp
 | succ i ih =>
  obtain ⟨d, hd⟩ := getElem_lt (show i < ps.length by omega)
  rw [take_next ps i d hd, List.flatMap_append, List.length_append, ih (by omega)]
  simp [AndD.cells]; omega
theorem arrP_next (ps : List AndD) (n i : Nat) (hn : n = ps.length) (d : AndD) (hd : ps[i]? = some d) : ((arrP ps n i).toArray.setIfInBounds (i * 2) (.int .i64 d.x)).setIfInBounds (i * 2 + 1) (.int .i64 d.y) = (arrP ps n (i + 1)).toArray := by
 have hi : i < ps.length := (List.getElem?_eq_some_iff.1 hd).1
 have hl := flatP_len ps i (by omega)
 obtain ⟨q, hq⟩ : ∃ q, n - i = q + 1 := ⟨n - i - 1, by omega⟩
 unfold arrP
 rw [show n - (i + 1) = q by omega, hq, take_next ps i d hd, List.flatMap_append, show 2 * (q + 1) = 2 * q + 1 + 1 by omega, List.replicate_succ, List.replicate_succ, sA, sA]
 rw [List.set_append_right _ _ (by omega), List.set_append_right _ _ (by omega), hl]
 simp [AndD.cells]
theorem arrP_cell (ps : List AndD) (n i : Nat) (hn : n = ps.length) (hi : i < n) (j : Nat) (hj : j < 2) : ∃ v, (arrP ps n i).toArray[i * 2 + j]? = some v := by
 have : i * 2 + j < (arrP ps n i).toArray.size := by
  unfold arrP
  have := flatP_len ps i (by omega)
  simp
  simp at this
  omega
 exact ⟨_, Array.getElem?_eq_getElem this⟩
theorem info_two0 : (Try.prog.info? 33).map (fun i => (i.zero, i.size, i.bytes)) = some (some (.agg #[.int .i64 0, .int .i64 0]), 2, 16) := by kernel_rfl
theorem info_two : ∃ i, Try.prog.info? 33 = some i ∧ i.zero = some (.agg #[.int .i64 0, .int .i64 0]) ∧ i.size = 2 ∧ i.bytes = 16 := by
 have h := info_two0
 cases hi : Try.prog.info? 33 with
 | none => rw [hi] at h; cases h
 | some i => rw [hi] at h; simp at h; exact ⟨i, rfl, h.1, h.2.1, h.2.2⟩
theorem made_two (n : Nat) : (madeCells (Value.agg #[.int .i64 0, .int .i64 0]).cells (n * 2)).toList = List.replicate (2 * n) (Value.int .i64 0) := by
 apply List.ext_getElem?
 intro i
 by_cases h : i < n * 2
 ·have h2 : i < 2 * n := by omega
  rcases Nat.mod_two_eq_zero_or_one i with e | e <;> simp [madeCells, Value.cells, h, h2, e]
 ·have h2 : ¬ i < 2 * n := by omega
  simp [madeCells, Value.cells, h, h2]
theorem row_of_own2 {w : World} {C e n g : Nat} {xs : List Value} (h : w.ownsRow C e 2 (.slice (some ⟨g, 0, none⟩) n n) n xs) : w.heap[g]? = some (.cells xs.toArray e (0, 0)) := by
 rcases h.2 with ⟨h', _⟩ | ⟨g', cap', cur, h', _, hh, _, _, hcs, htake⟩
 ·simp at h'
 ·simp only [Value.slice.injEq, Option.some.injEq, Addr.mk.injEq, and_true, true_and] at h'
  obtain ⟨rfl, rfl⟩ := h'
  rw [hh]
  rw [List.take_of_length_le (by rw [Array.length_toList, hcs]; exact Nat.le_refl _)] at htake
  rw [← htake]
theorem flatP_all (ps : List AndD) : (ps.map AndD.cells).flatten = ps.flatMap AndD.cells := by
 induction ps with
 | nil => rfl
 | cons a r ih => simp [ih]
def OutP (w : World) (prs : List AndD) (e : Ending) (w' : World) : Prop := ∃ ob, e = .returned (.slice (some ⟨ob, 0, none⟩) prs.length prs.length) ∧ w.heap.size ≤ ob ∧ w'.heap[ob]? = some (.cells (prs.flatMap AndD.cells).toArray 33 (0, 0)) ∧ Below w.heap.size w w'
theorem outputPairs_any (C : Nat) (w : World) (gp : Nat) (S : GrS) (G : GrD) (hJ : JG C w gp S G) (hC : C ≤ w.heap.size) :
  Calls Try.prog 68 #[.pointer (some ⟨gp, 0, none⟩)] w fun e w' => OutP w (outPrs G.outs) e w' := by
 have HJ := hidden hJ
 have q3 := hJ.box.c3
 have ho1 := hJ.o1
 obtain ⟨on, HON⟩ : ∃ n, Hid (n = G.outs.length) := ⟨_, rfl⟩
 obtain ⟨hf, HHF⟩ : ∃ n, Hid (n = on / 2) := ⟨_, rfl⟩
 rw [← HON.out] at q3 ho1
 have hhf : hf ≤ 100000 := by rw [HHF.out]; omega
 have e0 : Int.tdiv (on : Int) 2 = (hf : Int) := by rw [Int.tdiv_eq_ediv_of_nonneg (by omega), HHF.out]; omega
 have e1 : IntKind.i64.wrap (hf : Int) = (hf : Int) := wrapI _ (by omega) (by omega)
 obtain ⟨prs, HPRS⟩ : ∃ p, Hid (p = outPrs G.outs) := ⟨_, rfl⟩
 have HPL : Hid (hf = prs.length) := by show _ = _; rw [HPRS.out, outPrs_len, HHF.out, HON.out]
 rw [← HPRS.out]
 obtain ⟨ib, hib, hzb, hsb, hbb⟩ := info_two
 have HI := hidden hib
 have HZ := hidden hzb
 have HS := hidden hsb
 have hmkb : ib.bytes * hf ≤ 281474976710656 := by rw [hbb]; omega
 have hmx : hf ≤ maxLen := by simp only [maxLen]; omega
 clear hib hzb hsb hbb hJ
 go_enter Try.func68, Try.ntmps68
 have tok : True := trivial
 go_upto_region 3 with (have _t := tok; at_make; (refine wpList_make_full _ rfl (.tmp 12) (.tmp 12) 28 rfl w.heap.size 33 ib _ 2 Try.underlying28 HI.out HZ.out HS.out .i64 .i64 (hf : Int) (hf : Int) hf rfl rfl rfl rfl hmkb hmx (Nat.le_refl _) ?_; intro w3 hown3 hgrow3; clear tok))
 obtain ⟨sb, hsb⟩ : ∃ x, x = w.heap.size := ⟨_, rfl⟩
 have HB3 : Hid (Below w.heap.size w w3) := none_below hgrow3
 have HS3 : Hid (w3.heap[sb]? = some (.cells (arrP prs hf 0).toArray 33 (0, 0))) := by
  have := row_of_own2 hown3
  rw [made_two] at this
  rw [hsb]
  show w3.heap[w.heap.size]? = _
  simpa [arrP] using this
 have hws : w.heap.size ≤ sb := by omega
 rw [← hsb]
 clear hown3 hgrow3 q3 hsb
 go_wp2_with fail
 go_loopw [16] (fun i' w' => ∃ (i : Nat), i ≤ hf ∧ i' = .int .i64 i ∧ Hid (w'.heap[sb]? = some (.cells (arrP prs hf i).toArray 33 (0, 0))) ∧ Hid (Below w.heap.size w w')) (fun i' _ => hf - (intOf i').toNat)
 case atStart => exact ⟨0, Nat.zero_le _, rfl, HS3.out, HB3.out⟩
 case round =>
  obtain ⟨i, hi, rfl, HSk, HBk⟩ := hrel
  by_cases hlt : i < hf
  ·have hltI : (i : Int) < (hf : Int) := by omega
   have hih : hf + i < on := by have := HHF.out; omega
   obtain ⟨x, hx⟩ := getElem_lt (show i < G.outs.length by have := HON.out; omega)
   obtain ⟨y, hy⟩ := getElem_lt (show hf + i < G.outs.length by have := HON.out; omega)
   have hJr := HJ.out.to (HBk.out.mono hC)
   obtain ⟨ob0, oo0, ea, hlb, hc⟩ := hJr.at_.o.el hx
   obtain ⟨ob1, oo1, ea1, hlb1, hc1⟩ := hJr.at_.o.el hy
   obtain ⟨rfl, rfl⟩ : ob1 = ob0 ∧ oo1 = oo0 := by rw [ea] at ea1; cases ea1; exact ⟨rfl, rfl⟩
   have c0 : wr.cell? ⟨ob1, oo1 + i, none⟩ = some (.int .i64 x) := by have := hc 0 _ rfl; simpa using this
   obtain ⟨q, HQ⟩ : ∃ q, Hid (q = hf + i) := ⟨_, rfl⟩
   have c1 : wr.cell? ⟨ob1, oo1 + q, none⟩ = some (.int .i64 y) := by rw [HQ.out]; have := hc1 0 _ rfl; simpa using this
   have c3 : wr.cell? ⟨gp, 3, none⟩ = some (.slice (some ⟨ob1, oo1, none⟩) on S.c3) := by have := hJr.box.c3; rw [ea, ← HON.out] at this; exact this
   have HPI : Hid (prs[i]? = some ⟨x, y⟩) := by
    show _ = _
    rw [HPRS.out]
    unfold outPrs
    rw [List.getElem?_map, List.getElem?_range (by rw [← HON.out, ← HHF.out]; exact hlt)]
    simp only [Option.map_some]
    rw [← HON.out, ← HHF.out, List.getD_eq_getElem?_getD, List.getD_eq_getElem?_getD, hx, hy]; rfl
   have hgs : gp ≠ sb := by have := HJ.out.gl; omega
   have hos : ob1 ≠ sb := by omega
   have hiI : (i : Int) < (on : Int) := by omega
   have e2 : IntKind.i64.wrap ((hf : Int) + (i : Int)) = (q : Int) := by rw [wrapI _ (by omega) (by omega), HQ.out]; omega
   have hihN : (q : Int) < (on : Int) := by rw [HQ.out]; omega
   have e3 : IntKind.i64.wrap ((i : Int) + 1) = (i : Int) + 1 := wrapI _ (by omega) (by omega)
   obtain ⟨v0, hv0⟩ := arrP_cell prs hf i HPL.out hlt 0 (by decide)
   obtain ⟨v1, hv1⟩ := arrP_cell prs hf i HPL.out hlt 1 (by decide)
   have s0 : wr.cell? ⟨sb, i * 2, none⟩ = some v0 := (cell_of_row _ _ (i * 2) _ _ (0, 0) HSk.out).trans hv0
   have s1 : wr.cell? ⟨sb, i * 2 + 1, none⟩ = some v1 := (cell_of_row _ _ (i * 2 + 1) _ _ (0, 0) HSk.out).trans hv1
   have z0 : wr.frozen? ⟨sb, i * 2, none⟩ = false := frozen_of_row wr sb (i * 2) _ _ HSk.out
   have z1 : wr.frozen? ⟨sb, i * 2 + 1, none⟩ = false := frozen_of_row wr sb (i * 2 + 1) _ _ HSk.out
   have K1 : Hid ((fun w' => w'.cell? ⟨gp, 3, none⟩ = some (.slice (some ⟨ob1, oo1, none⟩) on S.c3) ∧ w'.cell? ⟨ob1, oo1 + i, none⟩ = some (.int .i64 x) ∧ w'.cell? ⟨ob1, oo1 + q, none⟩ = some (.int .i64 y)) wr) := ⟨c3, c0, c1⟩
   have KD : Hid ((fun w' => w'.cell? ⟨gp, 3, none⟩ = some (.slice (some ⟨ob1, oo1, none⟩) on S.c3) ∧ w'.cell? ⟨ob1, oo1 + i, none⟩ = some (.int .i64 x) ∧ w'.cell? ⟨ob1, oo1 + q, none⟩ = some (.int .i64 y)) wr.drew) := K1.out
   have KS : Hid (∀ (w' : World) (j : Nat) (u : Value), (fun w' => w'.cell? ⟨gp, 3, none⟩ = some (.slice (some ⟨ob1, oo1, none⟩) on S.c3) ∧ w'.cell? ⟨ob1, oo1 + i, none⟩ = some (.int .i64 x) ∧ w'.cell? ⟨ob1, oo1 + q, none⟩ = some (.int .i64 y)) w' → (fun w' => w'.cell? ⟨gp, 3, none⟩ = some (.slice (some ⟨ob1, oo1, none⟩) on S.c3) ∧ w'.cell? ⟨ob1, oo1 + i, none⟩ = some (.int .i64 x) ∧ w'.cell? ⟨ob1, oo1 + q, none⟩ = some (.int .i64 y)) (w'.setCell ⟨sb, j, none⟩ u)) := fun w' j u hh => ⟨(World.cell?_setCell_far _ _ _ _ (fun e => hgs (by have e' : sb = gp := e; exact e'.symm))).trans hh.1, (World.cell?_setCell_far _ _ _ _ (fun e => hos (by have e' : sb = ob1 := e; exact e'.symm))).trans hh.2.1, (World.cell?_setCell_far _ _ _ _ (fun e => hos (by have e' : sb = ob1 := e; exact e'.symm))).trans hh.2.2⟩
   have HNX : Hid (((wr.setCell ⟨sb, i * 2, none⟩ (.int .i64 x)).setCell ⟨sb, i * 2 + 1, none⟩ (.int .i64 y)).heap[sb]? = some (.cells (arrP prs hf (i + 1)).toArray 33 (0, 0))) := by
    have h1 := set_self (o := i * 2) (u := .int .i64 x) HSk.out
    have h2 := set_self (o := i * 2 + 1) (u := .int .i64 y) h1
    rw [arrP_next prs hf i HPL.out ⟨x, y⟩ HPI.out] at h2
    exact h2
   have HBX : Hid (Below w.heap.size w ((wr.setCell ⟨sb, i * 2, none⟩ (.int .i64 x)).setCell ⟨sb, i * 2 + 1, none⟩ (.int .i64 y))) := HBk.out.trans (below_of (grown_trans' (gset _ _ _ _) (gset _ _ _ _)) hws HBk.out.size)
   clear hx hy hc hc1 ea ea1 c0 c1 c3 hv0 hv1 hJr
   go_upto_region 6 with fail
   refine wp_region_noPanic ?_
   refine wp_region_held_drew (S := (fun w' => w'.cell? ⟨gp, 3, none⟩ = some (.slice (some ⟨ob1, oo1, none⟩) on S.c3) ∧ w'.cell? ⟨ob1, oo1 + i, none⟩ = some (.int .i64 x) ∧ w'.cell? ⟨ob1, oo1 + q, none⟩ = some (.int .i64 y))) (by kernel_rfl) (by first | assumption | exact K1.out | exact KD.out | exact KS.out _ _ _ (by first | assumption | exact K1.out | exact KD.out) | exact KS.out _ _ _ (KS.out _ _ _ (by first | assumption | exact K1.out | exact KD.out))) (fun hHeld => ?_)
   refine tk 0 ?_
   refine tk 1 ?_
   refine tk 2 ?_
   refine tk 3 ?_
   refine tk 4 ?_
   refine tk 5 ?_
   refine tk 6 ?_
   refine tk 7 ?_
   refine tk 8 ?_
   refine tk 9 ?_
   refine tk 10 ?_
   refine tk 11 ?_
   refine tk 12 ?_
   refine tk 13 ?_
   refine tk 14 ?_
   refine tk 15 ?_
   refine tk 16 ?_
   refine tk 17 ?_
   refine tk 18 ?_
   refine tk 19 ?_
   refine wpAnyH_ready (rs := [20]) (by kernel_rfl) (by simp) ?_
   refine AllReadyH.cons (o := _) rfl (fun K hK => ?_) AllReadyH.nil
   (try simp only [gA, gB, gC])
   go_simp
   refine hK.out _ _ (by first | assumption | exact K1.out | exact KD.out | exact KS.out _ _ _ (by first | assumption | exact K1.out | exact KD.out) | exact KS.out _ _ _ (KS.out _ _ _ (by first | assumption | exact K1.out | exact KD.out))) (fun hHeld20 => ?_)
   clear hK K
   (try simp only [Act.put]); (try simp only [sA]); (try simp only [sB, sC])
   refine wpAnyH_done (by kernel_rfl) ?_ _
   refine NoPanic.normal ?_
   try clear hHeld
   have HN2 : Hid ((((wr.setCell ⟨sb, i * 2, none⟩ (.int .i64 x)).setCell ⟨sb, i * 2 + 1, none⟩ (.int .i64 y)).drew).heap[sb]? = some (.cells (arrP prs hf (i + 1)).toArray 33 (0, 0))) := HNX.out
   have HB2 := hidden (HBX.out.trans (Below.drew (Below.refl _ _)))
   generalize World.drew (World.setCell (World.setCell wr _ _) _ _) = w9 at HN2 HB2 ⊢
   clear HNX HBX K1 KD KS s0 s1 z0 z1
   go_wp2
   go_roundw
   case measure => simp [intOf]; omega
   case rel => exact ⟨i + 1, by omega, by simp, HN2.out, HB2.out⟩
  ·have hge : ¬ ((i : Int) < (hf : Int)) := by omega
   have HX : Hid (OutP w prs (.returned (.slice (some ⟨sb, 0, none⟩) hf hf)) wr) := by
    obtain rfl : i = hf := by omega
    refine ⟨sb, by rw [HPL.out], hws, ?_, HBk.out⟩
    have := HSk.out
    unfold arrP at this
    rw [List.take_of_length_le (by rw [HPL.out]; exact Nat.le_refl _), Nat.sub_self] at this
    simpa using this
   go_wp2
   go_ret
   exact HX.out
end Go.Proofs.Ytefjicdhccfieaa
