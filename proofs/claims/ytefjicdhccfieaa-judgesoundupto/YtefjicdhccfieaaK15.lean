import Derived.Test.YtefjicdhccfieaaK01
import Derived.Test.YtefjicdhccfieaaK14
set_option maxRecDepth 100000
set_option maxHeartbeats 16000000
namespace Go.Proofs.Ytefjicdhccfieaa
open Go.RowKit
theorem JG.up {B C : Nat} {w w' : World} {gp : Nat} {S : GrS} {G : GrD} (h : JG B w gp S G) (hb : Below B w w') (hC : B ≤ C) : JG C w' gp S G :=
 ⟨h.box.to h.gl hb, Nat.lt_of_lt_of_le h.gl hC, (h.at_.to hb).mono hC, h.i0, h.i1, h.l1, h.a1, h.o1, h.andL, h.latL, h.outL⟩
def formF (G : GrD) (prs : List AndD) (which : Nat) : List (List Int) :=
 if which = 0 then frameF G.vars 0 G ++ (List.range G.lats.length).flatMap (initF G.vars G) ++ (List.range prs.length).flatMap (unlikeF G.vars 0 (1 * G.vars) prs) ++ [someF (1 * G.vars) prs.length]
 else if which = 1 then frameF G.vars 0 G ++ frameF G.vars 1 G ++ (List.range G.lats.length).flatMap (goOnF G.vars G) ++ (List.range prs.length).flatMap (alikeF G.vars 0 prs) ++ (List.range prs.length).flatMap (unlikeF G.vars 1 (2 * G.vars) prs) ++ [someF (2 * G.vars) prs.length]
 else frameF G.vars 0 G ++ (List.range prs.length).flatMap (alikeF G.vars 0 prs) ++ (List.range (outPrs G.outs).length).flatMap (unlikeF G.vars 0 (1 * G.vars) (outPrs G.outs)) ++ [someF (1 * G.vars) (outPrs G.outs).length]
def formV (G : GrD) (prs : List AndD) (which : Nat) : Int :=
 if which = 0 then 1 * G.vars + prs.length else if which = 1 then 2 * G.vars + prs.length else 1 * G.vars + (outPrs G.outs).length
def FmQ (w : World) (v : Int) (F : List (List Int)) (e : Ending) (w' : World) : Prop := ∃ (a : Option Addr) (c : Nat) (cls : List CL), e = .returned (.agg #[.int .i64 v, .slice a cls.length c]) ∧ cls.map CL.l = F ∧ RowAt w'.heap.size w' a 1 (cls.map CL.cells) ∧ (∀ t, t ∈ cls → RowAt w'.heap.size w' t.a 1 (t.l.map intC)) ∧ Below w.heap.size w w'
def FmN (w : World) (v : Int) (F : List (List Int)) (e : Ending) (w' : World) : Prop := ∃ (a : Option Addr) (c : Nat) (cls : List CL), e = .returned (.agg #[.int .i64 v, .slice a cls.length c]) ∧ cls.map CL.l = F ∧ RowAt w'.heap.size w' a 1 (cls.map CL.cells) ∧ (∀ t, t ∈ cls → RowAt w'.heap.size w' t.a 1 (t.l.map intC)) ∧ Below w.heap.size w w' ∧ (∀ x, a = some x → w.heap.size ≤ x.block) ∧ ∀ t, t ∈ cls → ∀ x, t.a = some x → w.heap.size ≤ x.block
theorem frameF_len (sz k : Int) (G : GrD) : (frameF sz k G).length ≤ 1 + 3 * G.ands.length := by
 unfold frameF
 have := flat_len (gateF sz k G) 3 (gateF_len _ _ _) G.ands.length
 simp only [List.length_append, List.length_cons, List.length_nil]; omega
theorem fm_keepN {C : Nat} {w w8 w9 : World} {a : Option Addr} {c cn q0 : Nat} {vv v : Int} {cls : List CL} {F : List (List Int)} (hcn : cn = cls.length) (hcl : cls.map CL.l = F) (hrow : RowAt w8.heap.size w8 a 1 (cls.map CL.cells)) (heach : ∀ t, t ∈ cls → RowAt w8.heap.size w8 t.a 1 (t.l.map intC)) (hge : (∀ x, a = some x → C ≤ x.block) ∧ ∀ t, t ∈ cls → ∀ x, t.a = some x → C ≤ x.block) (hq : q0 < C) (hg : w8.grownBy w9 (some q0)) (hb : Below w.heap.size w w8) (hw : w.heap.size ≤ q0) (hv : vv = v) : FmN w v F (.returned (.agg #[.int .i64 vv, .slice a cn c])) w9 := by
 subst hv
 have hk : ∀ (a' : Option Addr) (els : List (List Value)) (sz : Nat), RowAt w8.heap.size w8 a' sz els → (∀ x, a' = some x → C ≤ x.block) → RowAt w9.heap.size w9 a' sz els := fun a' els sz hr hc he => by
  obtain ⟨b, o, ha, hlt, hcell⟩ := hr he
  have hbC : C ≤ b := hc _ ha
  refine ⟨b, o, ha, Nat.lt_of_lt_of_le hlt hg.size, fun i l' hl j v hv => ?_⟩
  refine (World.cell?_of_block (hg.block b hlt (fun e => ?_))).trans (hcell i l' hl j v hv)
  have := Option.some.inj e
  omega
 exact ⟨a, c, cls, by rw [hcn], hcl, hk _ _ _ hrow hge.1, fun t ht => hk _ _ _ (heach t ht) (hge.2 t ht), hb.trans (below_of hg hw hb.size), fun x hx => by have := hge.1 x hx; omega, fun t ht x hx => by have := hge.2 t ht x hx; omega⟩
theorem written_new (B : Nat) (w : World) (gp : Nat) (S : GrS) (G : GrD) (hJ : JG B w gp S G) (hB : B ≤ w.heap.size) (pa : Option Addr) (pc : Nat) (prs : List AndD) (R : RowAt B w pa 2 (prs.map AndD.cells)) (hpl : ∀ d, d ∈ prs → (0 ≤ d.x ∧ d.x ≤ 4000000) ∧ (0 ≤ d.y ∧ d.y ≤ 4000000)) (hpn : prs.length ≤ 400000) (which : Nat) (hwh : which = 0 ∨ which = 1 ∨ which = 2) :
  Calls Try.prog 34 #[.pointer (some ⟨gp, 0, none⟩), .slice pa prs.length pc, .int .i64 (which : Int)] w fun e w' => FmN w (formV G prs which) (formF G prs which) e w' := by
 have HJ := hidden hJ
 have HR := hidden R
 have HPL := hidden hpl
 have ha1 := hJ.a1
 have hl1 := hJ.l1
 have ho1 := hJ.o1
 have HF0L := hidden (frameF_len G.vars 0 G)
 have HF1L := hidden (frameF_len G.vars 1 G)
 clear hJ R hpl
 go_enter Try.func34, Try.ntmps34
 go_upto_region 1 with fail
 generalize hW1 : World.alloc w _ = w1
 obtain ⟨q0, hq⟩ : ∃ x, x = w.heap.size := ⟨_, rfl⟩
 have HB1 : Hid (Below w.heap.size w w1) := by rw [← hW1]; exact (Below.refl _ _).alloc (Nat.le_refl _) _
 have HQ1 : Hid (w1.heap[q0]? = some (.cells #[.int .i64 0, .slice none 0 0] 24 (0, 0))) := by rw [← hW1, hq]; exact heap_new _ _
 have hq1 : q0 < w1.heap.size := by rw [← hW1, hq]; simp
 rw [← hq]
 have hwq : w.heap.size ≤ q0 := by omega
 clear hW1 hq
 have hJ1 := HJ.out.to (HB1.out.mono hB)
 have VA := hidden (variables_any w1 gp S G hJ1.box hJ1.i0 hJ1.i1 hJ1.at_.ll hJ1.at_.la)
 clear hJ1
 go_wp2_with fail
 go_at_call 62
 refine VA.out.mono ?_
 rintro e w2 ⟨rfl, nd, hw2⟩
 have HB2 : Hid (Below w1.heap.size w1 w2) := by rw [hw2]; exact Below.drewN (Below.refl _ _) nd
 clear hw2 VA
 have hs12 := HB2.out.size
 go_upto_region 2 with fail
 generalize hW3 : World.alloc w2 _ = w3
 obtain ⟨C, hC⟩ : ∃ x, x = w2.heap.size := ⟨_, rfl⟩
 have HB3 : Hid (Below w2.heap.size w2 w3) := by rw [← hW3]; exact (Below.refl _ _).alloc (Nat.le_refl _) _
 have HW3 : Hid (w3.heap[C]? = some (.cells #[.pointer (some ⟨gp, 0, none⟩), .int .i64 G.vars, .slice none 0 0] 109 (0, 0))) := by rw [← hW3, hC]; exact heap_new _ _
 rw [← hC]
 have hq0 : q0 < C := by omega
 have hwC : w.heap.size ≤ C := by omega
 have HBW : Hid (Below w.heap.size w w3) := HB1.out.trans ((HB2.out.trans (HB3.out.mono HB2.out.size)).mono HB1.out.size)
 have HQ3 : Hid (w3.heap[q0]? = some (.cells #[.int .i64 0, .slice none 0 0] 24 (0, 0))) := ((HB2.out.trans (HB3.out.mono HB2.out.size)).block q0 hq1).trans HQ1.out
 have hBC : B ≤ C := by omega
 have HJ3 : Hid (JG C w3 gp S G) := HJ.out.up (HBW.out.mono hB) hBC
 have HF3 : Hid (WF C w3 C gp G.vars []) := ⟨.slice none 0 0, [], ⟨HW3.out, rfl, World.ownsRow_nil _ _ _ _, by simp [Value.ownBlock], fun t ht => (by cases ht), fun t ht => (by cases ht), Nat.le_refl _⟩, rfl⟩
 have HR3 : Hid (∀ w', Below C w3 w' → RowAt C w' pa 2 (prs.map AndD.cells)) := fun w' hb => ((HR.out.to (HBW.out.mono hB)).mono hBC).to hb
 have HB0 : Hid (Below C w3 w3) := Below.refl _ _
 clear hW3 hC HB1 HB2 HB3 HQ1 HW3
 obtain ⟨an, HAN⟩ : ∃ n, Hid (n = G.ands.length) := ⟨_, rfl⟩
 obtain ⟨la, HLA⟩ : ∃ n, Hid (n = G.lats.length) := ⟨_, rfl⟩
 have FI : Hid ((frameF G.vars 0 G).length ≤ 1 + 3 * an ∧ (frameF G.vars 1 G).length ≤ 1 + 3 * an ∧ an ≤ 200000 ∧ la ≤ 20000 ∧ ((List.range G.lats.length).flatMap (initF G.vars G)).length ≤ 1 * la ∧ ((List.range G.lats.length).flatMap (goOnF G.vars G)).length ≤ 2 * la ∧ ((List.range prs.length).flatMap (alikeF G.vars 0 prs)).length ≤ 2 * prs.length) := ⟨by rw [HAN.out]; exact HF0L.out, by rw [HAN.out]; exact HF1L.out, by rw [HAN.out]; exact ha1, by rw [HLA.out]; exact hl1, by rw [HLA.out]; exact flat_len _ 1 (begin_any_len _ _) _, by rw [HLA.out]; exact flat_len _ 2 (goOn_any_len _ _) _, flat_len _ 2 (alike_any_len _ _ _) _⟩
 clear HF0L HF1L
 rcases hwh with rfl | rfl | rfl
 ·have hw0 : (((0 : Nat) : Int) == 0) = true := rfl
  have HFE : Hid (formF G prs 0 = frameF G.vars 0 G ++ (List.range G.lats.length).flatMap (initF G.vars G) ++ (List.range prs.length).flatMap (unlikeF G.vars 0 (1 * G.vars) prs) ++ [someF (1 * G.vars) prs.length] ∧ formV G prs 0 = 1 * G.vars + prs.length) := ⟨rfl, rfl⟩
  go_wp2_with fail
  go_at_call 63
  refine (frame_any C w3 C gp S G [] HF3.out HJ3.out 0 (.inl rfl) (by have := FI.out; have := HAN.out; simp only [List.length_nil]; omega)).mono ?_
  rintro e v4 ⟨rfl, hf4, hb4⟩
  have HF4 := hidden hf4
  have HB4 : Hid (Below C w3 v4) := HB0.out.trans hb4
  have HJ4 := hidden (HJ3.out.to HB4.out)
  clear hf4 hb4
  rw [List.nil_append] at HF4
  go_wp2_with fail
  go_at_call 64
  refine (begin_any C v4 C gp S G _ HF4.out HJ4.out (by have := FI.out; have := HLA.out; omega)).mono ?_
  rintro e v5 ⟨rfl, hf5, hb5⟩
  have HF5 := hidden hf5
  have HB5 : Hid (Below C w3 v5) := HB4.out.trans hb5
  have HJ5 := hidden (HJ3.out.to HB5.out)
  clear hf5 hb5
  have HBL := HB5
  go_wp2_with fail
  go_at_call 65
  refine (unlike_any C v5 C gp S G _ [] HF5.out.p HJ5.out pa pc prs (fun w' hs hb _ => (HR3.out w' (HB5.out.trans hb)).mono (Nat.le_trans HF5.out.size hs)) HPL.out 0 (.inl rfl) 1 (.inl rfl) (by have := FI.out; rw [List.length_append]; omega)).mono ?_
  rintro e w8 ⟨a, c, cls, rfl, hcl, hrow, heach, hge, hb8⟩
  have HB8 : Hid (Below C w3 w8) := HBL.out.trans hb8
  have HR8 : Hid (w8.heap[q0]? = some (.cells #[.int .i64 0, .slice none 0 0] 24 (0, 0))) := (HB8.out.block q0 hq0).trans HQ3.out
  have r0 : w8.cell? ⟨q0, 0, none⟩ = some (.int .i64 0) := cell_of_row _ _ 0 _ _ (0, 0) HR8.out
  have r1 : w8.cell? ⟨q0, 1, none⟩ = some (.slice none 0 0) := cell_of_row _ _ 1 _ _ (0, 0) HR8.out
  have y0 : w8.frozen? ⟨q0, 0, none⟩ = false := frozen_of_row w8 q0 0 _ _ HR8.out
  have y1 : w8.frozen? ⟨q0, 1, none⟩ = false := frozen_of_row w8 q0 1 _ _ HR8.out
  obtain ⟨cn, HCN⟩ : ∃ n, Hid (n = cls.length) := ⟨_, rfl⟩
  obtain ⟨vv, HVV⟩ : ∃ n, Hid (n = 1 * G.vars + (prs.length : Int)) := ⟨_, rfl⟩
  rw [← HCN.out, ← HVV.out]
  have HROW := hidden hrow
  have HEACH := hidden heach
  have HGE := hidden hge
  have HCLS := hidden hcl
  clear hcl hrow heach hge hb8
  go_wp2
  have hz0 : ((w8.setCell ⟨q0, 0, none⟩ (.int .i64 vv)).setCell ⟨q0, 1, none⟩ (.slice a cn c)).cell? ⟨q0, 0, none⟩ = some (.int .i64 vv) := (World.cell?_setCell_other (h := fun e => by cases e) ..).trans (World.cell?_setCell_same (h := r0) ..)
  have hz1 : ((w8.setCell ⟨q0, 0, none⟩ (.int .i64 vv)).setCell ⟨q0, 1, none⟩ (.slice a cn c)).cell? ⟨q0, 1, none⟩ = some (.slice a cn c) := World.cell?_setCell_same (h := (World.cell?_setCell_other (h := fun e => by cases e) ..).trans r1) ..
  have HG9 := hidden (grown_trans' (gset w8 q0 0 (.int .i64 vv)) (gset (w8.setCell ⟨q0, 0, none⟩ (.int .i64 vv)) q0 1 (.slice a cn c)))
  generalize World.setCell _ (⟨q0, 1, none⟩ : Addr) _ = w9 at HG9 hz0 hz1 ⊢
  clear r0 r1 y0 y1
  refine bodyPost_ret (v := .agg #[.int .i64 vv, .slice a cn c]) (by simp [results, Try.results34, go_sem, *]) rfl ?_
  exact fm_keepN HCN.out (HCLS.out.trans HFE.out.1.symm) HROW.out HEACH.out HGE.out hq0 HG9.out (HBW.out.trans (HB8.out.mono hwC)) (by omega) (HVV.out.trans HFE.out.2.symm)
 ·have hw0 : (((1 : Nat) : Int) == 0) = false := rfl
  have hw1 : (((1 : Nat) : Int) == 1) = true := rfl
  have HFE : Hid (formF G prs 1 = frameF G.vars 0 G ++ frameF G.vars 1 G ++ (List.range G.lats.length).flatMap (goOnF G.vars G) ++ (List.range prs.length).flatMap (alikeF G.vars 0 prs) ++ (List.range prs.length).flatMap (unlikeF G.vars 1 (2 * G.vars) prs) ++ [someF (2 * G.vars) prs.length] ∧ formV G prs 1 = 2 * G.vars + prs.length) := ⟨rfl, rfl⟩
  go_wp2_with fail
  go_at_call 63
  refine (frame_any C w3 C gp S G [] HF3.out HJ3.out 0 (.inl rfl) (by have := FI.out; have := HAN.out; simp only [List.length_nil]; omega)).mono ?_
  rintro e v4 ⟨rfl, hf4, hb4⟩
  have HF4 := hidden hf4
  have HB4 : Hid (Below C w3 v4) := HB0.out.trans hb4
  have HJ4 := hidden (HJ3.out.to HB4.out)
  clear hf4 hb4
  rw [List.nil_append] at HF4
  go_wp2_with fail
  go_at_call 63
  refine (frame_any C v4 C gp S G _ HF4.out HJ4.out 1 (.inr rfl) (by have := FI.out; have := HAN.out; omega)).mono ?_
  rintro e v5 ⟨rfl, hf5, hb5⟩
  have HF5 := hidden hf5
  have HB5 : Hid (Below C w3 v5) := HB4.out.trans hb5
  have HJ5 := hidden (HJ3.out.to HB5.out)
  clear hf5 hb5
  go_wp2_with fail
  go_at_call 66
  refine (goOn_any C v5 C gp S G _ HF5.out HJ5.out (by have := FI.out; have := HLA.out; rw [List.length_append]; omega)).mono ?_
  rintro e v6 ⟨rfl, hf6, hb6⟩
  have HF6 := hidden hf6
  have HB6 : Hid (Below C w3 v6) := HB5.out.trans hb6
  have HJ6 := hidden (HJ3.out.to HB6.out)
  clear hf6 hb6
  go_wp2_with fail
  go_at_call 67
  refine (alike_any C v6 C gp S G _ HF6.out HJ6.out pa pc prs (HR3.out v6 HB6.out) HPL.out 0 (.inl rfl) (by have := FI.out; rw [List.length_append, List.length_append]; omega)).mono ?_
  rintro e v7 ⟨rfl, hf7, hb7⟩
  have HF7 := hidden hf7
  have HB7 : Hid (Below C w3 v7) := HB6.out.trans hb7
  have HJ7 := hidden (HJ3.out.to HB7.out)
  clear hf7 hb7
  have HBL := HB7
  go_wp2_with fail
  go_at_call 65
  refine (unlike_any C v7 C gp S G _ [] HF7.out.p HJ7.out pa pc prs (fun w' hs hb _ => (HR3.out w' (HB7.out.trans hb)).mono (Nat.le_trans HF7.out.size hs)) HPL.out 1 (.inr rfl) 2 (.inr rfl) (by have := FI.out; rw [List.length_append, List.length_append, List.length_append]; omega)).mono ?_
  rintro e w8 ⟨a, c, cls, rfl, hcl, hrow, heach, hge, hb8⟩
  have HB8 : Hid (Below C w3 w8) := HBL.out.trans hb8
  have HR8 : Hid (w8.heap[q0]? = some (.cells #[.int .i64 0, .slice none 0 0] 24 (0, 0))) := (HB8.out.block q0 hq0).trans HQ3.out
  have r0 : w8.cell? ⟨q0, 0, none⟩ = some (.int .i64 0) := cell_of_row _ _ 0 _ _ (0, 0) HR8.out
  have r1 : w8.cell? ⟨q0, 1, none⟩ = some (.slice none 0 0) := cell_of_row _ _ 1 _ _ (0, 0) HR8.out
  have y0 : w8.frozen? ⟨q0, 0, none⟩ = false := frozen_of_row w8 q0 0 _ _ HR8.out
  have y1 : w8.frozen? ⟨q0, 1, none⟩ = false := frozen_of_row w8 q0 1 _ _ HR8.out
  obtain ⟨cn, HCN⟩ : ∃ n, Hid (n = cls.length) := ⟨_, rfl⟩
  obtain ⟨vv, HVV⟩ : ∃ n, Hid (n = 2 * G.vars + (prs.length : Int)) := ⟨_, rfl⟩
  rw [← HCN.out, ← HVV.out]
  have HROW := hidden hrow
  have HEACH := hidden heach
  have HGE := hidden hge
  have HCLS := hidden hcl
  clear hcl hrow heach hge hb8
  go_wp2
  have hz0 : ((w8.setCell ⟨q0, 0, none⟩ (.int .i64 vv)).setCell ⟨q0, 1, none⟩ (.slice a cn c)).cell? ⟨q0, 0, none⟩ = some (.int .i64 vv) := (World.cell?_setCell_other (h := fun e => by cases e) ..).trans (World.cell?_setCell_same (h := r0) ..)
  have hz1 : ((w8.setCell ⟨q0, 0, none⟩ (.int .i64 vv)).setCell ⟨q0, 1, none⟩ (.slice a cn c)).cell? ⟨q0, 1, none⟩ = some (.slice a cn c) := World.cell?_setCell_same (h := (World.cell?_setCell_other (h := fun e => by cases e) ..).trans r1) ..
  have HG9 := hidden (grown_trans' (gset w8 q0 0 (.int .i64 vv)) (gset (w8.setCell ⟨q0, 0, none⟩ (.int .i64 vv)) q0 1 (.slice a cn c)))
  generalize World.setCell _ (⟨q0, 1, none⟩ : Addr) _ = w9 at HG9 hz0 hz1 ⊢
  clear r0 r1 y0 y1
  refine bodyPost_ret (v := .agg #[.int .i64 vv, .slice a cn c]) (by simp [results, Try.results34, go_sem, *]) rfl ?_
  exact fm_keepN HCN.out (HCLS.out.trans HFE.out.1.symm) HROW.out HEACH.out HGE.out hq0 HG9.out (HBW.out.trans (HB8.out.mono hwC)) (by omega) (HVV.out.trans HFE.out.2.symm)
 ·have hw0 : (((2 : Nat) : Int) == 0) = false := rfl
  have hw1 : (((2 : Nat) : Int) == 1) = false := rfl
  have HFE : Hid (formF G prs 2 = frameF G.vars 0 G ++ (List.range prs.length).flatMap (alikeF G.vars 0 prs) ++ (List.range (outPrs G.outs).length).flatMap (unlikeF G.vars 0 (1 * G.vars) (outPrs G.outs)) ++ [someF (1 * G.vars) (outPrs G.outs).length] ∧ formV G prs 2 = 1 * G.vars + (outPrs G.outs).length) := ⟨rfl, rfl⟩
  go_wp2_with fail
  go_at_call 63
  refine (frame_any C w3 C gp S G [] HF3.out HJ3.out 0 (.inl rfl) (by have := FI.out; have := HAN.out; simp only [List.length_nil]; omega)).mono ?_
  rintro e v4 ⟨rfl, hf4, hb4⟩
  have HF4 := hidden hf4
  have HB4 : Hid (Below C w3 v4) := HB0.out.trans hb4
  have HJ4 := hidden (HJ3.out.to HB4.out)
  clear hf4 hb4
  rw [List.nil_append] at HF4
  go_wp2_with fail
  go_at_call 67
  refine (alike_any C v4 C gp S G _ HF4.out HJ4.out pa pc prs (HR3.out v4 HB4.out) HPL.out 0 (.inl rfl) (by have := FI.out; omega)).mono ?_
  rintro e v5 ⟨rfl, hf5, hb5⟩
  have HF5 := hidden hf5
  have HB5 : Hid (Below C w3 v5) := HB4.out.trans hb5
  have HJ5 := hidden (HJ3.out.to HB5.out)
  clear hf5 hb5
  have HOL : Hid ((outPrs G.outs).length ≤ 100000) := by show _ ≤ _; rw [outPrs_len]; omega
  have HOB : Hid (∀ d, d ∈ outPrs G.outs → (0 ≤ d.x ∧ d.x ≤ 4000000) ∧ (0 ≤ d.y ∧ d.y ≤ 4000000)) := fun d hd => by
   have hD : ∀ j, 0 ≤ G.outs.getD j 0 ∧ G.outs.getD j 0 ≤ 4000000 := fun j => by
    rw [List.getD_eq_getElem?_getD]
    cases h : G.outs[j]? with
    | none => exact ⟨by decide, by decide⟩
    | some x => exact HJ3.out.outL x (List.mem_of_getElem? h)
   obtain ⟨i, _, rfl⟩ := List.mem_map.1 hd
   exact ⟨hD _, hD _⟩
  have OC := hidden (outputPairs_any C v5 gp S G HJ5.out HF5.out.size)
  go_wp2_with fail
  go_at_call 68
  refine OC.out.mono ?_
  rintro e v6 ⟨ob, rfl, hob, hoh, hb6⟩
  have hobl : ob < v6.heap.size := (Array.getElem?_eq_some_iff.1 hoh).1
  have HF6 := hidden (HF5.out.p.more hb6 ob hob hobl)
  have HOH := hidden hoh
  have HB6 : Hid (Below C w3 v6) := HB5.out.trans (hb6.mono HF5.out.size)
  have HJ6 := hidden (HJ3.out.to HB6.out)
  have HBL := HB6
  clear hoh hb6 OC
  go_wp2_with fail
  go_at_call 65
  refine (unlike_any C v6 C gp S G _ [ob] HF6.out HJ6.out (some ⟨ob, 0, none⟩) (outPrs G.outs).length (outPrs G.outs) (fun w' hs hb hk => rowAt_flat (Nat.lt_of_lt_of_le hobl hs) (fun l hl => by obtain ⟨q, _, rfl⟩ := List.mem_map.1 hl; rfl) (fun m v hm => by rw [cell_of_row _ _ m _ _ _ ((hk ob (by simp)).trans HOH.out)]; rw [flatP_all] at hm; simpa using hm)) HOB.out 0 (.inl rfl) 1 (.inl rfl) (by have := FI.out; have := HOL.out; rw [List.length_append]; omega)).mono ?_
  rintro e w8 ⟨a, c, cls, rfl, hcl, hrow, heach, hge, hb8⟩
  have HB8 : Hid (Below C w3 w8) := HBL.out.trans hb8
  have HR8 : Hid (w8.heap[q0]? = some (.cells #[.int .i64 0, .slice none 0 0] 24 (0, 0))) := (HB8.out.block q0 hq0).trans HQ3.out
  have r0 : w8.cell? ⟨q0, 0, none⟩ = some (.int .i64 0) := cell_of_row _ _ 0 _ _ (0, 0) HR8.out
  have r1 : w8.cell? ⟨q0, 1, none⟩ = some (.slice none 0 0) := cell_of_row _ _ 1 _ _ (0, 0) HR8.out
  have y0 : w8.frozen? ⟨q0, 0, none⟩ = false := frozen_of_row w8 q0 0 _ _ HR8.out
  have y1 : w8.frozen? ⟨q0, 1, none⟩ = false := frozen_of_row w8 q0 1 _ _ HR8.out
  obtain ⟨cn, HCN⟩ : ∃ n, Hid (n = cls.length) := ⟨_, rfl⟩
  obtain ⟨vv, HVV⟩ : ∃ n, Hid (n = 1 * G.vars + ((outPrs G.outs).length : Int)) := ⟨_, rfl⟩
  rw [← HCN.out, ← HVV.out]
  have HROW := hidden hrow
  have HEACH := hidden heach
  have HGE := hidden hge
  have HCLS := hidden hcl
  clear hcl hrow heach hge hb8
  go_wp2
  have hz0 : ((w8.setCell ⟨q0, 0, none⟩ (.int .i64 vv)).setCell ⟨q0, 1, none⟩ (.slice a cn c)).cell? ⟨q0, 0, none⟩ = some (.int .i64 vv) := (World.cell?_setCell_other (h := fun e => by cases e) ..).trans (World.cell?_setCell_same (h := r0) ..)
  have hz1 : ((w8.setCell ⟨q0, 0, none⟩ (.int .i64 vv)).setCell ⟨q0, 1, none⟩ (.slice a cn c)).cell? ⟨q0, 1, none⟩ = some (.slice a cn c) := World.cell?_setCell_same (h := (World.cell?_setCell_other (h := fun e => by cases e) ..).trans r1) ..
  have HG9 := hidden (grown_trans' (gset w8 q0 0 (.int .i64 vv)) (gset (w8.setCell ⟨q0, 0, none⟩ (.int .i64 vv)) q0 1 (.slice a cn c)))
  generalize World.setCell _ (⟨q0, 1, none⟩ : Addr) _ = w9 at HG9 hz0 hz1 ⊢
  clear r0 r1 y0 y1
  refine bodyPost_ret (v := .agg #[.int .i64 vv, .slice a cn c]) (by simp [results, Try.results34, go_sem, *]) rfl ?_
  exact fm_keepN HCN.out (HCLS.out.trans HFE.out.1.symm) HROW.out HEACH.out HGE.out hq0 HG9.out (HBW.out.trans (HB8.out.mono hwC)) (by omega) (HVV.out.trans HFE.out.2.symm)
theorem written_any (B : Nat) (w : World) (gp : Nat) (S : GrS) (G : GrD) (hJ : JG B w gp S G) (hB : B ≤ w.heap.size) (pa : Option Addr) (pc : Nat) (prs : List AndD) (R : RowAt B w pa 2 (prs.map AndD.cells)) (hpl : ∀ d, d ∈ prs → (0 ≤ d.x ∧ d.x ≤ 4000000) ∧ (0 ≤ d.y ∧ d.y ≤ 4000000)) (hpn : prs.length ≤ 400000) (which : Nat) (hwh : which = 0 ∨ which = 1 ∨ which = 2) :
  Calls Try.prog 34 #[.pointer (some ⟨gp, 0, none⟩), .slice pa prs.length pc, .int .i64 (which : Int)] w fun e w' => FmQ w (formV G prs which) (formF G prs which) e w' :=
 (written_new B w gp S G hJ hB pa pc prs R hpl hpn which hwh).mono (fun _ _ ⟨a, c, cls, h1, h2, h3, h4, h5, _⟩ => ⟨a, c, cls, h1, h2, h3, h4, h5⟩)
end Go.Proofs.Ytefjicdhccfieaa
