import Derived.Test.YtefjicdhccfieaaJ01
import Derived.Test.YtefjicdhccfieaaJ24
import Derived.Test.YtefjicdhccfieaaJ25
set_option maxRecDepth 100000
set_option maxHeartbeats 16000000
namespace Go.Proofs.Ytefjicdhccfieaa
open Go.RowKit
theorem MFP.keepRow {C : Nat} {w w' : World} {mb : Nat} {S : GrS} {G : GrD} {vv : Int} {F : List (List Int)} (h : MFP C w mb S G vv F []) (hb : Below w.heap.size w w') {a : Option Addr} {els : List (List Value)} (R : RowAt w'.heap.size w' a 2 els) (hn : ∀ x, a = some x → w.heap.size ≤ x.block) : ∃ Qs, MFP C w' mb S G vv F Qs ∧ ∀ w'', w'.heap.size ≤ w''.heap.size → (∀ b, b ∈ Qs → w''.heap[b]? = w'.heap[b]?) → RowAt w''.heap.size w'' a 2 els := by
 by_cases he : els = []
 ·subst he
  exact ⟨[], h.rest hb, fun w'' _ _ => rowAt_nil⟩
 ·obtain ⟨b, o, ha, hlt, -⟩ := R he
  refine ⟨[b], h.more hb b (hn _ ha) hlt, fun w'' hs hk => row_keep R hs (fun x hx j => ?_)⟩
  rw [ha] at hx
  cases hx
  exact World.cell?_of_block (hk b (by simp))
theorem formed2 (B0 : Nat) (w0 : World) (SA SB : GrS) (A B : GrD) (okA : OkB A) (okB : OkB B) (hB0 : B0 ≤ w0.heap.size) (JC : ∀ w', Below w0.heap.size w0 w' → Calls Try.prog 26 #[.agg #[.int .i64 A.ins, .slice SA.a1 A.lats.length SA.c1, .slice SA.a2 A.ands.length SA.c2, .slice SA.a3 A.outs.length SA.c3], .agg #[.int .i64 B.ins, .slice SB.a1 B.lats.length SB.c1, .slice SB.a2 B.ands.length SB.c2, .slice SB.a3 B.outs.length SB.c3]] w' fun e w'' => JnP w' (joinG A B) e w'') (pa : Option Addr) (pc : Nat) (prs : List AndD) (R : RowAt B0 w0 pa 2 (prs.map AndD.cells)) (hpl : ∀ d, d ∈ prs → (0 ≤ d.x ∧ d.x ≤ 4000000) ∧ (0 ≤ d.y ∧ d.y ≤ 4000000)) (hpn : prs.length ≤ 400000) :
  Calls Try.prog 29 #[.agg (SA.cells A), .agg (SB.cells B), .slice pa prs.length pc, .int .i64 2] w0 fun e w' => FmQ w0 (formV (joinG A B) prs 2) (formF (joinG A B) prs 2) e w' := by
 have HJ : Hid (JnB (joinG A B)) := join_bounds okA okB
 have JC0 := hidden JC
 clear JC okA okB
 generalize joinG A B = G at *
 have HPL := hidden hpl
 have HR0 := hidden R
 have ha1 := HJ.out.a1
 have hl1 := HJ.out.l1
 have ho1 := HJ.out.o1
 have hi0 := HJ.out.i0
 have hi1 := HJ.out.i1
 clear hpl R
 unfold GrS.cells
 go_enter Try.func29, Try.ntmps29
 go_upto_region 1 with fail
 obtain ⟨o1, ho1⟩ : ∃ o, o = Obj.cells #[.int .i64 A.ins, .slice SA.a1 A.lats.length SA.c1, .slice SA.a2 A.ands.length SA.c2, .slice SA.a3 A.outs.length SA.c3] 30 (0, 0) := ⟨_, rfl⟩
 obtain ⟨o2, ho2⟩ : ∃ o, o = Obj.cells #[.int .i64 B.ins, .slice SB.a1 B.lats.length SB.c1, .slice SB.a2 B.ands.length SB.c2, .slice SB.a3 B.outs.length SB.c3] 30 (0, 0) := ⟨_, rfl⟩
 obtain ⟨o3, ho3⟩ : ∃ o, o = Obj.cells #[.int .i64 0, .slice none 0 0] 24 (0, 0) := ⟨_, rfl⟩
 rw [← ho1, ← ho2, ← ho3]
 have s1 : (w0.alloc o1).heap.size = w0.heap.size + 1 := by simp
 have b1 := heap_new w0 o1
 have B1 : Below w0.heap.size w0 (w0.alloc o1) := (Below.refl _ _).alloc (Nat.le_refl _) _
 generalize w0.alloc o1 = w1 at *
 have s2 : (w1.alloc o2).heap.size = w1.heap.size + 1 := by simp
 have b2 := heap_new w1 o2
 have B2 : Below w1.heap.size w1 (w1.alloc o2) := (Below.refl _ _).alloc (Nat.le_refl _) _
 generalize w1.alloc o2 = w2 at *
 have s3 : (w2.alloc o3).heap.size = w2.heap.size + 1 := by simp
 have b3 := heap_new w2 o3
 have B3 : Below w2.heap.size w2 (w2.alloc o3) := (Below.refl _ _).alloc (Nat.le_refl _) _
 generalize w2.alloc o3 = W at *
 obtain ⟨ga, h5⟩ : ∃ x, x = w0.heap.size := ⟨_, rfl⟩
 obtain ⟨gb, h6⟩ : ∃ x, x = w0.heap.size + 1 := ⟨_, rfl⟩
 obtain ⟨q0, h7⟩ : ∃ x, x = w0.heap.size + 1 + 1 := ⟨_, rfl⟩
 have d5 : W.heap[ga]? = some o1 := (B3.block ga (by omega)).trans ((B2.block ga (by omega)).trans (by rw [h5]; exact b1))
 have d6 : W.heap[gb]? = some o2 := (B3.block gb (by omega)).trans (by rw [h6, ← s1]; exact b2)
 have d7 : W.heap[q0]? = some o3 := by rw [h7, ← s1, ← s2]; exact b3
 rw [ho1] at d5
 rw [ho2] at d6
 rw [ho3] at d7
 have HQ9 := hidden d7
 have hql : q0 < W.heap.size := by omega
 have hwq : w0.heap.size ≤ q0 := by omega
 have HXA : Hid (BoxAt W ga SA A) := ⟨by omega, (cell_of_row _ _ 0 _ _ (0, 0) d5).trans rfl, (cell_of_row _ _ 1 _ _ (0, 0) d5).trans rfl, (cell_of_row _ _ 2 _ _ (0, 0) d5).trans rfl, (cell_of_row _ _ 3 _ _ (0, 0) d5).trans rfl⟩
 have HXB : Hid (BoxAt W gb SB B) := ⟨by omega, (cell_of_row _ _ 0 _ _ (0, 0) d6).trans rfl, (cell_of_row _ _ 1 _ _ (0, 0) d6).trans rfl, (cell_of_row _ _ 2 _ _ (0, 0) d6).trans rfl, (cell_of_row _ _ 3 _ _ (0, 0) d6).trans rfl⟩
 have HBW0 : Hid (Below w0.heap.size w0 W) := B1.trans ((B2.trans (B3.mono (by omega))).mono (by omega))
 rw [← h7, ← h6, ← h5]
 have hws : w0.heap.size ≤ W.heap.size := HBW0.out.size
 clear b1 b2 b3 B1 B2 B3 s1 s2 s3 h5 h6 h7 d5 d6 d7 ho1 ho2 ho3
 have x0 := HXA.out.c0
 have x1 := HXA.out.c1
 have x2 := HXA.out.c2
 have x3 := HXA.out.c3
 have z0 := HXB.out.c0
 have z1 := HXB.out.c1
 have z2 := HXB.out.c2
 have z3 := HXB.out.c3
 go_wp2_with fail
 go_at_call 26
 refine (JC0.out W HBW0.out).mono ?_
 rintro e w3 ⟨S, he, hat3, hb3⟩
 unfold GrS.cells at he
 subst he
 clear x0 x1 x2 x3 z0 z1 z2 z3
 have HB3 := hidden hb3
 have HA3 := hidden hat3
 clear hb3 hat3
 go_upto_region 2 with fail
 generalize hW : World.alloc w3 _ = w
 obtain ⟨C, hC⟩ : ∃ x, x = w3.heap.size := ⟨_, rfl⟩
 obtain ⟨mb, hmb⟩ : ∃ x, x = w3.heap.size := ⟨_, rfl⟩
 have HBM : Hid (Below w3.heap.size w3 w) := by rw [← hW]; exact (Below.refl _ _).alloc (Nat.le_refl _) _
 have HWM : Hid (w.heap[mb]? = some (.cells #[.int .i64 G.ins, .slice S.a1 G.lats.length S.c1, .slice S.a2 G.ands.length S.c2, .slice S.a3 G.outs.length S.c3, .int .i64 0, .slice none 0 0] 98 (0, 0))) := by rw [← hW, hmb]; exact heap_new _ _
 rw [← hmb]
 have hCm : C ≤ mb := by omega
 have h3s := HB3.out.size
 have hq0 : q0 < C := by omega
 have hwC : w0.heap.size ≤ C := by omega
 have HBW : Hid (Below w0.heap.size w0 w) := HBW0.out.trans ((HB3.out.trans (HBM.out.mono HB3.out.size)).mono hws)
 have HQ8 : Hid (w.heap[q0]? = some (.cells #[.int .i64 0, .slice none 0 0] 24 (0, 0))) := (HBM.out.block q0 (by omega)).trans ((HB3.out.block q0 hql).trans HQ9.out)
 have hBC : B0 ≤ C := by omega
 have HGT : Hid (∀ w', Below C w w' → GrAt C w' S G) := fun w' hb => by
  have h1 : GrAt C w S G := by rw [hC]; exact HA3.out.to HBM.out
  exact h1.to hb
 have HM0 : Hid (MFP C w mb S G 0 [] []) := ⟨.slice none 0 0, [], ⟨HWM.out, rfl, World.ownsRow_nil _ _ _ _, by simp [Value.ownBlock], fun t ht => (by cases ht), fun t ht => (by cases ht), hCm⟩, rfl, fun b hb => (by cases hb)⟩
 have HR : Hid (∀ w', Below C w w' → RowAt C w' pa 2 (prs.map AndD.cells)) := fun w' hb => ((HR0.out.to (HBW.out.mono hB0)).mono hBC).to hb
 have HQ0 : Hid (Below C w w) := Below.refl _ _
 clear hW hC hmb HBM HWM HB3 HA3 HQ9 HXA HXB HR0 JC0
 obtain ⟨an, HAN⟩ : ∃ n, Hid (n = G.ands.length) := ⟨_, rfl⟩
 obtain ⟨ln, HLN⟩ : ∃ n, Hid (n = G.lats.length) := ⟨_, rfl⟩
 rw [← HLN.out] at hl1
 have FI : Hid ((frameF G.vars 0 G).length ≤ 1 + 3 * an ∧ (frameF G.vars 1 G).length ≤ 1 + 3 * an ∧ an ≤ 200000 ∧ ln ≤ 20000 ∧ ((List.range ln).flatMap (initF G.vars G)).length ≤ 1 * ln ∧ ((List.range ln).flatMap (goOnF G.vars G)).length ≤ 2 * ln ∧ ((List.range prs.length).flatMap (alikeF G.vars 0 prs)).length ≤ 2 * prs.length) := ⟨by rw [HAN.out]; exact frameF_len _ _ _, by rw [HAN.out]; exact frameF_len _ _ _, by rw [HAN.out]; exact ha1, hl1, flat_len _ 1 (begin_any_len _ _) _, flat_len _ 2 (goOn_any_len _ _) _, flat_len _ 2 (alike_any_len _ _ _) _⟩
 have hw0 : ((2 : Int) == 0) = false := rfl
 have hw1 : ((2 : Int) == 1) = false := rfl
 go_wp2_with fail
 go_at_call 53
 refine (frame_doc C _ mb S G 0 _ HM0.out HJ.out (HGT.out _ HQ0.out) 0 (by decide) (by have := FI.out; have := HAN.out; simp only [List.length_nil]; omega)).mono ?_
 rintro e v1 ⟨rfl, hmx1, hbx1⟩
 have HM1 := hidden hmx1
 have HQ1 : Hid (Below C w v1) := HQ0.out.trans hbx1
 clear hmx1 hbx1
 have HFE : Hid (formF G prs 2 = [] ++ frameF G.vars 0 G ++ (List.range prs.length).flatMap (alikeF G.vars 0 prs) ++ (List.range (outPrs G.outs).length).flatMap (unlikeF G.vars 0 (1 * G.vars) (outPrs G.outs)) ++ [someF (1 * G.vars) (outPrs G.outs).length] ∧ formV G prs 2 = 1 * G.vars + (outPrs G.outs).length) := by rw [List.nil_append]; exact ⟨rfl, rfl⟩
 go_wp2_with fail
 go_at_call 57
 refine (same_doc C _ mb S G 0 _ HM1.out HJ.out pa pc prs (HR.out _ HQ1.out) HPL.out 0 (by decide) (by have := FI.out; rw [List.nil_append]; omega)).mono ?_
 rintro e v2 ⟨rfl, hmx2, hbx2⟩
 have HM2 := hidden hmx2
 have HQ2 : Hid (Below C w v2) := HQ1.out.trans hbx2
 clear hmx2 hbx2
 have HOL : Hid ((outPrs G.outs).length ≤ 100000) := by show _ ≤ _; rw [outPrs_len]; omega
 have HOB : Hid (∀ d, d ∈ outPrs G.outs → (0 ≤ d.x ∧ d.x ≤ 4000000) ∧ (0 ≤ d.y ∧ d.y ≤ 4000000)) := fun d hd => by
  have hD : ∀ j, 0 ≤ G.outs.getD j 0 ∧ G.outs.getD j 0 ≤ 4000000 := fun j => by
   rw [List.getD_eq_getElem?_getD]
   cases h : G.outs[j]? with
   | none => exact ⟨by decide, by decide⟩
   | some x => exact HJ.out.outL x (List.mem_of_getElem? h)
  obtain ⟨i, _, rfl⟩ := List.mem_map.1 hd
  exact ⟨hD _, hD _⟩
 have OC : Hid (Calls Try.prog 58 #[.agg #[.int .i64 G.ins, .slice S.a1 G.lats.length S.c1, .slice S.a2 G.ands.length S.c2, .slice S.a3 G.outs.length S.c3]] v2 fun e w' => OutDP v2 (outPrs G.outs) e w') := outlets_doc C v2 S G (HGT.out _ HQ2.out) HM2.out.size ho1
 have x0 := HM2.out.boxAt.c0
 have x1 := HM2.out.boxAt.c1
 have x2 := HM2.out.boxAt.c2
 have x3 := HM2.out.boxAt.c3
 go_wp2_with fail
 go_at_call 58
 refine OC.out.mono ?_
 rintro e v3 ⟨oa, oc, rfl, hor, hob, hon⟩
 clear x0 x1 x2 x3 OC
 obtain ⟨Qs, hqm, hqr⟩ := MFP.keepRow HM2.out hob hor hon
 have HM3 := hidden hqm
 have HQR := hidden hqr
 have HQ3 : Hid (Below C w v3) := HQ2.out.trans (hob.mono HM2.out.size)
 clear hor hob hon hqm hqr
 go_wp2_with fail
 go_at_call 56
 refine (unlike_docP C _ mb S G 0 _ Qs HM3.out HJ.out oa oc (outPrs G.outs) (fun w' _ hs hk => HQR.out w' hs hk) HOB.out 0 (by decide) 1 (by decide) (by have := FI.out; have := HOL.out; rw [List.length_append, List.nil_append]; omega)).mono ?_
 rintro e v4 ⟨rfl, hmx4, hbx4⟩
 have HM4 := hidden hmx4
 have HQ4 : Hid (Below C w v4) := HQ3.out.trans hbx4
 clear hmx4 hbx4
 obtain ⟨a, c, cls, f4, f5, hcl, hrow, heach, hge⟩ := HM4.out.fm
 have HR8 : Hid (v4.heap[q0]? = some (.cells #[.int .i64 0, .slice none 0 0] 24 (0, 0))) := (HQ4.out.block q0 hq0).trans HQ8.out
 have r0 : v4.cell? ⟨q0, 0, none⟩ = some (.int .i64 0) := cell_of_row _ _ 0 _ _ (0, 0) HR8.out
 have r1 : v4.cell? ⟨q0, 1, none⟩ = some (.slice none 0 0) := cell_of_row _ _ 1 _ _ (0, 0) HR8.out
 have y0 : v4.frozen? ⟨q0, 0, none⟩ = false := frozen_of_row v4 q0 0 _ _ HR8.out
 have y1 : v4.frozen? ⟨q0, 1, none⟩ = false := frozen_of_row v4 q0 1 _ _ HR8.out
 obtain ⟨cn, HCN⟩ : ∃ n, Hid (n = cls.length) := ⟨_, rfl⟩
 obtain ⟨vx, HVV⟩ : ∃ n, Hid (n = 1 * G.vars + ((outPrs G.outs).length : Int)) := ⟨_, rfl⟩
 rw [← HCN.out] at f5
 rw [← HVV.out] at f4
 have HROW := hidden hrow
 have HEACH := hidden heach
 have HGE := hidden hge
 have HCLS := hidden hcl
 clear hcl hrow heach hge
 have HB8 : Hid (Below w0.heap.size w0 v4) := HBW.out.trans (HQ4.out.mono hwC)
 go_wp2
 have hz0 : ((v4.setCell ⟨q0, 0, none⟩ (.int .i64 vx)).setCell ⟨q0, 1, none⟩ (.slice a cn c)).cell? ⟨q0, 0, none⟩ = some (.int .i64 vx) := (World.cell?_setCell_other (h := fun e => by cases e) ..).trans (World.cell?_setCell_same (h := r0) ..)
 have hz1 : ((v4.setCell ⟨q0, 0, none⟩ (.int .i64 vx)).setCell ⟨q0, 1, none⟩ (.slice a cn c)).cell? ⟨q0, 1, none⟩ = some (.slice a cn c) := World.cell?_setCell_same (h := (World.cell?_setCell_other (h := fun e => by cases e) ..).trans r1) ..
 have HG9 := hidden (grown_trans' (gset v4 q0 0 (.int .i64 vx)) (gset (v4.setCell ⟨q0, 0, none⟩ (.int .i64 vx)) q0 1 (.slice a cn c)))
 generalize World.setCell _ (⟨q0, 1, none⟩ : Addr) _ = w9 at HG9 hz0 hz1 ⊢
 clear r0 r1 y0 y1 f4 f5
 (try simp only [Exit.inBlock, Exit.then])
 refine bodyPost_ret (fn := Try.f29) (v := .agg #[.int .i64 vx, .slice a cn c]) ?_ rfl ?_
 ·simp [results, Try.results29, go_sem, *]
 exact fm_keep HCN.out (HCLS.out.trans HFE.out.1.symm) HROW.out HEACH.out HGE.out hq0 HG9.out HB8.out hwq (HVV.out.trans HFE.out.2.symm)
end Go.Proofs.Ytefjicdhccfieaa

set_option maxRecDepth 100000
set_option maxHeartbeats 16000000
namespace Go.Proofs.Ytefjicdhccfieaa
open Go.RowKit
theorem formed1 (B0 : Nat) (w0 : World) (SA SB : GrS) (A B : GrD) (okA : OkB A) (okB : OkB B) (hB0 : B0 ≤ w0.heap.size) (JC : ∀ w', Below w0.heap.size w0 w' → Calls Try.prog 26 #[.agg #[.int .i64 A.ins, .slice SA.a1 A.lats.length SA.c1, .slice SA.a2 A.ands.length SA.c2, .slice SA.a3 A.outs.length SA.c3], .agg #[.int .i64 B.ins, .slice SB.a1 B.lats.length SB.c1, .slice SB.a2 B.ands.length SB.c2, .slice SB.a3 B.outs.length SB.c3]] w' fun e w'' => JnP w' (joinG A B) e w'') (pa : Option Addr) (pc : Nat) (prs : List AndD) (R : RowAt B0 w0 pa 2 (prs.map AndD.cells)) (hpl : ∀ d, d ∈ prs → (0 ≤ d.x ∧ d.x ≤ 4000000) ∧ (0 ≤ d.y ∧ d.y ≤ 4000000)) (hpn : prs.length ≤ 400000) :
  Calls Try.prog 29 #[.agg (SA.cells A), .agg (SB.cells B), .slice pa prs.length pc, .int .i64 1] w0 fun e w' => FmQ w0 (formV (joinG A B) prs 1) (formF (joinG A B) prs 1) e w' := by
 have HJ : Hid (JnB (joinG A B)) := join_bounds okA okB
 have JC0 := hidden JC
 clear JC okA okB
 generalize joinG A B = G at *
 have HPL := hidden hpl
 have HR0 := hidden R
 have ha1 := HJ.out.a1
 have hl1 := HJ.out.l1
 have ho1 := HJ.out.o1
 have hi0 := HJ.out.i0
 have hi1 := HJ.out.i1
 clear hpl R
 unfold GrS.cells
 go_enter Try.func29, Try.ntmps29
 go_upto_region 1 with fail
 obtain ⟨o1, ho1⟩ : ∃ o, o = Obj.cells #[.int .i64 A.ins, .slice SA.a1 A.lats.length SA.c1, .slice SA.a2 A.ands.length SA.c2, .slice SA.a3 A.outs.length SA.c3] 30 (0, 0) := ⟨_, rfl⟩
 obtain ⟨o2, ho2⟩ : ∃ o, o = Obj.cells #[.int .i64 B.ins, .slice SB.a1 B.lats.length SB.c1, .slice SB.a2 B.ands.length SB.c2, .slice SB.a3 B.outs.length SB.c3] 30 (0, 0) := ⟨_, rfl⟩
 obtain ⟨o3, ho3⟩ : ∃ o, o = Obj.cells #[.int .i64 0, .slice none 0 0] 24 (0, 0) := ⟨_, rfl⟩
 rw [← ho1, ← ho2, ← ho3]
 have s1 : (w0.alloc o1).heap.size = w0.heap.size + 1 := by simp
 have b1 := heap_new w0 o1
 have B1 : Below w0.heap.size w0 (w0.alloc o1) := (Below.refl _ _).alloc (Nat.le_refl _) _
 generalize w0.alloc o1 = w1 at *
 have s2 : (w1.alloc o2).heap.size = w1.heap.size + 1 := by simp
 have b2 := heap_new w1 o2
 have B2 : Below w1.heap.size w1 (w1.alloc o2) := (Below.refl _ _).alloc (Nat.le_refl _) _
 generalize w1.alloc o2 = w2 at *
 have s3 : (w2.alloc o3).heap.size = w2.heap.size + 1 := by simp
 have b3 := heap_new w2 o3
 have B3 : Below w2.heap.size w2 (w2.alloc o3) := (Below.refl _ _).alloc (Nat.le_refl _) _
 generalize w2.alloc o3 = W at *
 obtain ⟨ga, h5⟩ : ∃ x, x = w0.heap.size := ⟨_, rfl⟩
 obtain ⟨gb, h6⟩ : ∃ x, x = w0.heap.size + 1 := ⟨_, rfl⟩
 obtain ⟨q0, h7⟩ : ∃ x, x = w0.heap.size + 1 + 1 := ⟨_, rfl⟩
 have d5 : W.heap[ga]? = some o1 := (B3.block ga (by omega)).trans ((B2.block ga (by omega)).trans (by rw [h5]; exact b1))
 have d6 : W.heap[gb]? = some o2 := (B3.block gb (by omega)).trans (by rw [h6, ← s1]; exact b2)
 have d7 : W.heap[q0]? = some o3 := by rw [h7, ← s1, ← s2]; exact b3
 rw [ho1] at d5
 rw [ho2] at d6
 rw [ho3] at d7
 have HQ9 := hidden d7
 have hql : q0 < W.heap.size := by omega
 have hwq : w0.heap.size ≤ q0 := by omega
 have HXA : Hid (BoxAt W ga SA A) := ⟨by omega, (cell_of_row _ _ 0 _ _ (0, 0) d5).trans rfl, (cell_of_row _ _ 1 _ _ (0, 0) d5).trans rfl, (cell_of_row _ _ 2 _ _ (0, 0) d5).trans rfl, (cell_of_row _ _ 3 _ _ (0, 0) d5).trans rfl⟩
 have HXB : Hid (BoxAt W gb SB B) := ⟨by omega, (cell_of_row _ _ 0 _ _ (0, 0) d6).trans rfl, (cell_of_row _ _ 1 _ _ (0, 0) d6).trans rfl, (cell_of_row _ _ 2 _ _ (0, 0) d6).trans rfl, (cell_of_row _ _ 3 _ _ (0, 0) d6).trans rfl⟩
 have HBW0 : Hid (Below w0.heap.size w0 W) := B1.trans ((B2.trans (B3.mono (by omega))).mono (by omega))
 rw [← h7, ← h6, ← h5]
 have hws : w0.heap.size ≤ W.heap.size := HBW0.out.size
 clear b1 b2 b3 B1 B2 B3 s1 s2 s3 h5 h6 h7 d5 d6 d7 ho1 ho2 ho3
 have x0 := HXA.out.c0
 have x1 := HXA.out.c1
 have x2 := HXA.out.c2
 have x3 := HXA.out.c3
 have z0 := HXB.out.c0
 have z1 := HXB.out.c1
 have z2 := HXB.out.c2
 have z3 := HXB.out.c3
 go_wp2_with fail
 go_at_call 26
 refine (JC0.out W HBW0.out).mono ?_
 rintro e w3 ⟨S, he, hat3, hb3⟩
 unfold GrS.cells at he
 subst he
 clear x0 x1 x2 x3 z0 z1 z2 z3
 have HB3 := hidden hb3
 have HA3 := hidden hat3
 clear hb3 hat3
 go_upto_region 2 with fail
 generalize hW : World.alloc w3 _ = w
 obtain ⟨C, hC⟩ : ∃ x, x = w3.heap.size := ⟨_, rfl⟩
 obtain ⟨mb, hmb⟩ : ∃ x, x = w3.heap.size := ⟨_, rfl⟩
 have HBM : Hid (Below w3.heap.size w3 w) := by rw [← hW]; exact (Below.refl _ _).alloc (Nat.le_refl _) _
 have HWM : Hid (w.heap[mb]? = some (.cells #[.int .i64 G.ins, .slice S.a1 G.lats.length S.c1, .slice S.a2 G.ands.length S.c2, .slice S.a3 G.outs.length S.c3, .int .i64 0, .slice none 0 0] 98 (0, 0))) := by rw [← hW, hmb]; exact heap_new _ _
 rw [← hmb]
 have hCm : C ≤ mb := by omega
 have h3s := HB3.out.size
 have hq0 : q0 < C := by omega
 have hwC : w0.heap.size ≤ C := by omega
 have HBW : Hid (Below w0.heap.size w0 w) := HBW0.out.trans ((HB3.out.trans (HBM.out.mono HB3.out.size)).mono hws)
 have HQ8 : Hid (w.heap[q0]? = some (.cells #[.int .i64 0, .slice none 0 0] 24 (0, 0))) := (HBM.out.block q0 (by omega)).trans ((HB3.out.block q0 hql).trans HQ9.out)
 have hBC : B0 ≤ C := by omega
 have HGT : Hid (∀ w', Below C w w' → GrAt C w' S G) := fun w' hb => by
  have h1 : GrAt C w S G := by rw [hC]; exact HA3.out.to HBM.out
  exact h1.to hb
 have HM0 : Hid (MFP C w mb S G 0 [] []) := ⟨.slice none 0 0, [], ⟨HWM.out, rfl, World.ownsRow_nil _ _ _ _, by simp [Value.ownBlock], fun t ht => (by cases ht), fun t ht => (by cases ht), hCm⟩, rfl, fun b hb => (by cases hb)⟩
 have HR : Hid (∀ w', Below C w w' → RowAt C w' pa 2 (prs.map AndD.cells)) := fun w' hb => ((HR0.out.to (HBW.out.mono hB0)).mono hBC).to hb
 have HQ0 : Hid (Below C w w) := Below.refl _ _
 clear hW hC hmb HBM HWM HB3 HA3 HQ9 HXA HXB HR0 JC0
 obtain ⟨an, HAN⟩ : ∃ n, Hid (n = G.ands.length) := ⟨_, rfl⟩
 obtain ⟨ln, HLN⟩ : ∃ n, Hid (n = G.lats.length) := ⟨_, rfl⟩
 rw [← HLN.out] at hl1
 have FI : Hid ((frameF G.vars 0 G).length ≤ 1 + 3 * an ∧ (frameF G.vars 1 G).length ≤ 1 + 3 * an ∧ an ≤ 200000 ∧ ln ≤ 20000 ∧ ((List.range ln).flatMap (initF G.vars G)).length ≤ 1 * ln ∧ ((List.range ln).flatMap (goOnF G.vars G)).length ≤ 2 * ln ∧ ((List.range prs.length).flatMap (alikeF G.vars 0 prs)).length ≤ 2 * prs.length) := ⟨by rw [HAN.out]; exact frameF_len _ _ _, by rw [HAN.out]; exact frameF_len _ _ _, by rw [HAN.out]; exact ha1, hl1, flat_len _ 1 (begin_any_len _ _) _, flat_len _ 2 (goOn_any_len _ _) _, flat_len _ 2 (alike_any_len _ _ _) _⟩
 have hw0 : ((1 : Int) == 0) = false := rfl
 have hw1 : ((1 : Int) == 1) = true := rfl
 go_wp2_with fail
 go_at_call 53
 refine (frame_doc C _ mb S G 0 _ HM0.out HJ.out (HGT.out _ HQ0.out) 0 (by decide) (by have := FI.out; have := HAN.out; simp only [List.length_nil]; omega)).mono ?_
 rintro e v1 ⟨rfl, hmx1, hbx1⟩
 have HM1 := hidden hmx1
 have HQ1 : Hid (Below C w v1) := HQ0.out.trans hbx1
 clear hmx1 hbx1
 go_wp2_with fail
 go_at_call 53
 refine (frame_doc C _ mb S G 0 _ HM1.out HJ.out (HGT.out _ HQ1.out) 1 (by decide) (by have := FI.out; have := HAN.out; rw [List.nil_append]; omega)).mono ?_
 rintro e v2 ⟨rfl, hmx2, hbx2⟩
 have HM2 := hidden hmx2
 have HQ2 : Hid (Below C w v2) := HQ1.out.trans hbx2
 clear hmx2 hbx2
 have g1 : v2.cell? ⟨mb, 1, none⟩ = some (.slice S.a1 ln S.c1) := by rw [HLN.out]; exact HM2.out.boxAt.c1
 obtain ⟨F1, HF1⟩ : ∃ z : List (List Int), Hid (z = [] ++ frameF G.vars 0 G ++ frameF G.vars 1 G) := ⟨[] ++ frameF G.vars 0 G ++ frameF G.vars 1 G, hidden rfl⟩
 rw [← HF1.out] at HM2
 obtain ⟨f1, HFL⟩ : ∃ z, Hid (z = F1.length) := ⟨_, rfl⟩
 have hf1 : f1 ≤ 2 + 6 * an := by rw [HFL.out, HF1.out, List.nil_append, List.length_append]; have := FI.out; omega
 go_wp2_with fail
 clear g1
 go_loopw [12] (fun i' w' => ∃ (i : Nat), i ≤ ln ∧ i' = .int .i64 i ∧ Hid (MFP C w' mb S G 0 (F1 ++ (List.range i).flatMap (goOnF G.vars G)) []) ∧ Hid (Below C w w')) (fun i' _ => ln - (intOf i').toNat)
 case atStart => exact ⟨0, Nat.zero_le _, rfl, by show MFP _ _ _ _ _ _ _ _; simpa using HM2.out, HQ2.out⟩
 case round =>
  clear HM2 HQ2
  obtain ⟨i, hi, rfl, HM1, HQ1⟩ := hrel
  have g1 : wr.cell? ⟨mb, 1, none⟩ = some (.slice S.a1 ln S.c1) := by rw [HLN.out]; exact HM1.out.boxAt.c1
  by_cases hlt : i < ln
  ·have hltI : (i : Int) < (ln : Int) := by omega
   obtain ⟨d, hd⟩ := getElem_lt (show i < G.lats.length by have := HLN.out; omega)
   obtain ⟨b, o, ea, hlb, hc⟩ := (HGT.out _ HQ1.out).l.el hd
   have HC1 : Hid (∀ w', Below C wr w' → w'.cell? ⟨b, o + i * 2, none⟩ = some (.int .i64 d.next)) := fun w' hb => (hb.cell (p := ⟨b, o + i * 2, none⟩) hlb).trans (hc 0 _ rfl)
   have HG1 : Hid (∀ w', BoxAt w' mb S G → w'.cell? ⟨mb, 1, none⟩ = some (.slice (some ⟨b, o, none⟩) ln S.c1)) := fun w' hm => by rw [HLN.out, ← ea]; exact hm.c1
   have g0 : wr.cell? ⟨mb, 0, none⟩ = some (.int .i64 G.ins) := HM1.out.boxAt.c0
   have hdl := HJ.out.latL d (List.mem_of_getElem? hd)
   have HGF : Hid (goOnF G.vars G i = [[-(numF G.vars 1 (2 * (1 + G.ins + (i : Int)))), numF G.vars 0 d.next], [numF G.vars 1 (2 * (1 + G.ins + (i : Int))), -(numF G.vars 0 d.next)]]) := by show _ = _; unfold goOnF; rw [hd]
   rw [ea] at g1
   have HLEN : Hid ((F1 ++ (List.range i).flatMap (goOnF G.vars G)).length ≤ f1 + 2 * i) := by
    have := flat_len (goOnF G.vars G) 2 (goOn_any_len _ _) i
    have := HFL.out
    simp only [List.length_append]
    show _ ≤ _
    omega
   have e3 : IntKind.i64.wrap ((i : Int) + 1) = (i : Int) + 1 := wrapI _ (by omega) (by omega)
   have e4 : IntKind.i64.wrap (1 + G.ins + (i : Int)) = 1 + G.ins + (i : Int) := wrapI _ (by omega) (by omega)
   have e5 : IntKind.i64.wrap (2 * (1 + G.ins + (i : Int))) = 2 * (1 + G.ins + (i : Int)) := wrapI _ (by omega) (by omega)
   obtain ⟨nx, it⟩ := d
   dsimp only at HC1 hdl HGF
   clear hc hlb ea hd
   obtain ⟨FF, HFF⟩ : ∃ z, Hid (z = (F1 ++ (List.range i).flatMap (goOnF G.vars G))) := ⟨_, rfl⟩
   rw [← HFF.out] at HM1 HLEN
   obtain ⟨X, HX⟩ : ∃ zz, Hid (zz = numF G.vars 1 (2 * (1 + G.ins + (i : Int)))) := ⟨_, rfl⟩
   have hXb : -4000000 ≤ X ∧ X ≤ 4000000 := by rw [HX.out]; exact numF_le HJ.out.vs (by decide) (by omega)
   have NX : Hid (∀ w', BoxAt w' mb S G → Calls Try.prog 55 #[.pointer (some ⟨mb, 0, none⟩), .int .i64 1, .int .i64 (2 * (1 + G.ins + (i : Int)))] w' fun e w'' => e = .returned (.int .i64 X) ∧ Below w'.heap.size w' w'') := fun w' hc => by rw [HX.out]; exact at_doc w' mb S G hc HJ.out.i0 HJ.out.i1 (by have := HJ.out.l1; simp only [big]; omega) (by have := HJ.out.a1; simp only [big]; omega) HJ.out.vs 1 (2 * (1 + G.ins + (i : Int))) (by decide) (by omega)
   have enX : IntKind.i64.wrap (-X) = -X := wrapI _ (by omega) (by omega)
   obtain ⟨Y, HY⟩ : ∃ zz, Hid (zz = numF G.vars 0 (nx)) := ⟨_, rfl⟩
   have hYb : -4000000 ≤ Y ∧ Y ≤ 4000000 := by rw [HY.out]; exact numF_le HJ.out.vs (by decide) hdl
   have NY : Hid (∀ w', BoxAt w' mb S G → Calls Try.prog 55 #[.pointer (some ⟨mb, 0, none⟩), .int .i64 0, .int .i64 (nx)] w' fun e w'' => e = .returned (.int .i64 Y) ∧ Below w'.heap.size w' w'') := fun w' hc => by rw [HY.out]; exact at_doc w' mb S G hc HJ.out.i0 HJ.out.i1 (by have := HJ.out.l1; simp only [big]; omega) (by have := HJ.out.a1; simp only [big]; omega) HJ.out.vs 0 (nx) (by decide) hdl
   have enY : IntKind.i64.wrap (-Y) = -Y := wrapI _ (by omega) (by omega)
   rw [← HX.out, ← HY.out] at HGF
   go_wp2_with fail
   go_at_call 55
   refine (NX.out _ HM1.out.boxAt).mono ?_
   rintro e v2 ⟨rfl, hbx2⟩
   have HM2 := hidden (HM1.out.rest hbx2)
   have HQ2 : Hid (Below C w v2) := HQ1.out.trans (hbx2.mono HM1.out.size)
   clear g0 g1
   have g1 := HG1.out _ HM2.out.boxAt
   have c0 := HC1.out _ (hbx2.mono HM1.out.size)
   clear hbx2
   go_wp2_with fail
   go_at_call 55
   refine (NY.out _ HM2.out.boxAt).mono ?_
   rintro e v3 ⟨rfl, hbx3⟩
   have HM3 := hidden (HM2.out.rest hbx3)
   have HQ3 : Hid (Below C w v3) := HQ2.out.trans (hbx3.mono HM2.out.size)
   clear c0 g1 hbx3
   go_wp2_with fail
   go_at_call 54
   refine (put2 C _ mb S G 0 _ [] HM3.out (-X) (Y) (by have := HLEN.out; have := FI.out; omega)).mono ?_
   rintro e v4 ⟨rfl, hmx4, hbx4, -⟩
   have HM4 := hidden hmx4
   have HQ4 : Hid (Below C w v4) := HQ3.out.trans hbx4
   clear hmx4 hbx4
   go_wp2_with fail
   go_at_call 54
   refine (put2 C _ mb S G 0 _ [] HM4.out (X) (-Y) (by have := HLEN.out; have := FI.out; simp only [List.length_append, List.length_cons, List.length_nil]; omega)).mono ?_
   rintro e v5 ⟨rfl, hmx5, hbx5, -⟩
   have HM5 := hidden hmx5
   have HQ5 : Hid (Below C w v5) := HQ4.out.trans hbx5
   clear hmx5 hbx5
   have HM9 : Hid (MFP C v5 mb S G 0 (F1 ++ (List.range (i + 1)).flatMap (goOnF G.vars G)) []) := by
    have := HM5.out
    rw [HFF.out] at this
    show MFP _ _ _ _ _ _ _ _
    rw [flat_next, ← List.append_assoc, HGF.out]
    simpa using this
   clear HM1 HM2 HM3 HM4 HM5
   go_wp2
   go_roundw
   case measure => simp [intOf]; omega
   case rel => exact ⟨i + 1, by omega, by simp, HM9.out, HQ5.out⟩
  ·have hge : ¬ ((i : Int) < (ln : Int)) := by omega
   have HM3 : Hid (MFP C wr mb S G 0 (F1 ++ (List.range ln).flatMap (goOnF G.vars G)) []) := by rw [show ln = i by omega]; exact HM1.out
   have HQ3 := HQ1
   clear HM1 HQ1
   have HFE : Hid (formF G prs 1 = F1 ++ (List.range ln).flatMap (goOnF G.vars G) ++ (List.range prs.length).flatMap (alikeF G.vars 0 prs) ++ (List.range prs.length).flatMap (unlikeF G.vars 1 (2 * G.vars) prs) ++ [someF (2 * G.vars) prs.length] ∧ formV G prs 1 = 2 * G.vars + prs.length) := by rw [HF1.out, HLN.out, List.nil_append]; exact ⟨rfl, rfl⟩
   go_wp2_with fail
   go_at_call 57
   refine (same_doc C _ mb S G 0 _ HM3.out HJ.out pa pc prs (HR.out _ HQ3.out) HPL.out 0 (by decide) (by have := FI.out; rw [List.length_append]; have := HFL.out; omega)).mono ?_
   rintro e v4 ⟨rfl, hmx4, hbx4⟩
   have HM4 := hidden hmx4
   have HQ4 : Hid (Below C w v4) := HQ3.out.trans hbx4
   clear hmx4 hbx4
   go_wp2_with fail
   go_at_call 56
   refine (unlike_doc C _ mb S G 0 _ HM4.out HJ.out pa pc prs (HR.out _ HQ4.out) HPL.out 1 (by decide) 2 (by decide) (by have := FI.out; rw [List.length_append, List.length_append]; have := HFL.out; omega)).mono ?_
   rintro e v5 ⟨rfl, hmx5, hbx5⟩
   have HM5 := hidden hmx5
   have HQ5 : Hid (Below C w v5) := HQ4.out.trans hbx5
   clear hmx5 hbx5
   obtain ⟨a, c, cls, f4, f5, hcl, hrow, heach, hge⟩ := HM5.out.fm
   have HR8 : Hid (v5.heap[q0]? = some (.cells #[.int .i64 0, .slice none 0 0] 24 (0, 0))) := (HQ5.out.block q0 hq0).trans HQ8.out
   have r0 : v5.cell? ⟨q0, 0, none⟩ = some (.int .i64 0) := cell_of_row _ _ 0 _ _ (0, 0) HR8.out
   have r1 : v5.cell? ⟨q0, 1, none⟩ = some (.slice none 0 0) := cell_of_row _ _ 1 _ _ (0, 0) HR8.out
   have y0 : v5.frozen? ⟨q0, 0, none⟩ = false := frozen_of_row v5 q0 0 _ _ HR8.out
   have y1 : v5.frozen? ⟨q0, 1, none⟩ = false := frozen_of_row v5 q0 1 _ _ HR8.out
   obtain ⟨cn, HCN⟩ : ∃ n, Hid (n = cls.length) := ⟨_, rfl⟩
   obtain ⟨vx, HVV⟩ : ∃ n, Hid (n = 2 * G.vars + (prs.length : Int)) := ⟨_, rfl⟩
   rw [← HCN.out] at f5
   rw [← HVV.out] at f4
   have HROW := hidden hrow
   have HEACH := hidden heach
   have HGE := hidden hge
   have HCLS := hidden hcl
   clear hcl hrow heach hge
   have HB8 : Hid (Below w0.heap.size w0 v5) := HBW.out.trans (HQ5.out.mono hwC)
   go_wp2
   have hz0 : ((v5.setCell ⟨q0, 0, none⟩ (.int .i64 vx)).setCell ⟨q0, 1, none⟩ (.slice a cn c)).cell? ⟨q0, 0, none⟩ = some (.int .i64 vx) := (World.cell?_setCell_other (h := fun e => by cases e) ..).trans (World.cell?_setCell_same (h := r0) ..)
   have hz1 : ((v5.setCell ⟨q0, 0, none⟩ (.int .i64 vx)).setCell ⟨q0, 1, none⟩ (.slice a cn c)).cell? ⟨q0, 1, none⟩ = some (.slice a cn c) := World.cell?_setCell_same (h := (World.cell?_setCell_other (h := fun e => by cases e) ..).trans r1) ..
   have HG9 := hidden (grown_trans' (gset v5 q0 0 (.int .i64 vx)) (gset (v5.setCell ⟨q0, 0, none⟩ (.int .i64 vx)) q0 1 (.slice a cn c)))
   generalize World.setCell _ (⟨q0, 1, none⟩ : Addr) _ = w9 at HG9 hz0 hz1 ⊢
   clear r0 r1 y0 y1 f4 f5
   (try simp only [Exit.inBlock, Exit.then])
   refine bodyPost_ret (fn := Try.f29) (v := .agg #[.int .i64 vx, .slice a cn c]) ?_ rfl ?_
   ·simp [results, Try.results29, go_sem, *]
   exact fm_keep HCN.out (HCLS.out.trans HFE.out.1.symm) HROW.out HEACH.out HGE.out hq0 HG9.out HB8.out hwq (HVV.out.trans HFE.out.2.symm)
end Go.Proofs.Ytefjicdhccfieaa
