import Derived.Test.YtefjicdhccfieaaJ01
import Derived.Test.YtefjicdhccfieaaJ51
import Derived.Test.YtefjicdhccfieaaJ52
set_option maxRecDepth 100000
set_option maxHeartbeats 16000000
namespace Go.Proofs.Ytefjicdhccfieaa
open Go.RowKit
def oneG : GrD := ⟨1, [], [], []⟩
theorem refP_one {v : Int} {F : List (List Int)} (h0 : 0 ≤ v) (h1 : v ≤ 100000) (hl : ∀ d, d ∈ F → ∀ m, m ∈ d → litOk v m = true) (he : [] ∈ F) : RefP v F [[]] := by
 refine ⟨⟨h0, h1, hl⟩, rfl, fun i c hc => ?_⟩
 have hc' : c = [] := by
  have := List.mem_of_getElem? hc
  simpa using this
 subst hc'
 exact ⟨fun m hm => (by cases hm), .inr ⟨[], List.mem_append.2 (.inl he), fun m hm => by cases hm⟩⟩
theorem one_holds : HoldsG oneG oneG [] [[]] [[]] [[]] := by
 have f0 : formF (joinG oneG oneG) [] 0 = [[-1], []] := by decide
 have f1 : formF (joinG oneG oneG) [] 1 = [[-1], [-3], []] := by decide
 have f2 : formF (joinG oneG oneG) [] 2 = [[-1], []] := by decide
 have v0 : formV (joinG oneG oneG) [] 0 = 2 := by decide
 have v1 : formV (joinG oneG oneG) [] 1 = 4 := by decide
 have v2 : formV (joinG oneG oneG) [] 2 = 2 := by decide
 refine ⟨by decide, rfl, ?_, ?_, ?_⟩
 ·rw [f0, v0]; exact refP_one (by decide) (by decide) (by decide) (by decide)
 ·rw [f1, v1]; exact refP_one (by decide) (by decide) (by decide) (by decide)
 ·rw [f2, v2]; exact refP_one (by decide) (by decide) (by decide) (by decide)
theorem nil_clAt {w : World} {b : Nat} (h : w.heap[b]? = some (.cells #[.slice none 0 0] 26 (0, 0))) : ClAt w.heap.size w (some ⟨b, 0, none⟩) [⟨none, 0, []⟩] := by
 refine ⟨rowAt_flat (Array.getElem?_eq_some_iff.1 h).1 (fun l hl => by obtain ⟨q, _, rfl⟩ := List.mem_map.1 hl; rfl) (fun m v hm => ?_), fun t ht => ?_, by decide⟩
 ·rw [cell_of_row _ _ m _ _ _ h]
  simpa [CL.cells] using hm
 ·rw [List.mem_singleton.1 ht]; exact rowAt_nil
theorem one_any (w : World) (b1 b2 b3 : Nat) (h1 : w.heap[b1]? = some (.cells #[.slice none 0 0] 26 (0, 0))) (h2 : w.heap[b2]? = some (.cells #[.slice none 0 0] 26 (0, 0))) (h3 : w.heap[b3]? = some (.cells #[.slice none 0 0] 26 (0, 0))) :
  Calls Try.prog 11 #[.agg #[.int .i64 1, .slice none 0 0, .slice none 0 0, .slice none 0 0], .agg #[.int .i64 1, .slice none 0 0, .slice none 0 0, .slice none 0 0], .agg #[.slice none 0 0, .slice (some ⟨b1, 0, none⟩) 1 1, .slice (some ⟨b2, 0, none⟩) 1 1, .slice (some ⟨b3, 0, none⟩) 1 1]] w fun e w' => e = .returned (.bool true) ∧ Below w.heap.size w w' := by
 have g : GrAt w.heap.size w ⟨none, 0, none, 0, none, 0⟩ oneG := ⟨rowAt_nil, rowAt_nil, rowAt_nil, by simp [oneG, big], by simp [oneG, big], by simp [oneG, big]⟩
 refine (holds_any w.heap.size w ⟨none, 0, none, 0, none, 0⟩ ⟨none, 0, none, 0, none, 0⟩ oneG oneG g g (Nat.le_refl _) none 0 [] rowAt_nil (by simp) (some ⟨b1, 0, none⟩) 1 [⟨none, 0, []⟩] (nil_clAt h1) (by decide) (some ⟨b2, 0, none⟩) 1 [⟨none, 0, []⟩] (nil_clAt h2) (by decide) (some ⟨b3, 0, none⟩) 1 [⟨none, 0, []⟩] (nil_clAt h3) (by decide)).mono ?_
 rintro e w' ⟨b, rfl, hb, hw⟩
 have : b = true := hb.2 one_holds
 subst this
 exact ⟨rfl, hw⟩
end Go.Proofs.Ytefjicdhccfieaa

set_option maxRecDepth 100000
set_option maxHeartbeats 16000000
namespace Go.Proofs.Ytefjicdhccfieaa
open Go.RowKit
theorem law_holds (B0 : Nat) (w0 : World) (SA SB : GrS) (A B : GrD) (hA : GrAt B0 w0 SA A) (hB : GrAt B0 w0 SB B) (hB0 : B0 ≤ w0.heap.size) (xa : Option Addr) (xc : Nat) (prs : List AndD) (R : RowAt B0 w0 xa 2 (prs.map AndD.cells)) (hpn : prs.length ≤ 400000) (ba : Option Addr) (bc : Nat) (bcl : List CL) (hbc : ClAt B0 w0 ba bcl) (hbt : total bcl ≤ 1048576) (sa : Option Addr) (sc : Nat) (scl : List CL) (hsc : ClAt B0 w0 sa scl) (hst : total scl ≤ 1048576) (oa : Option Addr) (oc : Nat) (ocl : List CL) (hoc : ClAt B0 w0 oa ocl) (hot : total ocl ≤ 1048576) :
  Calls Try.prog 5 #[.agg (SA.cells A), .agg (SB.cells B), .agg #[.slice xa prs.length xc, .slice ba bcl.length bc, .slice sa scl.length sc, .slice oa ocl.length oc]] w0 fun e w' => e = .returned (.bool true) ∧ Below w0.heap.size w0 w' := by
 have PH : Hid (∀ w', Below w0.heap.size w0 w' → Calls Try.prog 11 #[.agg #[.int .i64 A.ins, .slice SA.a1 A.lats.length SA.c1, .slice SA.a2 A.ands.length SA.c2, .slice SA.a3 A.outs.length SA.c3], .agg #[.int .i64 B.ins, .slice SB.a1 B.lats.length SB.c1, .slice SB.a2 B.ands.length SB.c2, .slice SB.a3 B.outs.length SB.c3], .agg #[.slice xa prs.length xc, .slice ba bcl.length bc, .slice sa scl.length sc, .slice oa ocl.length oc]] w' fun e w'' => HldP w' A B prs (bcl.map CL.l) (scl.map CL.l) (ocl.map CL.l) e w'') := fun w' hb => holds_any B0 w' SA SB A B (hA.to (hb.mono hB0)) (hB.to (hb.mono hB0)) (Nat.le_trans hB0 hb.size) xa xc prs (R.to (hb.mono hB0)) hpn ba bc bcl (hbc.to (hb.mono hB0)) hbt sa sc scl (hsc.to (hb.mono hB0)) hst oa oc ocl (hoc.to (hb.mono hB0)) hot
 have DH : Hid (∀ w', Below w0.heap.size w0 w' → Calls Try.prog 12 #[.agg #[.int .i64 A.ins, .slice SA.a1 A.lats.length SA.c1, .slice SA.a2 A.ands.length SA.c2, .slice SA.a3 A.outs.length SA.c3], .agg #[.int .i64 B.ins, .slice SB.a1 B.lats.length SB.c1, .slice SB.a2 B.ands.length SB.c2, .slice SB.a3 B.outs.length SB.c3], .agg #[.slice xa prs.length xc, .slice ba bcl.length bc, .slice sa scl.length sc, .slice oa ocl.length oc]] w' fun e w'' => HldP w' A B prs (bcl.map CL.l) (scl.map CL.l) (ocl.map CL.l) e w'') := fun w' hb => certain_doc B0 w' SA SB A B (hA.to (hb.mono hB0)) (hB.to (hb.mono hB0)) (Nat.le_trans hB0 hb.size) xa xc prs (R.to (hb.mono hB0)) hpn ba bc bcl (hbc.to (hb.mono hB0)) hbt sa sc scl (hsc.to (hb.mono hB0)) hst oa oc ocl (hoc.to (hb.mono hB0)) hot
 obtain ⟨pn, HPN⟩ : ∃ x, Hid (x = prs.length) := ⟨_, rfl⟩
 obtain ⟨bn, HBN⟩ : ∃ x, Hid (x = bcl.length) := ⟨_, rfl⟩
 obtain ⟨sn, HSN⟩ : ∃ x, Hid (x = scl.length) := ⟨_, rfl⟩
 obtain ⟨on, HON⟩ : ∃ x, Hid (x = ocl.length) := ⟨_, rfl⟩
 rw [← HPN.out, ← HBN.out, ← HSN.out, ← HON.out] at PH DH
 rw [← HPN.out, ← HBN.out, ← HSN.out, ← HON.out]
 clear hA hB R hbc hsc hoc HPN HBN HSN HON
 unfold GrS.cells
 go_enter Try.func5, Try.ntmps5
 go_upto_region 1 with fail
 obtain ⟨o1, ho1⟩ : ∃ o, o = Obj.cells #[.int .i64 A.ins, .slice SA.a1 A.lats.length SA.c1, .slice SA.a2 A.ands.length SA.c2, .slice SA.a3 A.outs.length SA.c3] 30 (0, 0) := ⟨_, rfl⟩
 obtain ⟨o2, ho2⟩ : ∃ o, o = Obj.cells #[.int .i64 B.ins, .slice SB.a1 B.lats.length SB.c1, .slice SB.a2 B.ands.length SB.c2, .slice SB.a3 B.outs.length SB.c3] 30 (0, 0) := ⟨_, rfl⟩
 obtain ⟨o3, ho3⟩ : ∃ o, o = Obj.cells #[.slice xa pn xc, .slice ba bn bc, .slice sa sn sc, .slice oa on oc] 35 (0, 0) := ⟨_, rfl⟩
 rw [← ho1, ← ho2, ← ho3]
 have s1 : (w0.alloc o1).heap.size = w0.heap.size + 1 := by simp
 have b1 := heap_new w0 o1
 have B1 : Below w0.heap.size w0 (w0.alloc o1) := (Below.refl _ _).alloc (Nat.le_refl _) _
 generalize w0.alloc o1 = w1 at *
 have s2 : (w1.alloc o2).heap.size = w1.heap.size + 1 := by simp
 have b2 := heap_new w1 o2
 have B2 : Below w1.heap.size w1 (w1.alloc o2) := (Below.refl _ _).alloc (Nat.le_refl _) _
 generalize w1.alloc o2 = w2 at *
 have s3 : (w2.alloc o3).heap.size = w2.heap.size + 1 := by simp
 have b3 := heap_new w2 o3
 have B3 : Below w2.heap.size w2 (w2.alloc o3) := (Below.refl _ _).alloc (Nat.le_refl _) _
 generalize w2.alloc o3 = W at *
 obtain ⟨ga, h5⟩ : ∃ x, x = w0.heap.size := ⟨_, rfl⟩
 obtain ⟨gb, h6⟩ : ∃ x, x = w0.heap.size + 1 := ⟨_, rfl⟩
 obtain ⟨gc, h7⟩ : ∃ x, x = w0.heap.size + 1 + 1 := ⟨_, rfl⟩
 have d5 : W.heap[ga]? = some o1 := (B3.block ga (by omega)).trans ((B2.block ga (by omega)).trans (by rw [h5]; exact b1))
 have d6 : W.heap[gb]? = some o2 := (B3.block gb (by omega)).trans (by rw [h6, ← s1]; exact b2)
 have d7 : W.heap[gc]? = some o3 := by rw [h7, ← s1, ← s2]; exact b3
 rw [ho1] at d5
 rw [ho2] at d6
 rw [ho3] at d7
 have hgc : gc < W.heap.size := by omega
 have HXC : Hid (∀ w', Below W.heap.size W w' → w'.cell? ⟨gc, 0, none⟩ = some (.slice xa pn xc) ∧ w'.cell? ⟨gc, 1, none⟩ = some (.slice ba bn bc) ∧ w'.cell? ⟨gc, 2, none⟩ = some (.slice sa sn sc) ∧ w'.cell? ⟨gc, 3, none⟩ = some (.slice oa on oc)) := fun w' hb => ⟨(hb.cell (p := ⟨gc, 0, none⟩) hgc).trans ((cell_of_row _ _ 0 _ _ (0, 0) d7).trans rfl), (hb.cell (p := ⟨gc, 1, none⟩) hgc).trans ((cell_of_row _ _ 1 _ _ (0, 0) d7).trans rfl), (hb.cell (p := ⟨gc, 2, none⟩) hgc).trans ((cell_of_row _ _ 2 _ _ (0, 0) d7).trans rfl), (hb.cell (p := ⟨gc, 3, none⟩) hgc).trans ((cell_of_row _ _ 3 _ _ (0, 0) d7).trans rfl)⟩
 have HXA : Hid (BoxAt W ga SA A) := ⟨by omega, (cell_of_row _ _ 0 _ _ (0, 0) d5).trans rfl, (cell_of_row _ _ 1 _ _ (0, 0) d5).trans rfl, (cell_of_row _ _ 2 _ _ (0, 0) d5).trans rfl, (cell_of_row _ _ 3 _ _ (0, 0) d5).trans rfl⟩
 have HXB : Hid (BoxAt W gb SB B) := ⟨by omega, (cell_of_row _ _ 0 _ _ (0, 0) d6).trans rfl, (cell_of_row _ _ 1 _ _ (0, 0) d6).trans rfl, (cell_of_row _ _ 2 _ _ (0, 0) d6).trans rfl, (cell_of_row _ _ 3 _ _ (0, 0) d6).trans rfl⟩
 have HBW0 : Hid (Below w0.heap.size w0 W) := B1.trans ((B2.trans (B3.mono (by omega))).mono (by omega))
 rw [← h7, ← h6, ← h5]
 have hws : w0.heap.size ≤ W.heap.size := HBW0.out.size
 clear b1 b2 b3 B1 B2 B3 s1 s2 s3 h5 h6 h7 d5 d6 d7 ho1 ho2 ho3
 go_wp2_with fail
 obtain ⟨oz, hoz⟩ : ∃ o, o = Obj.cells #[.int .i64 1, .slice none 0 0, .slice none 0 0, .slice none 0 0] 30 (0, 0) := ⟨_, rfl⟩
 obtain ⟨on', hon⟩ : ∃ o, o = Obj.cells #[.slice none 0 0] 26 (0, 0) := ⟨_, rfl⟩
 rw [← hoz, ← hon]
 have t1 : (W.alloc oz).heap.size = W.heap.size + 1 := by simp
 have B1 : Below W.heap.size W (W.alloc oz) := (Below.refl _ _).alloc (Nat.le_refl _) _
 generalize W.alloc oz = k1 at *
 have t2 : (k1.alloc on').heap.size = k1.heap.size + 1 := by simp
 have n2 := heap_new k1 on'
 have B2 : Below k1.heap.size k1 (k1.alloc on') := (Below.refl _ _).alloc (Nat.le_refl _) _
 generalize k1.alloc on' = k2 at *
 have t3 : (k2.alloc on').heap.size = k2.heap.size + 1 := by simp
 have n3 := heap_new k2 on'
 have B3 : Below k2.heap.size k2 (k2.alloc on') := (Below.refl _ _).alloc (Nat.le_refl _) _
 generalize k2.alloc on' = k3 at *
 have t4 : (k3.alloc on').heap.size = k3.heap.size + 1 := by simp
 have n4 := heap_new k3 on'
 have B4 : Below k3.heap.size k3 (k3.alloc on') := (Below.refl _ _).alloc (Nat.le_refl _) _
 generalize k3.alloc on' = k4 at *
 have m2 : k4.heap[W.heap.size + 1]? = some on' := (B4.block _ (by omega)).trans ((B3.block _ (by omega)).trans (by rw [← t1]; exact n2))
 have m3 : k4.heap[W.heap.size + 1 + 1]? = some on' := (B4.block _ (by omega)).trans (by rw [← t1, ← t2]; exact n3)
 have m4 : k4.heap[W.heap.size + 1 + 1 + 1]? = some on' := by rw [← t1, ← t2, ← t3]; exact n4
 rw [hon] at m2 m3 m4
 have HONE := hidden (one_any k4 _ _ _ m2 m3 m4)
 have HQ2 : Hid (Below W.heap.size W k4) := B1.trans ((B2.trans ((B3.trans (B4.mono (by omega))).mono (by omega))).mono (by omega))
 clear t1 t2 t3 t4 n2 n3 n4 B1 B2 B3 B4 m2 m3 m4 hoz hon
 go_at_call 11
 refine HONE.out.mono ?_
 rintro e v3 ⟨rfl, hb3⟩
 have HQ3 : Hid (Below W.heap.size W v3) := HQ2.out.trans (hb3.mono HQ2.out.size)
 clear hb3 HONE
 have x0 := (HXA.out.to HXA.out.lt HQ3.out).c0
 have x1 := (HXA.out.to HXA.out.lt HQ3.out).c1
 have x2 := (HXA.out.to HXA.out.lt HQ3.out).c2
 have x3 := (HXA.out.to HXA.out.lt HQ3.out).c3
 have z0 := (HXB.out.to HXB.out.lt HQ3.out).c0
 have z1 := (HXB.out.to HXB.out.lt HQ3.out).c1
 have z2 := (HXB.out.to HXB.out.lt HQ3.out).c2
 have z3 := (HXB.out.to HXB.out.lt HQ3.out).c3
 have cc := HXC.out _ HQ3.out
 obtain ⟨cc0, cc1, cc2, cc3⟩ := cc
 go_wp2_with fail
 go_at_call 11
 refine (PH.out _ (HBW0.out.trans (HQ3.out.mono hws))).mono ?_
 rintro e v4 ⟨bx, rfl, hx, hb4⟩
 clear x0 x1 x2 x3 z0 z1 z2 z3
 clear cc0 cc1 cc2 cc3
 have HQ4 : Hid (Below W.heap.size W v4) := HQ3.out.trans (hb4.mono HQ3.out.size)
 have HX := hidden hx
 clear hb4 hx
 have x0 := (HXA.out.to HXA.out.lt HQ4.out).c0
 have x1 := (HXA.out.to HXA.out.lt HQ4.out).c1
 have x2 := (HXA.out.to HXA.out.lt HQ4.out).c2
 have x3 := (HXA.out.to HXA.out.lt HQ4.out).c3
 have z0 := (HXB.out.to HXB.out.lt HQ4.out).c0
 have z1 := (HXB.out.to HXB.out.lt HQ4.out).c1
 have z2 := (HXB.out.to HXB.out.lt HQ4.out).c2
 have z3 := (HXB.out.to HXB.out.lt HQ4.out).c3
 have cc := HXC.out _ HQ4.out
 obtain ⟨cc0, cc1, cc2, cc3⟩ := cc
 go_wp2_with fail
 go_at_call 12
 refine (DH.out _ (HBW0.out.trans (HQ4.out.mono hws))).mono ?_
 rintro e v5 ⟨bY, rfl, hy, hb5⟩
 clear x0 x1 x2 x3 z0 z1 z2 z3
 clear cc0 cc1 cc2 cc3
 have HQ5 : Hid (Below W.heap.size W v5) := HQ4.out.trans (hb5.mono HQ4.out.size)
 have hxy : bx = bY := by
  have := HX.out.trans hy.symm
  cases bx <;> cases bY <;> simp at this ⊢
 clear hb5 hy HX
 subst hxy
 go_wp2
 go_ret
 exact ⟨ret_bool (by simp), HBW0.out.trans (HQ5.out.mono hws)⟩
end Go.Proofs.Ytefjicdhccfieaa
