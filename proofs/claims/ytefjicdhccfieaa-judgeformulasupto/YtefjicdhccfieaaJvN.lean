import Derived.Test.YtefjicdhccfieaaJvI
import Derived.Test.YtefjicdhccfieaaJvL
import Derived.Test.YtefjicdhccfieaaJvK
import Derived.Test.YtefjicdhccfieaaJuQb
namespace Go.Proofs.Ytefjicdhccfieaa
open Go.RowKit

set_option maxRecDepth 100000 in
set_option maxHeartbeats 8000000 in
theorem join_any (B0 : Nat) (w0 : World) (SA SB : GrS) (A B : GrD) (hA : GrAt B0 w0 SA A) (hB : GrAt B0 w0 SB B) (hB0 : B0 ≤ w0.heap.size) (hal : AlikeG A B = true) :
    Calls Try.prog 24 #[.agg (SA.cells A), .agg (SB.cells B)] w0 fun e w' => JnP w0 (joinG A B) e w' := by
  obtain ⟨hga, hgb, -, -⟩ := alike_ok hal
  have okA := okB_of hga
  have okB := okB_of hgb
  clear hga hgb
  have AC : Hid (∀ w' pa pb, Below w0.heap.size w0 w' → BoxAt w' pa SA A → BoxAt w' pb SB B → Calls Try.prog 31 #[.pointer (some ⟨pa, 0, none⟩), .pointer (some ⟨pb, 0, none⟩)] w' fun e w'' => e = .returned (.bool true) ∧ Below w'.heap.size w' w'') := fun w' pa pb hb h1 h2 => by
    have := areAlike_any B0 w' pa pb SA SB A B h1 h2 (hA.to (hb.mono hB0)) (hB.to (hb.mono hB0)) (Nat.le_trans hB0 hb.size)
    rwa [hal] at this
  have JC : Hid (∀ w' pa pb, Below w0.heap.size w0 w' → BoxAt w' pa SA A → BoxAt w' pb SB B → Calls Try.prog 32 #[.pointer (some ⟨pa, 0, none⟩), .pointer (some ⟨pb, 0, none⟩)] w' fun e w'' => JnQ w' (joinG A B) e w'') := fun w' pa pb hb h1 h2 => joined_new B0 w' pa pb SA SB A B h1 h2 (hA.to (hb.mono hB0)) (hB.to (hb.mono hB0)) (Nat.le_trans hB0 hb.size) okA okB
  generalize joinG A B = G at *
  clear hA hB okA okB
  unfold GrS.cells
  go_enter Try.func24, Try.ntmps24
  go_upto_region 1 with fail
  obtain ⟨o1, ho1⟩ : ∃ o, o = Obj.cells #[.int .i64 A.ins, .slice SA.a1 A.lats.length SA.c1, .slice SA.a2 A.ands.length SA.c2, .slice SA.a3 A.outs.length SA.c3] 30 (0, 0) := ⟨_, rfl⟩
  obtain ⟨o2, ho2⟩ : ∃ o, o = Obj.cells #[.int .i64 B.ins, .slice SB.a1 B.lats.length SB.c1, .slice SB.a2 B.ands.length SB.c2, .slice SB.a3 B.outs.length SB.c3] 30 (0, 0) := ⟨_, rfl⟩
  obtain ⟨o3, ho3⟩ : ∃ o, o = Obj.cells #[.int .i64 0, .slice none 0 0, .slice none 0 0, .slice none 0 0] 30 (0, 0) := ⟨_, rfl⟩
  rw [← ho1, ← ho2, ← ho3]
  have s1 : (w0.alloc o1).heap.size = w0.heap.size + 1 := by simp
  have b1 := heap_new w0 o1
  have B1 : Below w0.heap.size w0 (w0.alloc o1) := (Below.refl _ _).alloc (Nat.le_refl _) _
  generalize w0.alloc o1 = w1 at *
  have s2 : (w1.alloc o2).heap.size = w1.heap.size + 1 := by simp
  have b2 := heap_new w1 o2
  have B2 : Below w1.heap.size w1 (w1.alloc o2) := (Below.refl _ _).alloc (Nat.le_refl _) _
  generalize w1.alloc o2 = w2 at *
  have s3 : (w2.alloc o3).heap.size = w2.heap.size + 1 := by simp
  have b3 := heap_new w2 o3
  have B3 : Below w2.heap.size w2 (w2.alloc o3) := (Below.refl _ _).alloc (Nat.le_refl _) _
  generalize w2.alloc o3 = W at *
  obtain ⟨ga, h5⟩ : ∃ x, x = w0.heap.size := ⟨_, rfl⟩
  obtain ⟨gb, h6⟩ : ∃ x, x = w0.heap.size + 1 := ⟨_, rfl⟩
  obtain ⟨q0, h7⟩ : ∃ x, x = w0.heap.size + 1 + 1 := ⟨_, rfl⟩
  have d5 : W.heap[ga]? = some o1 := (B3.block ga (by omega)).trans ((B2.block ga (by omega)).trans (by rw [h5]; exact b1))
  have d6 : W.heap[gb]? = some o2 := (B3.block gb (by omega)).trans (by rw [h6, ← s1]; exact b2)
  have d7 : W.heap[q0]? = some o3 := by rw [h7, ← s1, ← s2]; exact b3
  rw [ho1] at d5
  rw [ho2] at d6
  rw [ho3] at d7
  have HQ9 := hidden d7
  have hql : q0 < W.heap.size := by omega
  have hwq : w0.heap.size ≤ q0 := by omega
  have HXA : Hid (BoxAt W ga SA A) := ⟨by omega, (cell_of_row _ _ 0 _ _ (0, 0) d5).trans rfl, (cell_of_row _ _ 1 _ _ (0, 0) d5).trans rfl, (cell_of_row _ _ 2 _ _ (0, 0) d5).trans rfl, (cell_of_row _ _ 3 _ _ (0, 0) d5).trans rfl⟩
  have HXB : Hid (BoxAt W gb SB B) := ⟨by omega, (cell_of_row _ _ 0 _ _ (0, 0) d6).trans rfl, (cell_of_row _ _ 1 _ _ (0, 0) d6).trans rfl, (cell_of_row _ _ 2 _ _ (0, 0) d6).trans rfl, (cell_of_row _ _ 3 _ _ (0, 0) d6).trans rfl⟩
  have HBW0 : Hid (Below w0.heap.size w0 W) := B1.trans ((B2.trans (B3.mono (by omega))).mono (by omega))
  rw [← h7, ← h6, ← h5]
  have hws : w0.heap.size ≤ W.heap.size := HBW0.out.size
  clear b1 b2 b3 B1 B2 B3 s1 s2 s3 h5 h6 h7 d5 d6 d7 ho1 ho2 ho3
  go_wp2_with fail
  go_at_call 31
  refine (AC.out _ _ _ HBW0.out HXA.out HXB.out).mono ?_
  rintro e w3 ⟨rfl, hb3⟩
  have HB3 : Hid (Below W.heap.size W w3) := hb3
  clear hb3
  have HBW3 : Hid (Below w0.heap.size w0 w3) := HBW0.out.trans (HB3.out.mono hws)
  have h3s := HB3.out.size
  have HXA3 := hidden (HXA.out.to HXA.out.lt HB3.out)
  have HXB3 := hidden (HXB.out.to HXB.out.lt HB3.out)
  go_wp2_with fail
  go_at_call 32
  refine (JC.out _ _ _ HBW3.out HXA3.out HXB3.out).mono ?_
  rintro e w4 ⟨S, he, hat4, hb4, hn1, hn2, hn3⟩
  unfold GrS.cells at he
  subst he
  have HNW := hidden (show (∀ x, S.a1 = some x → w3.heap.size ≤ x.block) ∧ (∀ x, S.a2 = some x → w3.heap.size ≤ x.block) ∧ ∀ x, S.a3 = some x → w3.heap.size ≤ x.block from ⟨hn1, hn2, hn3⟩)
  have HA4 := hidden hat4
  have HB4 := hidden hb4
  have hb4s := hb4.size
  clear hat4 hb4 hn1 hn2 hn3
  have HR4 : Hid (w4.heap[q0]? = some (.cells #[.int .i64 0, .slice none 0 0, .slice none 0 0, .slice none 0 0] 30 (0, 0))) := (HB4.out.block q0 (by omega)).trans ((HB3.out.block q0 hql).trans HQ9.out)
  have HBW4 : Hid (Below w0.heap.size w0 w4) := HBW3.out.trans (HB4.out.mono HBW3.out.size)
  have r0 := cell_of_row _ _ 0 _ _ (0, 0) HR4.out
  have r1 := cell_of_row _ _ 1 _ _ (0, 0) HR4.out
  have r2 := cell_of_row _ _ 2 _ _ (0, 0) HR4.out
  have r3 := cell_of_row _ _ 3 _ _ (0, 0) HR4.out
  have y0 := frozen_of_row _ _ 0 _ _ HR4.out
  have y1 := frozen_of_row _ _ 1 _ _ HR4.out
  have y2 := frozen_of_row _ _ 2 _ _ HR4.out
  have y3 := frozen_of_row _ _ 3 _ _ HR4.out
  simp at r0 r1 r2 r3
  obtain ⟨n1, HN1⟩ : ∃ n, Hid (n = G.lats.length) := ⟨_, rfl⟩
  obtain ⟨n2, HN2⟩ : ∃ n, Hid (n = G.ands.length) := ⟨_, rfl⟩
  obtain ⟨n3, HN3⟩ : ∃ n, Hid (n = G.outs.length) := ⟨_, rfl⟩
  obtain ⟨ni, HNI⟩ : ∃ x, Hid (x = G.ins) := ⟨_, rfl⟩
  rw [← HN1.out, ← HN2.out, ← HN3.out, ← HNI.out]
  clear AC JC
  go_wp2
  obtain ⟨z0, z1, z2, z3⟩ := set4 r0 r1 r2 r3 (.int .i64 ni) (.slice S.a1 n1 S.c1) (.slice S.a2 n2 S.c2) (.slice S.a3 n3 S.c3)
  have HG9 : Hid (w4.grownBy ((((w4.setCell ⟨q0, 0, none⟩ (.int .i64 ni)).setCell ⟨q0, 1, none⟩ (.slice S.a1 n1 S.c1)).setCell ⟨q0, 2, none⟩ (.slice S.a2 n2 S.c2)).setCell ⟨q0, 3, none⟩ (.slice S.a3 n3 S.c3)) (some q0)) := grown_trans' (grown_trans' (grown_trans' (gset _ _ _ _) (gset _ _ _ _)) (gset _ _ _ _)) (gset _ _ _ _)
  generalize World.setCell _ (⟨q0, 3, none⟩ : Addr) _ = w9 at HG9 z0 z1 z2 z3 ⊢
  clear r0 r1 r2 r3 y0 y1 y2 y3
  (try simp only [Exit.inBlock, Exit.then])
  refine bodyPost_ret (fn := Try.f24) (v := .agg #[.int .i64 ni, .slice S.a1 n1 S.c1, .slice S.a2 n2 S.c2, .slice S.a3 n3 S.c3]) ?_ rfl ?_
  · simp [results, Try.results24, go_sem, *]
  have hk : ∀ (a' : Option Addr) (els : List (List Value)) (sz : Nat), RowAt w4.heap.size w4 a' sz els → (∀ x, a' = some x → w3.heap.size ≤ x.block) → RowAt w9.heap.size w9 a' sz els := fun a' els sz hr hc he => by
    obtain ⟨b, o, ha, hlt, hcell⟩ := hr he
    have hbC : w3.heap.size ≤ b := hc _ ha
    refine ⟨b, o, ha, Nat.lt_of_lt_of_le hlt HG9.out.size, fun i l' hl j v hv => ?_⟩
    refine (World.cell?_of_block (HG9.out.block b hlt (fun e => ?_))).trans (hcell i l' hl j v hv)
    have := Option.some.inj e
    omega
  refine ⟨S, ?_, ⟨hk _ _ _ HA4.out.l HNW.out.1, hk _ _ _ HA4.out.a HNW.out.2.1, hk _ _ _ HA4.out.o HNW.out.2.2, HA4.out.ll, HA4.out.la, HA4.out.lo⟩, HBW4.out.trans (below_of HG9.out hwq HBW4.out.size)⟩
  rw [HN1.out, HN2.out, HN3.out, HNI.out]
  rfl

set_option maxRecDepth 100000 in
set_option maxHeartbeats 8000000 in
theorem formula_any (B0 : Nat) (w0 : World) (SA SB : GrS) (A B : GrD) (hA : GrAt B0 w0 SA A) (hB : GrAt B0 w0 SB B) (hB0 : B0 ≤ w0.heap.size) (hal : AlikeG A B = true) (pa : Option Addr) (pc : Nat) (prs : List AndD) (R : RowAt B0 w0 pa 2 (prs.map AndD.cells)) (hok : pairsOk (joinG A B).vars prs = true) (hpn : prs.length ≤ 400000) (which : Nat) (hwh : which = 0 ∨ which = 1 ∨ which = 2) :
    Calls Try.prog 28 #[.agg (SA.cells A), .agg (SB.cells B), .slice pa prs.length pc, .int .i64 (which : Int)] w0 fun e w' => FmQ w0 (formV (joinG A B) prs which) (formF (joinG A B) prs which) e w' := by
  obtain ⟨hga, hgb, -, -⟩ := alike_ok hal
  have okA := okB_of hga
  have okB := okB_of hgb
  have hj := join_bounds okA okB
  have hpl := pairs_le hok hj.vs.2
  clear hga hgb
  have AC : Hid (∀ w' pa pb, Below w0.heap.size w0 w' → BoxAt w' pa SA A → BoxAt w' pb SB B → Calls Try.prog 31 #[.pointer (some ⟨pa, 0, none⟩), .pointer (some ⟨pb, 0, none⟩)] w' fun e w'' => e = .returned (.bool true) ∧ Below w'.heap.size w' w'') := fun w' pa pb hb h1 h2 => by
    have := areAlike_any B0 w' pa pb SA SB A B h1 h2 (hA.to (hb.mono hB0)) (hB.to (hb.mono hB0)) (Nat.le_trans hB0 hb.size)
    rwa [hal] at this
  have JC : Hid (∀ w' pa pb, Below w0.heap.size w0 w' → BoxAt w' pa SA A → BoxAt w' pb SB B → Calls Try.prog 32 #[.pointer (some ⟨pa, 0, none⟩), .pointer (some ⟨pb, 0, none⟩)] w' fun e w'' => JnP w' (joinG A B) e w'') := fun w' pa pb hb h1 h2 => joined_any B0 w' pa pb SA SB A B h1 h2 (hA.to (hb.mono hB0)) (hB.to (hb.mono hB0)) (Nat.le_trans hB0 hb.size) okA okB
  have HRR : Hid (∀ w', Below w0.heap.size w0 w' → RowAt B0 w' pa 2 (prs.map AndD.cells)) := fun w' hb => R.to (hb.mono hB0)
  generalize joinG A B = G at *
  have LC : Hid (∀ w' gp (S : GrS), Below w0.heap.size w0 w' → BoxAt w' gp S G → Calls Try.prog 33 #[.pointer (some ⟨gp, 0, none⟩), .slice pa prs.length pc] w' fun e w'' => e = .returned (.bool true) ∧ Below w'.heap.size w' w'') := fun w' gp S hb h1 => by
    have := areLiterals_any B0 w' gp S G h1 hj.i0 hj.i1 (by have := hj.l1; simp only [big]; omega) (by have := hj.a1; simp only [big]; omega) hj.vs.2 hj.vs.1 pa pc prs (HRR.out w' hb) (Nat.le_trans hB0 hb.size) (by simp only [big]; omega)
    rwa [hok] at this
  have WC : Hid (∀ w' gp (S : GrS), Below w0.heap.size w0 w' → BoxAt w' gp S G → GrAt w'.heap.size w' S G → Calls Try.prog 34 #[.pointer (some ⟨gp, 0, none⟩), .slice pa prs.length pc, .int .i64 (which : Int)] w' fun e w'' => FmN w' (formV G prs which) (formF G prs which) e w'') := fun w' gp S hb h1 h2 =>
    written_new w'.heap.size w' gp S G ⟨h1, h1.lt, h2, hj.i0, hj.i1, hj.l1, hj.a1, hj.o1, hj.andL, hj.latL, hj.outL⟩ (Nat.le_refl _) pa pc prs ((HRR.out w' hb).mono (Nat.le_trans hB0 hb.size)) hpl hpn which hwh
  have hw0 : ¬ ((which : Int) < 0) := by omega
  have hw2 : ¬ (2 < (which : Int)) := by omega
  clear hA hB okA okB R hpl hj hok
  generalize formV G prs which = fv at *
  generalize formF G prs which = ff at *
  unfold GrS.cells
  go_enter Try.func28, Try.ntmps28
  go_upto_region 1 with fail
  obtain ⟨o1, ho1⟩ : ∃ o, o = Obj.cells #[.int .i64 A.ins, .slice SA.a1 A.lats.length SA.c1, .slice SA.a2 A.ands.length SA.c2, .slice SA.a3 A.outs.length SA.c3] 30 (0, 0) := ⟨_, rfl⟩
  obtain ⟨o2, ho2⟩ : ∃ o, o = Obj.cells #[.int .i64 B.ins, .slice SB.a1 B.lats.length SB.c1, .slice SB.a2 B.ands.length SB.c2, .slice SB.a3 B.outs.length SB.c3] 30 (0, 0) := ⟨_, rfl⟩
  obtain ⟨o3, ho3⟩ : ∃ o, o = Obj.cells #[.int .i64 0, .slice none 0 0] 24 (0, 0) := ⟨_, rfl⟩
  rw [← ho1, ← ho2, ← ho3]
  have s1 : (w0.alloc o1).heap.size = w0.heap.size + 1 := by simp
  have b1 := heap_new w0 o1
  have B1 : Below w0.heap.size w0 (w0.alloc o1) := (Below.refl _ _).alloc (Nat.le_refl _) _
  generalize w0.alloc o1 = w1 at *
  have s2 : (w1.alloc o2).heap.size = w1.heap.size + 1 := by simp
  have b2 := heap_new w1 o2
  have B2 : Below w1.heap.size w1 (w1.alloc o2) := (Below.refl _ _).alloc (Nat.le_refl _) _
  generalize w1.alloc o2 = w2 at *
  have s3 : (w2.alloc o3).heap.size = w2.heap.size + 1 := by simp
  have b3 := heap_new w2 o3
  have B3 : Below w2.heap.size w2 (w2.alloc o3) := (Below.refl _ _).alloc (Nat.le_refl _) _
  generalize w2.alloc o3 = W at *
  obtain ⟨ga, h5⟩ : ∃ x, x = w0.heap.size := ⟨_, rfl⟩
  obtain ⟨gb, h6⟩ : ∃ x, x = w0.heap.size + 1 := ⟨_, rfl⟩
  obtain ⟨q0, h7⟩ : ∃ x, x = w0.heap.size + 1 + 1 := ⟨_, rfl⟩
  have d5 : W.heap[ga]? = some o1 := (B3.block ga (by omega)).trans ((B2.block ga (by omega)).trans (by rw [h5]; exact b1))
  have d6 : W.heap[gb]? = some o2 := (B3.block gb (by omega)).trans (by rw [h6, ← s1]; exact b2)
  have d7 : W.heap[q0]? = some o3 := by rw [h7, ← s1, ← s2]; exact b3
  rw [ho1] at d5
  rw [ho2] at d6
  rw [ho3] at d7
  have HQ9 := hidden d7
  have hql : q0 < W.heap.size := by omega
  have hwq : w0.heap.size ≤ q0 := by omega
  have HXA : Hid (BoxAt W ga SA A) := ⟨by omega, (cell_of_row _ _ 0 _ _ (0, 0) d5).trans rfl, (cell_of_row _ _ 1 _ _ (0, 0) d5).trans rfl, (cell_of_row _ _ 2 _ _ (0, 0) d5).trans rfl, (cell_of_row _ _ 3 _ _ (0, 0) d5).trans rfl⟩
  have HXB : Hid (BoxAt W gb SB B) := ⟨by omega, (cell_of_row _ _ 0 _ _ (0, 0) d6).trans rfl, (cell_of_row _ _ 1 _ _ (0, 0) d6).trans rfl, (cell_of_row _ _ 2 _ _ (0, 0) d6).trans rfl, (cell_of_row _ _ 3 _ _ (0, 0) d6).trans rfl⟩
  have HBW0 : Hid (Below w0.heap.size w0 W) := B1.trans ((B2.trans (B3.mono (by omega))).mono (by omega))
  rw [← h7, ← h6, ← h5]
  have hws : w0.heap.size ≤ W.heap.size := HBW0.out.size
  clear b1 b2 b3 B1 B2 B3 s1 s2 s3 h5 h6 h7 d5 d6 d7 ho1 ho2 ho3
  go_wp2_with fail
  go_at_call 31
  refine (AC.out _ _ _ HBW0.out HXA.out HXB.out).mono ?_
  rintro e w3 ⟨rfl, hb3⟩
  have HB3 : Hid (Below W.heap.size W w3) := hb3
  clear hb3
  have HBW3 : Hid (Below w0.heap.size w0 w3) := HBW0.out.trans (HB3.out.mono hws)
  have h3s := HB3.out.size
  have HXA3 := hidden (HXA.out.to HXA.out.lt HB3.out)
  have HXB3 := hidden (HXB.out.to HXB.out.lt HB3.out)
  go_wp2_with fail
  go_at_call 32
  refine (JC.out _ _ _ HBW3.out HXA3.out HXB3.out).mono ?_
  rintro e w4 ⟨S, he, hat4, hb4⟩
  unfold GrS.cells at he
  subst he
  have HA4 := hidden hat4
  have HB4 := hidden hb4
  have hb4s := hb4.size
  clear hat4 hb4
  have HBW4 : Hid (Below w0.heap.size w0 w4) := HBW3.out.trans (HB4.out.mono HBW3.out.size)
  clear AC JC
  go_upto_region 4 with fail
  generalize hW5 : World.alloc w4 _ = w5
  obtain ⟨gg, hgg⟩ : ∃ x, x = w4.heap.size := ⟨_, rfl⟩
  have HB5 : Hid (Below w4.heap.size w4 w5) := by rw [← hW5]; exact (Below.refl _ _).alloc (Nat.le_refl _) _
  have d5 : w5.heap[gg]? = some (.cells #[.int .i64 G.ins, .slice S.a1 G.lats.length S.c1, .slice S.a2 G.ands.length S.c2, .slice S.a3 G.outs.length S.c3] 30 (0, 0)) := by rw [← hW5, hgg]; exact heap_new _ _
  have HX5 : Hid (BoxAt w5 gg S G) := ⟨(Array.getElem?_eq_some_iff.1 d5).1, (cell_of_row _ _ 0 _ _ (0, 0) d5).trans rfl, (cell_of_row _ _ 1 _ _ (0, 0) d5).trans rfl, (cell_of_row _ _ 2 _ _ (0, 0) d5).trans rfl, (cell_of_row _ _ 3 _ _ (0, 0) d5).trans rfl⟩
  rw [← hgg]
  have h5s := HB5.out.size
  have HA5 : Hid (GrAt w4.heap.size w5 S G) := HA4.out.to HB5.out
  have HBW5 : Hid (Below w0.heap.size w0 w5) := HBW4.out.trans (HB5.out.mono HBW4.out.size)
  have HR5 : Hid (w5.heap[q0]? = some (.cells #[.int .i64 0, .slice none 0 0] 24 (0, 0))) := (HB5.out.block q0 (by omega)).trans ((HB4.out.block q0 (by omega)).trans ((HB3.out.block q0 hql).trans HQ9.out))
  clear hW5 hgg d5
  go_wp2_with fail
  go_at_call 33
  refine (LC.out _ _ S HBW5.out HX5.out).mono ?_
  rintro e w6 ⟨rfl, hb6⟩
  have HB6 := hidden hb6
  have h6s := hb6.size
  clear hb6
  have HX6 := hidden (HX5.out.to HX5.out.lt HB6.out)
  have HA6 : Hid (GrAt w6.heap.size w6 S G) := (HA5.out.to (HB6.out.mono (by omega))).mono (by omega)
  have HBW6 : Hid (Below w0.heap.size w0 w6) := HBW5.out.trans (HB6.out.mono HBW5.out.size)
  go_wp2_with fail
  go_at_call 34
  refine (WC.out _ _ S HBW6.out HX6.out HA6.out).mono ?_
  rintro e w8 ⟨a, c, cls, rfl, hcl, hrow, heach, hb8, hge⟩
  have HB8 : Hid (Below w0.heap.size w0 w8) := HBW6.out.trans (hb8.mono HBW6.out.size)
  have HR8 : Hid (w8.heap[q0]? = some (.cells #[.int .i64 0, .slice none 0 0] 24 (0, 0))) := (hb8.block q0 (by omega)).trans ((HB6.out.block q0 (by omega)).trans HR5.out)
  have r0 : w8.cell? ⟨q0, 0, none⟩ = some (.int .i64 0) := cell_of_row _ _ 0 _ _ (0, 0) HR8.out
  have r1 : w8.cell? ⟨q0, 1, none⟩ = some (.slice none 0 0) := cell_of_row _ _ 1 _ _ (0, 0) HR8.out
  have y0 : w8.frozen? ⟨q0, 0, none⟩ = false := frozen_of_row w8 q0 0 _ _ HR8.out
  have y1 : w8.frozen? ⟨q0, 1, none⟩ = false := frozen_of_row w8 q0 1 _ _ HR8.out
  obtain ⟨cn, HCN⟩ : ∃ n, Hid (n = cls.length) := ⟨_, rfl⟩
  rw [← HCN.out]
  have HROW := hidden hrow
  have HEACH := hidden heach
  have HGE := hidden hge
  have HCLS := hidden hcl
  clear hcl hrow heach hge hb8 LC WC
  go_wp2
  have hz0 : ((w8.setCell ⟨q0, 0, none⟩ (.int .i64 fv)).setCell ⟨q0, 1, none⟩ (.slice a cn c)).cell? ⟨q0, 0, none⟩ = some (.int .i64 fv) := (World.cell?_setCell_other (h := fun e => by cases e) ..).trans (World.cell?_setCell_same (h := r0) ..)
  have hz1 : ((w8.setCell ⟨q0, 0, none⟩ (.int .i64 fv)).setCell ⟨q0, 1, none⟩ (.slice a cn c)).cell? ⟨q0, 1, none⟩ = some (.slice a cn c) := World.cell?_setCell_same (h := (World.cell?_setCell_other (h := fun e => by cases e) ..).trans r1) ..
  have HG9 := hidden (grown_trans' (gset w8 q0 0 (.int .i64 fv)) (gset (w8.setCell ⟨q0, 0, none⟩ (.int .i64 fv)) q0 1 (.slice a cn c)))
  generalize World.setCell _ (⟨q0, 1, none⟩ : Addr) _ = w9 at HG9 hz0 hz1 ⊢
  clear r0 r1 y0 y1
  (try simp only [Exit.inBlock, Exit.then])
  refine bodyPost_ret (fn := Try.f28) (v := .agg #[.int .i64 fv, .slice a cn c]) ?_ rfl ?_
  · simp [results, Try.results28, go_sem, *]
  exact fm_keep (C := w6.heap.size) HCN.out HCLS.out HROW.out HEACH.out HGE.out (by omega) HG9.out HB8.out hwq rfl

end Go.Proofs.Ytefjicdhccfieaa
