import Derived.Test.YtefjicdhccfieaaJ01
import Derived.Test.YtefjicdhccfieaaJ13
import Derived.Test.YtefjicdhccfieaaJ06
import Derived.Test.YtefjicdhccfieaaJ19
import Derived.Test.YtefjicdhccfieaaJ23
import Derived.Test.YtefjicdhccfieaaJ26
import Derived.Test.YtefjicdhccfieaaJ20
import Derived.Test.YtefjicdhccfieaaJ03
import Derived.Test.YtefjicdhccfieaaJ08
import Derived.ChangeKeysEq
set_option maxRecDepth 100000
set_option maxHeartbeats 16000000
namespace Go.Proofs.Ytefjicdhccfieaa
open Go.RowKit
def totL (F : List (List Int)) : Nat := (F.map fun c => c.length + 1).sum
theorem totL_app (a b : List (List Int)) : totL (a ++ b) = totL a + totL b := by simp [totL]
theorem totL_cl (cls : List CL) : total cls = totL (cls.map CL.l) := by simp [total, totL, Function.comp_def]
theorem totL_flat (f : Nat → List (List Int)) (n : Nat) (hf : ∀ i, totL (f i) ≤ n) (k : Nat) : totL ((List.range k).flatMap f) ≤ n * k := by
 induction k with
 | zero => simp [totL]
 | succ k ih => rw [flat_next, totL_app, Nat.mul_succ]; have := hf k; omega
theorem gateF_tot (sz k : Int) (G : GrD) (i : Nat) : totL (gateF sz k G i) ≤ 10 := by unfold gateF; split <;> simp [totL]
theorem initF_tot (sz : Int) (G : GrD) (i : Nat) : totL (initF sz G i) ≤ 2 := by unfold initF; split <;> simp [totL]
theorem goOnF_tot (sz : Int) (G : GrD) (i : Nat) : totL (goOnF sz G i) ≤ 6 := by unfold goOnF; split <;> simp [totL]
theorem alikeF_tot (sz k : Int) (prs : List AndD) (i : Nat) : totL (alikeF sz k prs i) ≤ 6 := by unfold alikeF; split <;> simp [totL]
theorem unlikeF_tot (sz k bf : Int) (prs : List AndD) (i : Nat) : totL (unlikeF sz k bf prs i) ≤ 8 := by unfold unlikeF; split <;> simp [totL]
theorem someF_tot (bf : Int) (n : Nat) : totL [someF bf n] = n + 1 := by simp [totL, someF]
theorem frameF_tot (sz k : Int) (G : GrD) : totL (frameF sz k G) ≤ 2 + 10 * G.ands.length := by
 unfold frameF
 rw [totL_app]
 have := totL_flat _ 10 (gateF_tot sz k G) G.ands.length
 simp only [totL, List.map_cons, List.map_nil, List.sum_cons, List.sum_nil, List.length_cons, List.length_nil] at *
 omega
theorem formF_tot {G : GrD} (ha : G.ands.length ≤ 200000) (hl : G.lats.length ≤ 20000) (ho : G.outs.length ≤ 200000) (prs : List AndD) (hp : prs.length ≤ 400000) (which : Nat) : totL (formF G prs which) ≤ 12000000 := by
 have f0 := frameF_tot G.vars 0 G
 have f1 := frameF_tot G.vars 1 G
 have hop := outPrs_len G.outs
 unfold formF
 split
 ·rw [totL_app, totL_app, totL_app, someF_tot]
  have h1 := totL_flat _ 2 (initF_tot G.vars G) G.lats.length
  have h2 := totL_flat _ 8 (unlikeF_tot G.vars 0 (1 * G.vars) prs) prs.length
  omega
 ·split
  ·rw [totL_app, totL_app, totL_app, totL_app, totL_app, someF_tot]
   have h1 := totL_flat _ 6 (goOnF_tot G.vars G) G.lats.length
   have h2 := totL_flat _ 8 (unlikeF_tot G.vars 1 (2 * G.vars) prs) prs.length
   have h3 := totL_flat _ 6 (alikeF_tot G.vars 0 prs) prs.length
   omega
  ·rw [totL_app, totL_app, totL_app, someF_tot]
   have h2 := totL_flat _ 8 (unlikeF_tot G.vars 0 (1 * G.vars) (outPrs G.outs)) (outPrs G.outs).length
   have h3 := totL_flat _ 6 (alikeF_tot G.vars 0 prs) prs.length
   omega
theorem fm_clAt {w' : World} {a : Option Addr} {cls : List CL} {F : List (List Int)} (hcl : cls.map CL.l = F) (hrow : RowAt w'.heap.size w' a 1 (cls.map CL.cells)) (heach : ∀ t, t ∈ cls → RowAt w'.heap.size w' t.a 1 (t.l.map intC)) (ht : totL F ≤ 12000000) : ClAt w'.heap.size w' a cls ∧ total cls ≤ 12000000 := by
 have e : total cls = totL F := by rw [totL_cl, hcl]
 exact ⟨⟨hrow, heach, by rw [e]; omega⟩, by rw [e]; exact ht⟩
end Go.Proofs.Ytefjicdhccfieaa

set_option maxRecDepth 100000
set_option maxHeartbeats 16000000
namespace Go.Proofs.Ytefjicdhccfieaa
open Go.RowKit
theorem alike_doc (C : Nat) (w : World) (SA SB : GrS) (A B : GrD) (hA : GrAt C w SA A) (hB : GrAt C w SB B) (hC : C ≤ w.heap.size) :
  Calls Try.prog 23 #[.agg (SA.cells A), .agg (SB.cells B)] w fun e w' => e = .returned (.bool (AlikeG A B)) ∧ Below w.heap.size w w' := by
 have HA := hidden hA
 have HB := hidden hB
 clear hA hB
 have HAL : Hid (AlikeG A B = (GrOk A && GrOk B && decide (A.ins = B.ins) && decide ((A.outs.length : Int) = B.outs.length))) := rfl
 unfold GrS.cells
 go_enter Try.func23, Try.ntmps23
 go_upto_region 1 with fail
 obtain ⟨o1, ho1⟩ : ∃ o, o = Obj.cells #[.int .i64 A.ins, .slice SA.a1 A.lats.length SA.c1, .slice SA.a2 A.ands.length SA.c2, .slice SA.a3 A.outs.length SA.c3] 30 (0, 0) := ⟨_, rfl⟩
 obtain ⟨o2, ho2⟩ : ∃ o, o = Obj.cells #[.int .i64 B.ins, .slice SB.a1 B.lats.length SB.c1, .slice SB.a2 B.ands.length SB.c2, .slice SB.a3 B.outs.length SB.c3] 30 (0, 0) := ⟨_, rfl⟩
 rw [← ho1, ← ho2]
 have s1 : (w.alloc o1).heap.size = w.heap.size + 1 := by simp
 have b1 := heap_new w o1
 have B1 : Below w.heap.size w (w.alloc o1) := (Below.refl _ _).alloc (Nat.le_refl _) _
 generalize w.alloc o1 = w1 at *
 have s2 : (w1.alloc o2).heap.size = w1.heap.size + 1 := by simp
 have b2 := heap_new w1 o2
 have B2 : Below w1.heap.size w1 (w1.alloc o2) := (Below.refl _ _).alloc (Nat.le_refl _) _
 generalize w1.alloc o2 = W at *
 obtain ⟨pa, h5⟩ : ∃ x, x = w.heap.size := ⟨_, rfl⟩
 obtain ⟨pb, h6⟩ : ∃ x, x = w.heap.size + 1 := ⟨_, rfl⟩
 have d5 : W.heap[pa]? = some o1 := (B2.block pa (by omega)).trans (by rw [h5]; exact b1)
 have d6 : W.heap[pb]? = some o2 := by rw [h6, ← s1]; exact b2
 rw [ho1] at d5
 rw [ho2] at d6
 have HXA : Hid (BoxAt W pa SA A) := ⟨by omega, (cell_of_row _ _ 0 _ _ (0, 0) d5).trans rfl, (cell_of_row _ _ 1 _ _ (0, 0) d5).trans rfl, (cell_of_row _ _ 2 _ _ (0, 0) d5).trans rfl, (cell_of_row _ _ 3 _ _ (0, 0) d5).trans rfl⟩
 have HXB : Hid (BoxAt W pb SB B) := ⟨by omega, (cell_of_row _ _ 0 _ _ (0, 0) d6).trans rfl, (cell_of_row _ _ 1 _ _ (0, 0) d6).trans rfl, (cell_of_row _ _ 2 _ _ (0, 0) d6).trans rfl, (cell_of_row _ _ 3 _ _ (0, 0) d6).trans rfl⟩
 have HBW0 : Hid (Below w.heap.size w W) := B1.trans (B2.mono (by omega))
 rw [← h6, ← h5]
 have hws : w.heap.size ≤ W.heap.size := HBW0.out.size
 clear b1 b2 B1 B2 s1 s2 h5 h6 d5 d6 ho1 ho2
 have GA : Hid (Calls Try.prog 49 #[.agg #[.int .i64 A.ins, .slice SA.a1 A.lats.length SA.c1, .slice SA.a2 A.ands.length SA.c2, .slice SA.a3 A.outs.length SA.c3]] W fun e w'' => e = .returned (.bool (GrOk A)) ∧ Below W.heap.size W w'') := graphValid_any C W SA A (HA.out.to (HBW0.out.mono hC)) (Nat.le_trans hC hws)
 have xa0 := HXA.out.c0
 have xa1 := HXA.out.c1
 have xa2 := HXA.out.c2
 have xa3 := HXA.out.c3
 go_wp2_with fail
 go_at_call 49
 refine GA.out.mono ?_
 rintro e w3 ⟨rfl, hb3⟩
 have HB3 := hidden hb3
 clear hb3 GA xa0 xa1 xa2 xa3
 have hw3 : W.heap.size ≤ w3.heap.size := HB3.out.size
 have GB : Hid (Calls Try.prog 49 #[.agg #[.int .i64 B.ins, .slice SB.a1 B.lats.length SB.c1, .slice SB.a2 B.ands.length SB.c2, .slice SB.a3 B.outs.length SB.c3]] w3 fun e w'' => e = .returned (.bool (GrOk B)) ∧ Below w3.heap.size w3 w'') := graphValid_any C w3 SB B ((HB.out.to (HBW0.out.mono hC)).to (HB3.out.mono (Nat.le_trans hC hws))) (Nat.le_trans hC (Nat.le_trans hws hw3))
 have xb := HXB.out.to HXB.out.lt HB3.out
 have xb0 := xb.c0
 have xb1 := xb.c1
 have xb2 := xb.c2
 have xb3 := xb.c3
 clear xb
 go_wp2_with fail
 go_at_call 49
 refine GB.out.mono ?_
 rintro e w4 ⟨rfl, hb4⟩
 have HB4 : Hid (Below W.heap.size W w4) := HB3.out.trans (hb4.mono hw3)
 clear hb4 GB xb0 xb1 xb2 xb3
 have xa := HXA.out.to HXA.out.lt HB4.out
 have xb := HXB.out.to HXB.out.lt HB4.out
 have xa0 := xa.c0
 have xa3 := xa.c3
 have xb0 := xb.c0
 have xb3 := xb.c3
 clear xa xb
 have HBF : Hid (Below w.heap.size w w4) := HBW0.out.trans (HB4.out.mono hws)
 generalize GrOk A = oa at *
 generalize GrOk B = ob at *
 cases oa
 ·have HR : Hid (AlikeG A B = false) := by show _ = _; rw [HAL.out]; rfl
  clear HAL
  go_wp2
  go_ret
  exact ⟨by rw [HR.out]; rfl, HBF.out⟩
 ·cases ob
  ·have HR : Hid (AlikeG A B = false) := by show _ = _; rw [HAL.out]; rfl
   clear HAL
   go_wp2
   go_ret
   exact ⟨by rw [HR.out]; rfl, HBF.out⟩
  ·by_cases h1 : A.ins = B.ins
   ·have HR : Hid (AlikeG A B = decide ((A.outs.length : Int) = B.outs.length)) := by show _ = _; rw [HAL.out, decide_eq_true h1]; rfl
    have h1' : decide (A.ins = B.ins) = true := decide_eq_true h1
    clear HAL
    go_wp2
    go_ret
    exact ⟨by rw [HR.out]; simp; first | rfl | exact Bool.beq_eq_decide_eq _ _, HBF.out⟩
   ·have HR : Hid (AlikeG A B = false) := by show _ = _; rw [HAL.out, decide_eq_false h1]; rfl
    have h1' : decide (A.ins = B.ins) = false := decide_eq_false h1
    clear HAL
    go_wp2
    go_ret
    exact ⟨by rw [HR.out]; rfl, HBF.out⟩
end Go.Proofs.Ytefjicdhccfieaa

set_option maxRecDepth 100000
set_option maxHeartbeats 16000000
namespace Go.Proofs.Ytefjicdhccfieaa
open Go.RowKit
theorem formed_doc (B0 : Nat) (w0 : World) (SA SB : GrS) (A B : GrD) (okA : OkB A) (okB : OkB B) (hB0 : B0 ≤ w0.heap.size) (JC : ∀ w', Below w0.heap.size w0 w' → Calls Try.prog 26 #[.agg #[.int .i64 A.ins, .slice SA.a1 A.lats.length SA.c1, .slice SA.a2 A.ands.length SA.c2, .slice SA.a3 A.outs.length SA.c3], .agg #[.int .i64 B.ins, .slice SB.a1 B.lats.length SB.c1, .slice SB.a2 B.ands.length SB.c2, .slice SB.a3 B.outs.length SB.c3]] w' fun e w'' => JnP w' (joinG A B) e w'') (pa : Option Addr) (pc : Nat) (prs : List AndD) (R : RowAt B0 w0 pa 2 (prs.map AndD.cells)) (hpl : ∀ d, d ∈ prs → (0 ≤ d.x ∧ d.x ≤ 4000000) ∧ (0 ≤ d.y ∧ d.y ≤ 4000000)) (hpn : prs.length ≤ 400000) (which : Nat) (hwh : which = 0 ∨ which = 1 ∨ which = 2) :
  Calls Try.prog 29 #[.agg (SA.cells A), .agg (SB.cells B), .slice pa prs.length pc, .int .i64 (which : Int)] w0 fun e w' => FmQ w0 (formV (joinG A B) prs which) (formF (joinG A B) prs which) e w' := by
 rcases hwh with rfl | rfl | rfl
 ·exact formed0 B0 w0 SA SB A B okA okB hB0 JC pa pc prs R hpl hpn
 ·exact formed1 B0 w0 SA SB A B okA okB hB0 JC pa pc prs R hpl hpn
 ·exact formed2 B0 w0 SA SB A B okA okB hB0 JC pa pc prs R hpl hpn
end Go.Proofs.Ytefjicdhccfieaa
