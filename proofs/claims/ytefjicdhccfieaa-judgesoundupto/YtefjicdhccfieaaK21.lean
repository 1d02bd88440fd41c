import Derived.Test.YtefjicdhccfieaaK01
import Derived.Test.YtefjicdhccfieaaK20
import Derived.Test.YtefjicdhccfieaaK15
import Derived.Test.YtefjicdhccfieaaK02
import Derived.Deep.RegionHeld3
import Derived.Deep.Cut
import Derived.Test.YtefjicdhccfieaaK09
import Derived.Deep.CutBlock
set_option maxRecDepth 100000
set_option maxHeartbeats 16000000
namespace Go.Proofs.Ytefjicdhccfieaa
open Go.RowKit
theorem alike_ok {A B : GrD} (h : AlikeG A B = true) : GrOk A = true ∧ GrOk B = true ∧ A.ins = B.ins ∧ A.outs.length = B.outs.length := by
 unfold AlikeG at h
 rw [Bool.and_eq_true, Bool.and_eq_true, Bool.and_eq_true] at h
 obtain ⟨⟨⟨h1, h2⟩, h3⟩, h4⟩ := h
 refine ⟨h1, h2, of_decide_eq_true h3, ?_⟩
 have := of_decide_eq_true h4
 omega
structure JnB (G : GrD) : Prop where
 i0 : 0 ≤ G.ins
 i1 : G.ins ≤ 60000
 l1 : G.lats.length ≤ 20000
 a1 : G.ands.length ≤ 200000
 o1 : G.outs.length ≤ 200000
 andL : ∀ d, d ∈ G.ands → (0 ≤ d.x ∧ d.x ≤ 4000000) ∧ (0 ≤ d.y ∧ d.y ≤ 4000000)
 latL : ∀ d, d ∈ G.lats → 0 ≤ d.next ∧ d.next ≤ 4000000
 outL : ∀ x, x ∈ G.outs → 0 ≤ x ∧ x ≤ 4000000
theorem join_bounds {A B : GrD} (okA : OkB A) (okB : OkB B) : JnB (joinG A B) := by
 have hl : ((joinG A B).lats.length = A.lats.length + B.lats.length) ∧ ((joinG A B).ands.length = A.ands.length + B.ands.length) ∧ ((joinG A B).outs.length = A.outs.length + B.outs.length) := by
  obtain ⟨t1, t2, t3⟩ := takeG_lens (takeG ⟨A.ins, [], [], []⟩ A 0 B.lats.length) B A.lats.length (A.lats.length + A.ands.length)
  obtain ⟨q1, q2, q3⟩ := takeG_lens ⟨A.ins, [], [], []⟩ A 0 B.lats.length
  exact ⟨by show (takeG _ _ _ _).lats.length = _; rw [t1, q1]; simp, by show (takeG _ _ _ _).ands.length = _; rw [t2, q2]; simp, by show (takeG _ _ _ _).outs.length = _; rw [t3, q3]; simp⟩
 have a1 := okA.l1; have a2 := okA.a1; have a3 := okA.o1; have b1 := okB.l1; have b2 := okB.a1; have b3 := okB.o1
 have f1 : (0 : Int) ≤ 0 ∧ (0 : Int) ≤ 100000 := by omega
 have f2 : (0 : Int) ≤ B.lats.length ∧ (B.lats.length : Int) ≤ 100000 := by omega
 have f3 : (0 : Int) ≤ A.lats.length ∧ (A.lats.length : Int) ≤ 100000 := by omega
 have f4 : (0 : Int) ≤ (A.lats.length : Int) + A.ands.length ∧ (A.lats.length : Int) + A.ands.length ≤ 100000 := by omega
 refine ⟨okA.i0, okA.i1, by rw [hl.1]; omega, by rw [hl.2.1]; omega, by rw [hl.2.2]; omega, fun d hd => ?_, fun d hd => ?_, fun x hx => ?_⟩
 ·have hd' : d ∈ ([] ++ A.ands.map (mvA A 0 B.lats.length)) ++ B.ands.map (mvA B A.lats.length (A.lats.length + A.ands.length)) := hd
  rcases List.mem_append.1 hd' with h | h
  ·obtain ⟨c, hc, rfl⟩ := List.mem_map.1 (by simpa using h)
   exact ⟨mvF_le (okA.andL c hc).1 f1 f2, mvF_le (okA.andL c hc).2 f1 f2⟩
  ·obtain ⟨c, hc, rfl⟩ := List.mem_map.1 h
   exact ⟨mvF_le (okB.andL c hc).1 f3 f4, mvF_le (okB.andL c hc).2 f3 f4⟩
 ·have hd' : d ∈ ([] ++ A.lats.map (mvL A 0 B.lats.length)) ++ B.lats.map (mvL B A.lats.length (A.lats.length + A.ands.length)) := hd
  rcases List.mem_append.1 hd' with h | h
  ·obtain ⟨c, hc, rfl⟩ := List.mem_map.1 (by simpa using h)
   exact mvF_le (okA.latL c hc) f1 f2
  ·obtain ⟨c, hc, rfl⟩ := List.mem_map.1 h
   exact mvF_le (okB.latL c hc) f3 f4
 ·have hd' : x ∈ ([] ++ A.outs.map (mvF A 0 B.lats.length)) ++ B.outs.map (mvF B A.lats.length (A.lats.length + A.ands.length)) := hx
  rcases List.mem_append.1 hd' with h | h
  ·obtain ⟨c, hc, rfl⟩ := List.mem_map.1 (by simpa using h)
   exact mvF_le (okA.outL c hc) f1 f2
  ·obtain ⟨c, hc, rfl⟩ := List.mem_map.1 h
   exact mvF_le (okB.outL c hc) f3 f4
theorem pairs_le {n : Int} {prs : List AndD} (h : pairsOk n prs = true) (hn : n ≤ 1000000) : ∀ d, d ∈ prs → (0 ≤ d.x ∧ d.x ≤ 4000000) ∧ (0 ≤ d.y ∧ d.y ≤ 4000000) := fun d hd => by
 have := List.all_eq_true.1 h d hd
 rw [Bool.and_eq_true] at this
 have q1 := of_decide_eq_true this.1
 have q2 := of_decide_eq_true this.2
 omega
theorem JnB.vs {G : GrD} (h : JnB G) : 0 ≤ G.vars ∧ G.vars ≤ 1000000 := by
 have := h.i0; have := h.i1; have := h.l1; have := h.a1
 have e : G.vars = 1 + G.ins + G.lats.length + G.ands.length := rfl
 omega
end Go.Proofs.Ytefjicdhccfieaa

set_option maxRecDepth 100000
set_option maxHeartbeats 16000000
namespace Go.Proofs.Ytefjicdhccfieaa
open Go.RowKit
def totL (F : List (List Int)) : Nat := (F.map fun c => c.length + 1).sum
theorem totL_app (a b : List (List Int)) : totL (a ++ b) = totL a + totL b := by simp [totL]
theorem totL_cl (cls : List CL) : total cls = totL (cls.map CL.l) := by simp [total, totL, Function.comp_def]
theorem totL_flat (f : Nat → List (List Int)) (n : Nat) (hf : ∀ i, totL (f i) ≤ n) (k : Nat) : totL ((List.range k).flatMap f) ≤ n * k := by
 induction k with
 | zero => simp [totL]
 | succ k ih => rw [flat_next, totL_app, Nat.mul_succ]; have := hf k; omega
theorem gateF_tot (sz k : Int) (G : GrD) (i : Nat) : totL (gateF sz k G i) ≤ 10 := by unfold gateF; split <;> simp [totL]
theorem initF_tot (sz : Int) (G : GrD) (i : Nat) : totL (initF sz G i) ≤ 2 := by unfold initF; split <;> simp [totL]
theorem goOnF_tot (sz : Int) (G : GrD) (i : Nat) : totL (goOnF sz G i) ≤ 6 := by unfold goOnF; split <;> simp [totL]
theorem alikeF_tot (sz k : Int) (prs : List AndD) (i : Nat) : totL (alikeF sz k prs i) ≤ 6 := by unfold alikeF; split <;> simp [totL]
theorem unlikeF_tot (sz k bf : Int) (prs : List AndD) (i : Nat) : totL (unlikeF sz k bf prs i) ≤ 8 := by unfold unlikeF; split <;> simp [totL]
theorem someF_tot (bf : Int) (n : Nat) : totL [someF bf n] = n + 1 := by simp [totL, someF]
theorem frameF_tot (sz k : Int) (G : GrD) : totL (frameF sz k G) ≤ 2 + 10 * G.ands.length := by
 unfold frameF
 rw [totL_app]
 have := totL_flat _ 10 (gateF_tot sz k G) G.ands.length
 simp only [totL, List.map_cons, List.map_nil, List.sum_cons, List.sum_nil, List.length_cons, List.length_nil] at *
 omega
theorem formF_tot {G : GrD} (ha : G.ands.length ≤ 200000) (hl : G.lats.length ≤ 20000) (ho : G.outs.length ≤ 200000) (prs : List AndD) (hp : prs.length ≤ 400000) (which : Nat) : totL (formF G prs which) ≤ 12000000 := by
 have f0 := frameF_tot G.vars 0 G
 have f1 := frameF_tot G.vars 1 G
 have hop := outPrs_len G.outs
 unfold formF
 split
 ·rw [totL_app, totL_app, totL_app, someF_tot]
  have h1 := totL_flat _ 2 (initF_tot G.vars G) G.lats.length
  have h2 := totL_flat _ 8 (unlikeF_tot G.vars 0 (1 * G.vars) prs) prs.length
  omega
 ·split
  ·rw [totL_app, totL_app, totL_app, totL_app, totL_app, someF_tot]
   have h1 := totL_flat _ 6 (goOnF_tot G.vars G) G.lats.length
   have h2 := totL_flat _ 8 (unlikeF_tot G.vars 1 (2 * G.vars) prs) prs.length
   have h3 := totL_flat _ 6 (alikeF_tot G.vars 0 prs) prs.length
   omega
  ·rw [totL_app, totL_app, totL_app, someF_tot]
   have h2 := totL_flat _ 8 (unlikeF_tot G.vars 0 (1 * G.vars) (outPrs G.outs)) (outPrs G.outs).length
   have h3 := totL_flat _ 6 (alikeF_tot G.vars 0 prs) prs.length
   omega
theorem fm_clAt {w' : World} {a : Option Addr} {cls : List CL} {F : List (List Int)} (hcl : cls.map CL.l = F) (hrow : RowAt w'.heap.size w' a 1 (cls.map CL.cells)) (heach : ∀ t, t ∈ cls → RowAt w'.heap.size w' t.a 1 (t.l.map intC)) (ht : totL F ≤ 12000000) : ClAt w'.heap.size w' a cls ∧ total cls ≤ 12000000 := by
 have e : total cls = totL F := by rw [totL_cl, hcl]
 exact ⟨⟨hrow, heach, by rw [e]; omega⟩, by rw [e]; exact ht⟩
end Go.Proofs.Ytefjicdhccfieaa

set_option maxRecDepth 100000
set_option maxHeartbeats 16000000
namespace Go.Proofs.Ytefjicdhccfieaa
open Go.RowKit
def blockAt (n : Nat) : Code → Option Code
 | .block m c => if m = n then some (.block m c) else blockAt n c
 | .seq a b => match blockAt n a with
  | some c => some c
  | none => blockAt n b
 | .loop c => blockAt n c
 | .scope c => blockAt n c
 | .cond _ a b => match blockAt n a with
  | some c => some c
  | none => blockAt n b
 | _ => none
end Go.Proofs.Ytefjicdhccfieaa
