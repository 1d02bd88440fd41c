import Derived.Test.YtefjicdhccfieaaK01
import Derived.Test.YtefjicdhccfieaaK11
set_option maxRecDepth 100000
set_option maxHeartbeats 16000000
namespace Go.Proofs.Ytefjicdhccfieaa
open Go.RowKit
def WFP (C : Nat) (w : World) (wb gp : Nat) (sz : Int) (F : List (List Int)) (Ps : List Nat) : Prop := ∃ u cls, Wr C w wb #[.pointer (some ⟨gp, 0, none⟩), .int .i64 sz, u] 109 2 u cls ∧ cls.map CL.l = F ∧ ∀ b, b ∈ Ps → b < w.heap.size ∧ b ≠ wb ∧ u.ownBlock ≠ some b ∧ ∀ t, t ∈ cls → ∀ x, t.a = some x → x.block ≠ b
theorem WFP.wf {C : Nat} {w : World} {wb gp : Nat} {sz : Int} {F : List (List Int)} {Ps : List Nat} (h : WFP C w wb gp sz F Ps) : WF C w wb gp sz F := by
 obtain ⟨u, cls, h1, h2, _⟩ := h
 exact ⟨u, cls, h1, h2⟩
theorem WF.p {C : Nat} {w : World} {wb gp : Nat} {sz : Int} {F : List (List Int)} (h : WF C w wb gp sz F) : WFP C w wb gp sz F [] := by
 obtain ⟨u, cls, h1, h2⟩ := h
 exact ⟨u, cls, h1, h2, fun b hb => by cases hb⟩
theorem WFP.drop {C : Nat} {w : World} {wb gp : Nat} {sz : Int} {F : List (List Int)} {Ps Qs : List Nat} (h : WFP C w wb gp sz F Ps) (hq : ∀ b, b ∈ Qs → b ∈ Ps) : WFP C w wb gp sz F Qs := by
 obtain ⟨u, cls, h1, h2, h3⟩ := h
 exact ⟨u, cls, h1, h2, fun b hb => h3 b (hq b hb)⟩
theorem WFP.rest {C : Nat} {w w' : World} {wb gp : Nat} {sz : Int} {F : List (List Int)} {Ps : List Nat} (h : WFP C w wb gp sz F Ps) (hb : Below w.heap.size w w') : WFP C w' wb gp sz F Ps := by
 obtain ⟨u, cls, h1, h2, h3⟩ := h
 exact ⟨u, cls, h1.rest hb, h2, fun b hb' => ⟨Nat.lt_of_lt_of_le (h3 b hb').1 hb.size, (h3 b hb').2⟩⟩
theorem WFP.more {C : Nat} {w w' : World} {wb gp : Nat} {sz : Int} {F : List (List Int)} {Ps : List Nat} (h : WFP C w wb gp sz F Ps) (hb : Below w.heap.size w w') (b : Nat) (h1 : w.heap.size ≤ b) (h2 : b < w'.heap.size) : WFP C w' wb gp sz F (b :: Ps) := by
 obtain ⟨u, cls, k1, k2, k3⟩ := h
 refine ⟨u, cls, k1.rest hb, k2, fun b' hb' => ?_⟩
 rcases List.mem_cons.1 hb' with rfl | hb'
 ·refine ⟨h2, fun e => ?_, fun e => ?_, fun t ht x hx e => ?_⟩
  ·have := k1.lt; omega
  ·have := (k1.own.lt _ e).2; omega
  ·have := (k1.far t ht x hx).2.1; omega
 ·exact ⟨Nat.lt_of_lt_of_le (k3 b' hb').1 hb.size, (k3 b' hb').2⟩
theorem WFP.set {C : Nat} {w : World} {wb gp : Nat} {sz : Int} {F : List (List Int)} {Ps : List Nat} (h : WFP C w wb gp sz F Ps) {b : Nat} (hb : b ∈ Ps) (j : Nat) (v : Value) : WFP C (w.setCell ⟨b, j, none⟩ v) wb gp sz F Ps := by
 obtain ⟨u, cls, k1, k2, k3⟩ := h
 obtain ⟨q1, q2, q3, q4⟩ := k3 b hb
 have hsz : (w.setCell ⟨b, j, none⟩ v).heap.size = w.heap.size := by simp [World.setCell]
 have hg := gset w b j v
 refine ⟨u, cls, ⟨?_, k1.fld, k1.own.kept hg (.inr (fun e => q3 e)), k1.nb, fun t ht => ?_, fun t ht x hx => by rw [hsz]; exact k1.far t ht x hx, k1.base⟩, k2, fun b' hb' => by rw [hsz]; exact k3 b' hb'⟩
 ·rw [hg.block wb k1.lt (fun e => q2 (Option.some.inj e).symm)]; exact k1.box
 ·refine row_keep (k1.each t ht) (by rw [hsz]; exact Nat.le_refl _) (fun x hx j' => ?_)
  exact World.cell?_setCell_far _ _ _ _ (fun e => q4 t ht x hx (by have e' : b = x.block := e; exact e'.symm))
theorem WFP.base {C : Nat} {w : World} {wb gp : Nat} {sz : Int} {F : List (List Int)} {Ps : List Nat} (h : WFP C w wb gp sz F Ps) : C ≤ w.heap.size := h.wf.size
theorem say_new (C : Nat) (w W : World) (wb gp : Nat) (sz : Int) (F : List (List Int)) (Ps : List Nat) (h : WFP C w wb gp sz F Ps) (hb : Below w.heap.size w W) (l : List Int) (sb cc : Nat) (hlt : w.heap.size ≤ sb) (hlt2 : sb < W.heap.size) (hrow : RowAt W.heap.size W (some ⟨sb, 0, none⟩) 1 (l.map intC)) (hn : F.length ≤ 16777216) :
  Calls Try.prog 76 #[.pointer (some ⟨wb, 0, none⟩), .slice (some ⟨sb, 0, none⟩) l.length cc] W fun e w' => e = .returned (.tuple #[]) ∧ WFP C w' wb gp sz (F ++ [l]) Ps ∧ Below C w w' ∧ ∀ b, b ∈ Ps → w'.heap[b]? = w.heap[b]? := by
 obtain ⟨u, cls, k1, rfl, k3⟩ := h
 have hbase := k1.base
 have hwl := k1.lt
 refine (say_any C W wb gp sz u cls (k1.rest hb) ⟨some ⟨sb, 0, none⟩, cc, l⟩ hrow (fun x hx => ?_) (by simpa using hn)).mono ?_
 ·cases hx
  refine ⟨by show C ≤ sb; omega, hlt2, by show sb ≠ wb; omega, fun e => ?_⟩
  have := (k1.own.lt _ e).2
  have : sb < w.heap.size := this
  omega
 ·rintro e w' ⟨rfl, ⟨u', h2, h2u⟩, h3, h4⟩
  refine ⟨rfl, ⟨u', _, h2, by simp, fun b hb' => ?_⟩, (hb.mono (by omega)).trans h3, fun b hb' => ?_⟩
  ·obtain ⟨q1, q2, q3, q4⟩ := k3 b hb'
   have hbW := Nat.lt_of_lt_of_le q1 hb.size
   refine ⟨Nat.lt_of_lt_of_le q1 (Nat.le_trans hb.size h3.size), q2, h2u b hbW q3, fun t ht x hx => ?_⟩
   rcases List.mem_append.1 ht with ht | ht
   ·exact q4 t ht x hx
   ·rw [List.mem_singleton.1 ht] at hx
    cases hx
    show sb ≠ b
    omega
  ·obtain ⟨q1, q2, q3, q4⟩ := k3 b hb'
   rw [h4 b (Nat.lt_of_lt_of_le q1 hb.size) q2 q3]
   exact hb.block b q1
theorem say3p (C : Nat) (w : World) (wb gp : Nat) (sz : Int) (F : List (List Int)) (Ps : List Nat) (h : WFP C w wb gp sz F Ps) (x y z : Int) (hn : F.length ≤ 16777216) :
  Calls Try.prog 76 #[.pointer (some ⟨wb, 0, none⟩), .slice (some ⟨w.heap.size, 0, none⟩) 3 3] (w.alloc (.cells #[.int .i64 x, .int .i64 y, .int .i64 z] 3)) fun e w' => e = .returned (.tuple #[]) ∧ WFP C w' wb gp sz (F ++ [[x, y, z]]) Ps ∧ Below C w w' ∧ ∀ b, b ∈ Ps → w'.heap[b]? = w.heap[b]? := by
 have hb : Below w.heap.size w (w.alloc (.cells #[.int .i64 x, .int .i64 y, .int .i64 z] 3)) := (Below.refl _ _).alloc (Nat.le_refl _) _
 have hn2 := heap_new w (.cells #[.int .i64 x, .int .i64 y, .int .i64 z] 3)
 exact say_new C w _ wb gp sz F Ps h hb [x, y, z] w.heap.size 3 (Nat.le_refl _) (by simp) (rowAt_flat (by simp) (fun l hl => by obtain ⟨q, _, rfl⟩ := List.mem_map.1 hl; rfl) (fun m v hm => by
  rw [cell_of_row _ _ m _ _ _ hn2]
  rw [flat_ints] at hm
  simpa using hm)) hn
end Go.Proofs.Ytefjicdhccfieaa
