import Derived.Test.YtefjicdhccfieaaJ01
import Derived.Test.YtefjicdhccfieaaJ18
import Derived.Test.YtefjicdhccfieaaJ11
set_option maxRecDepth 100000
set_option maxHeartbeats 16000000
namespace Go.Proofs.Ytefjicdhccfieaa
open Go.RowKit
theorem two_below {w : World} (o1 o2 : Obj) : Below w.heap.size w ((w.alloc o1).alloc o2) := ((Below.refl _ _).alloc (Nat.le_refl _) _).trans (((Below.refl _ _).alloc (Nat.le_refl _) _).mono (by simp))
theorem movedOne_doc (w : World) (SA SB : GrS) (A B : GrD) (okA : OkB A) (okB : OkB B) (l : Int) (hl : 0 ≤ l ∧ l ≤ 4000000) :
  Calls Try.prog 50 #[.agg (SA.cells A), .agg (SB.cells B), .int .i64 l] w fun e w' => e = .returned (.int .i64 (mvF A 0 B.lats.length l)) ∧ Below w.heap.size w w' := by
 unfold GrS.cells
 have a0 := okA.i0; have a1 := okA.i1; have a2 := okA.l1; have b2 := okB.l1
 have HM : Hid (mvF A 0 B.lats.length l = if l / 2 ≤ A.ins then l else if l / 2 < A.first then l + 2 * 0 else l + 2 * B.lats.length) := rfl
 have hf : A.first = 1 + A.ins + A.lats.length := rfl
 rw [hf] at HM
 clear hf okA okB
 generalize mvF A 0 B.lats.length l = r at *
 generalize A.ins = ins at *
 generalize A.lats.length = la at *
 generalize B.lats.length = lb at *
 have t1 : Int.tdiv l 2 = l / 2 := by rw [Int.tdiv_eq_ediv_of_nonneg hl.1]
 have hm : 0 ≤ l / 2 ∧ l / 2 ≤ 2000000 := by omega
 generalize l / 2 = m at *
 have e1 : IntKind.i64.wrap m = m := wrapI _ (by omega) (by omega)
 have e2 : IntKind.i64.wrap (ins + (la : Int)) = ins + la := wrapI _ (by omega) (by omega)
 have e3 : IntKind.i64.wrap (2 * (lb : Int)) = 2 * lb := wrapI _ (by omega) (by omega)
 have e4 : IntKind.i64.wrap (l + 2 * (lb : Int)) = l + 2 * lb := wrapI _ (by omega) (by omega)
 by_cases h1 : ins + la < m
 ·have HR : Hid (l + 2 * (lb : Int) = r) := by show _ = _; rw [HM.out, if_neg (by omega), if_neg (by omega)]
  clear HM
  go_enter Try.func50, Try.ntmps50
  go_wp2
  go_ret
  exact ⟨ret_int HR.out, two_below _ _⟩
 ·have HR : Hid (l = r) := by
   show _ = _
   rw [HM.out]
   by_cases h2 : m ≤ ins
   ·rw [if_pos h2]
   ·rw [if_neg h2, if_pos (by omega)]; omega
  have h1' : decide (ins + (la : Int) < m) = false := decide_eq_false h1
  clear HM
  go_enter Try.func50, Try.ntmps50
  go_wp2
  go_ret
  exact ⟨ret_int HR.out, two_below _ _⟩
theorem moved_doc (w : World) (SA SB : GrS) (A B : GrD) (okA : OkB A) (okB : OkB B) (l : Int) (hl : 0 ≤ l ∧ l ≤ 4000000) :
  Calls Try.prog 51 #[.agg (SA.cells A), .agg (SB.cells B), .int .i64 l] w fun e w' => e = .returned (.int .i64 (mvF B A.lats.length (A.lats.length + A.ands.length) l)) ∧ Below w.heap.size w w' := by
 unfold GrS.cells
 have a2 := okA.l1; have a3 := okA.a1; have b0 := okB.i0; have b1 := okB.i1; have b2 := okB.l1
 have HM : Hid (mvF B A.lats.length (A.lats.length + A.ands.length) l = if l / 2 ≤ B.ins then l else if l / 2 < B.first then l + 2 * A.lats.length else l + 2 * (A.lats.length + A.ands.length)) := rfl
 have hf : B.first = 1 + B.ins + B.lats.length := rfl
 rw [hf] at HM
 clear hf okA okB
 generalize mvF B A.lats.length (A.lats.length + A.ands.length) l = r at *
 generalize B.ins = ins at *
 generalize A.lats.length = la at *
 generalize A.ands.length = na at *
 generalize B.lats.length = lb at *
 have t1 : Int.tdiv l 2 = l / 2 := by rw [Int.tdiv_eq_ediv_of_nonneg hl.1]
 have t2 : Int.tmod l 2 = l % 2 := by rw [Int.tmod_eq_emod_of_nonneg hl.1]
 have hd : l = 2 * (l / 2) + l % 2 := by omega
 have hm : 0 ≤ l / 2 ∧ l / 2 ≤ 2000000 := by omega
 have hp : 0 ≤ l % 2 ∧ l % 2 ≤ 1 := by omega
 generalize l / 2 = m at *
 generalize l % 2 = p at *
 have e1 : IntKind.i64.wrap m = m := wrapI _ (by omega) (by omega)
 have e2 : IntKind.i64.wrap p = p := wrapI _ (by omega) (by omega)
 have e3 : IntKind.i64.wrap (ins + (lb : Int)) = ins + lb := wrapI _ (by omega) (by omega)
 have e4 : IntKind.i64.wrap (m + (la : Int)) = m + la := wrapI _ (by omega) (by omega)
 have e5 : IntKind.i64.wrap (m + (la : Int) + (na : Int)) = m + la + na := wrapI _ (by omega) (by omega)
 have f1 : IntKind.i64.wrap (2 * m) = 2 * m := wrapI _ (by omega) (by omega)
 have f2 : IntKind.i64.wrap (2 * (m + (la : Int))) = 2 * (m + la) := wrapI _ (by omega) (by omega)
 have f3 : IntKind.i64.wrap (2 * (m + (la : Int) + (na : Int))) = 2 * (m + la + na) := wrapI _ (by omega) (by omega)
 have g1 : IntKind.i64.wrap (2 * m + p) = 2 * m + p := wrapI _ (by omega) (by omega)
 have g2 : IntKind.i64.wrap (2 * (m + (la : Int)) + p) = 2 * (m + la) + p := wrapI _ (by omega) (by omega)
 have g3 : IntKind.i64.wrap (2 * (m + (la : Int) + (na : Int)) + p) = 2 * (m + la + na) + p := wrapI _ (by omega) (by omega)
 by_cases h1 : m ≤ ins
 ·have HR : Hid (2 * m + p = r) := by show _ = _; rw [HM.out, if_pos h1]; omega
  clear HM hd
  go_enter Try.func51, Try.ntmps51
  go_wp2
  go_ret
  exact ⟨ret_int HR.out, (two_below _ _)⟩
 ·have h1' : decide (m ≤ ins) = false := decide_eq_false h1
  by_cases h2 : m ≤ ins + lb
  ·have HR : Hid (2 * (m + (la : Int)) + p = r) := by show _ = _; rw [HM.out, if_neg h1, if_pos (by omega)]; omega
   clear HM hd
   go_enter Try.func51, Try.ntmps51
   go_wp2
   go_ret
   exact ⟨ret_int HR.out, (two_below _ _)⟩
  ·have h2' : decide (m ≤ ins + (lb : Int)) = false := decide_eq_false h2
   have HR : Hid (2 * (m + (la : Int) + (na : Int)) + p = r) := by show _ = _; rw [HM.out, if_neg h1, if_neg (by omega)]; omega
   clear HM hd
   go_enter Try.func51, Try.ntmps51
   go_wp2
   go_ret
   exact ⟨ret_int HR.out, (two_below _ _)⟩
end Go.Proofs.Ytefjicdhccfieaa

set_option maxRecDepth 100000
set_option maxHeartbeats 16000000
namespace Go.Proofs.Ytefjicdhccfieaa
open Go.RowKit
def MkC (S : GrS) (G : GrD) (vv : Int) (u : Value) : Array Value := #[.int .i64 G.ins, .slice S.a1 G.lats.length S.c1, .slice S.a2 G.ands.length S.c2, .slice S.a3 G.outs.length S.c3, .int .i64 vv, u]
def MFP (C : Nat) (w : World) (wb : Nat) (S : GrS) (G : GrD) (vv : Int) (F : List (List Int)) (Ps : List Nat) : Prop := ∃ u cls, Wr C w wb (MkC S G vv u) 98 5 u cls ∧ cls.map CL.l = F ∧ ∀ b, b ∈ Ps → b < w.heap.size ∧ b ≠ wb ∧ u.ownBlock ≠ some b ∧ ∀ t, t ∈ cls → ∀ x, t.a = some x → x.block ≠ b
def PutP (C : Nat) (w : World) (wb : Nat) (S : GrS) (G : GrD) (vv : Int) (u : Value) (cls : List CL) (w' : World) : Prop := (∃ u', Wr C w' wb (MkC S G vv u') 98 5 u' cls ∧ ∀ b, b < w.heap.size → u.ownBlock ≠ some b → u'.ownBlock ≠ some b) ∧ Below C w w' ∧ ∀ b, b < w.heap.size → b ≠ wb → u.ownBlock ≠ some b → w'.heap[b]? = w.heap[b]?
theorem putM_any (C : Nat) (w : World) (wb : Nat) (S : GrS) (G : GrD) (vv : Int) (u : Value) (cls : List CL) (h : Wr C w wb (MkC S G vv u) 98 5 u cls) (t : CL) (ht : RowAt w.heap.size w t.a 1 (t.l.map intC)) (hf : ∀ x, t.a = some x → C ≤ x.block ∧ x.block < w.heap.size ∧ x.block ≠ wb ∧ u.ownBlock ≠ some x.block) (hn : cls.length ≤ 16777216) :
  Calls Try.prog 54 #[.pointer (some ⟨wb, 0, none⟩), .slice t.a t.l.length t.c] w fun e w' => e = .returned (.tuple #[]) ∧ PutP C w wb S G vv u (cls ++ [t]) w' := by
 have HW := hidden h
 have HT := hidden ht
 have HF := hidden hf
 obtain ⟨ic, hi, hz, hs, hby⟩ := info_cl
 have HI := hidden hi
 have HZ := hidden hz
 have HS := hidden hs
 have HY := hidden hby
 clear hi hz hs hby
 have HOW := hidden h.own
 have f2 : w.cell? ⟨wb, 5, none⟩ = some u := (cell_of_row _ _ 5 _ _ (0, 0) h.box).trans rfl
 have z2 : w.frozen? ⟨wb, 5, none⟩ = false := frozen_of_row w wb 5 _ _ h.box
 have hlt := h.lt
 have far : u.ownBlock ≠ some wb := h.nb
 have hB : C ≤ w.heap.size := by have := h.base; omega
 have hm1 : cls.length + 1 ≤ maxLen := by simp only [maxLen]; omega
 have hm2 : (cls.length + 1) * 24 ≤ 140737488355328 := by omega
 have hm3 : C ≤ (w.alloc (.cells #[.slice t.a t.l.length t.c] 26)).heap.size := by simp; omega
 have KP : Hid (∀ w', w.grownBy w' u.ownBlock → w'.cell? ⟨wb, 5, none⟩ = some u ∧ w'.frozen? ⟨wb, 5, none⟩ = false) := fun w' hg => ⟨(hg.cell_far ⟨wb, 5, none⟩ hlt (fun e => far e.symm)).trans f2, (hg.frozen_far ⟨wb, 5, none⟩ hlt (fun e => far e.symm)).trans z2⟩
 obtain ⟨cn, HCN⟩ : ∃ n, Hid (n = cls.length) := ⟨_, rfl⟩
 obtain ⟨tn, HTN⟩ : ∃ n, Hid (n = t.l.length) := ⟨_, rfl⟩
 rw [← HCN.out] at hm1 hm2 HOW
 rw [← HTN.out] at hm3
 rw [← HTN.out]
 clear h ht hf z2
 go_enter Try.func54, Try.ntmps54
 have tok : True := trivial
 go_wp2_with (have _t := tok; at_builtin; (refine wpList_append_lies _ rfl (.tmp 9) (.tmp 11) 22 rfl C 26 ic _ 1 24 Try.underlying22 HI.out HZ.out HS.out HY.out rfl (by decide) u cn _ rfl (HOW.out.alloc _) ⟨w.heap.size, 0, none⟩ 1 1 [.slice t.a tn t.c] rfl rfl (World.news_of_block (heap_new _ _)) (by simp [Value.oneCell']) (by decide) hm1 hm2 hm3 _ rfl ?_; intro g cap w5 hown hgrow hat hlt5; clear tok; have hg5 := grown_trn (World.grownBy_alloc w _ _) hgrow; have hc5 := (KP.out w5 hg5).1; have hz5 := (KP.out w5 hg5).2))
 obtain ⟨h6, h7, h8, h9⟩ := HW.out.grow t HT.out HF.out hg5 (by rw [← HCN.out, ← HTN.out]; exact hown) (g := g) (cap := cap) (by
  rcases hat with h | h
  ·exact .inl h
  ·refine .inr ?_
   simp at h
   omega)
 rw [← HCN.out] at h6 h7 h8 h9
 generalize hW6 : World.setCell w5 _ _ = w6
 rw [hW6] at h6 h7 h8
 have HX : Hid (PutP C w wb S G vv u (cls ++ [t]) w6) := ⟨⟨_, h6, h9⟩, h7, h8⟩
 clear h6 h7 h8 h9 hW6 hown hgrow hat hlt5 hg5 hc5 hz5 f2
 go_wp2
 go_end0
 exact ⟨rfl, HX.out⟩
theorem MFP.drop {C : Nat} {w : World} {wb : Nat} {S : GrS} {G : GrD} {vv : Int} {F : List (List Int)} {Ps Qs : List Nat} (h : MFP C w wb S G vv F Ps) (hq : ∀ b, b ∈ Qs → b ∈ Ps) : MFP C w wb S G vv F Qs := by
 obtain ⟨u, cls, h1, h2, h3⟩ := h
 exact ⟨u, cls, h1, h2, fun b hb => h3 b (hq b hb)⟩
theorem MFP.rest {C : Nat} {w w' : World} {wb : Nat} {S : GrS} {G : GrD} {vv : Int} {F : List (List Int)} {Ps : List Nat} (h : MFP C w wb S G vv F Ps) (hb : Below w.heap.size w w') : MFP C w' wb S G vv F Ps := by
 obtain ⟨u, cls, h1, h2, h3⟩ := h
 exact ⟨u, cls, h1.rest hb, h2, fun b hb' => ⟨Nat.lt_of_lt_of_le (h3 b hb').1 hb.size, (h3 b hb').2⟩⟩
theorem MFP.more {C : Nat} {w w' : World} {wb : Nat} {S : GrS} {G : GrD} {vv : Int} {F : List (List Int)} {Ps : List Nat} (h : MFP C w wb S G vv F Ps) (hb : Below w.heap.size w w') (b : Nat) (h1 : w.heap.size ≤ b) (h2 : b < w'.heap.size) : MFP C w' wb S G vv F (b :: Ps) := by
 obtain ⟨u, cls, k1, k2, k3⟩ := h
 refine ⟨u, cls, k1.rest hb, k2, fun b' hb' => ?_⟩
 rcases List.mem_cons.1 hb' with rfl | hb'
 ·refine ⟨h2, fun e => ?_, fun e => ?_, fun t ht x hx e => ?_⟩
  ·have := k1.lt; omega
  ·have := (k1.own.lt _ e).2; omega
  ·have := (k1.far t ht x hx).2.1; omega
 ·exact ⟨Nat.lt_of_lt_of_le (k3 b' hb').1 hb.size, (k3 b' hb').2⟩
theorem MFP.set {C : Nat} {w : World} {wb : Nat} {S : GrS} {G : GrD} {vv : Int} {F : List (List Int)} {Ps : List Nat} (h : MFP C w wb S G vv F Ps) {b : Nat} (hb : b ∈ Ps) (j : Nat) (v : Value) : MFP C (w.setCell ⟨b, j, none⟩ v) wb S G vv F Ps := by
 obtain ⟨u, cls, k1, k2, k3⟩ := h
 obtain ⟨q1, q2, q3, q4⟩ := k3 b hb
 have hsz : (w.setCell ⟨b, j, none⟩ v).heap.size = w.heap.size := by simp [World.setCell]
 have hg := gset w b j v
 refine ⟨u, cls, ⟨?_, k1.fld, k1.own.kept hg (.inr (fun e => q3 e)), k1.nb, fun t ht => ?_, fun t ht x hx => by rw [hsz]; exact k1.far t ht x hx, k1.base⟩, k2, fun b' hb' => by rw [hsz]; exact k3 b' hb'⟩
 ·rw [hg.block wb k1.lt (fun e => q2 (Option.some.inj e).symm)]; exact k1.box
 ·refine row_keep (k1.each t ht) (by rw [hsz]; exact Nat.le_refl _) (fun x hx j' => ?_)
  exact World.cell?_setCell_far _ _ _ _ (fun e => q4 t ht x hx (by have e' : b = x.block := e; exact e'.symm))
theorem put_new (C : Nat) (w W : World) (wb : Nat) (S : GrS) (G : GrD) (vv : Int) (F : List (List Int)) (Ps : List Nat) (h : MFP C w wb S G vv F Ps) (hb : Below w.heap.size w W) (l : List Int) (sb cc : Nat) (hlt : w.heap.size ≤ sb) (hlt2 : sb < W.heap.size) (hrow : RowAt W.heap.size W (some ⟨sb, 0, none⟩) 1 (l.map intC)) (hn : F.length ≤ 16777216) :
  Calls Try.prog 54 #[.pointer (some ⟨wb, 0, none⟩), .slice (some ⟨sb, 0, none⟩) l.length cc] W fun e w' => e = .returned (.tuple #[]) ∧ MFP C w' wb S G vv (F ++ [l]) Ps ∧ Below C w w' ∧ ∀ b, b ∈ Ps → w'.heap[b]? = w.heap[b]? := by
 obtain ⟨u, cls, k1, rfl, k3⟩ := h
 have hbase := k1.base
 have hwl := k1.lt
 refine (putM_any C W wb S G vv u cls (k1.rest hb) ⟨some ⟨sb, 0, none⟩, cc, l⟩ hrow (fun x hx => ?_) (by simpa using hn)).mono ?_
 ·cases hx
  refine ⟨by show C ≤ sb; omega, hlt2, by show sb ≠ wb; omega, fun e => ?_⟩
  have := (k1.own.lt _ e).2
  have : sb < w.heap.size := this
  omega
 ·rintro e w' ⟨rfl, ⟨u', h2, h2u⟩, h3, h4⟩
  refine ⟨rfl, ⟨u', _, h2, by simp, fun b hb' => ?_⟩, (hb.mono (by omega)).trans h3, fun b hb' => ?_⟩
  ·obtain ⟨q1, q2, q3, q4⟩ := k3 b hb'
   have hbW := Nat.lt_of_lt_of_le q1 hb.size
   refine ⟨Nat.lt_of_lt_of_le q1 (Nat.le_trans hb.size h3.size), q2, h2u b hbW q3, fun t ht x hx => ?_⟩
   rcases List.mem_append.1 ht with ht | ht
   ·exact q4 t ht x hx
   ·rw [List.mem_singleton.1 ht] at hx
    cases hx
    show sb ≠ b
    omega
  ·obtain ⟨q1, q2, q3, q4⟩ := k3 b hb'
   rw [h4 b (Nat.lt_of_lt_of_le q1 hb.size) q2 q3]
   exact hb.block b q1
theorem put3 (C : Nat) (w : World) (wb : Nat) (S : GrS) (G : GrD) (vv : Int) (F : List (List Int)) (Ps : List Nat) (h : MFP C w wb S G vv F Ps) (x y z : Int) (hn : F.length ≤ 16777216) :
  Calls Try.prog 54 #[.pointer (some ⟨wb, 0, none⟩), .slice (some ⟨w.heap.size, 0, none⟩) 3 3] (w.alloc (.cells #[.int .i64 x, .int .i64 y, .int .i64 z] 3)) fun e w' => e = .returned (.tuple #[]) ∧ MFP C w' wb S G vv (F ++ [[x, y, z]]) Ps ∧ Below C w w' ∧ ∀ b, b ∈ Ps → w'.heap[b]? = w.heap[b]? := by
 have hb : Below w.heap.size w (w.alloc (.cells #[.int .i64 x, .int .i64 y, .int .i64 z] 3)) := (Below.refl _ _).alloc (Nat.le_refl _) _
 have hn2 := heap_new w (.cells #[.int .i64 x, .int .i64 y, .int .i64 z] 3)
 exact put_new C w _ wb S G vv F Ps h hb [x, y, z] w.heap.size 3 (Nat.le_refl _) (by simp) (rowAt_flat (by simp) (fun l hl => by obtain ⟨q, _, rfl⟩ := List.mem_map.1 hl; rfl) (fun m v hm => by
  rw [cell_of_row _ _ m _ _ _ hn2]
  rw [flat_ints] at hm
  simpa using hm)) hn
theorem put2 (C : Nat) (w : World) (wb : Nat) (S : GrS) (G : GrD) (vv : Int) (F : List (List Int)) (Ps : List Nat) (h : MFP C w wb S G vv F Ps) (x y : Int) (hn : F.length ≤ 16777216) :
  Calls Try.prog 54 #[.pointer (some ⟨wb, 0, none⟩), .slice (some ⟨w.heap.size, 0, none⟩) 2 2] (w.alloc (.cells #[.int .i64 x, .int .i64 y] 3)) fun e w' => e = .returned (.tuple #[]) ∧ MFP C w' wb S G vv (F ++ [[x, y]]) Ps ∧ Below C w w' ∧ ∀ b, b ∈ Ps → w'.heap[b]? = w.heap[b]? := by
 have hb : Below w.heap.size w (w.alloc (.cells #[.int .i64 x, .int .i64 y] 3)) := (Below.refl _ _).alloc (Nat.le_refl _) _
 have hn2 := heap_new w (.cells #[.int .i64 x, .int .i64 y] 3)
 exact put_new C w _ wb S G vv F Ps h hb [x, y] w.heap.size 2 (Nat.le_refl _) (by simp) (rowAt_flat (by simp) (fun l hl => by obtain ⟨q, _, rfl⟩ := List.mem_map.1 hl; rfl) (fun m v hm => by
  rw [cell_of_row _ _ m _ _ _ hn2]
  rw [flat_ints] at hm
  simpa using hm)) hn
theorem put1 (C : Nat) (w : World) (wb : Nat) (S : GrS) (G : GrD) (vv : Int) (F : List (List Int)) (Ps : List Nat) (h : MFP C w wb S G vv F Ps) (x : Int) (hn : F.length ≤ 16777216) :
  Calls Try.prog 54 #[.pointer (some ⟨wb, 0, none⟩), .slice (some ⟨w.heap.size, 0, none⟩) 1 1] (w.alloc (.cells #[.int .i64 x] 3)) fun e w' => e = .returned (.tuple #[]) ∧ MFP C w' wb S G vv (F ++ [[x]]) Ps ∧ Below C w w' ∧ ∀ b, b ∈ Ps → w'.heap[b]? = w.heap[b]? := by
 have hb : Below w.heap.size w (w.alloc (.cells #[.int .i64 x] 3)) := (Below.refl _ _).alloc (Nat.le_refl _) _
 have hn2 := heap_new w (.cells #[.int .i64 x] 3)
 exact put_new C w _ wb S G vv F Ps h hb [x] w.heap.size 1 (Nat.le_refl _) (by simp) (rowAt_flat (by simp) (fun l hl => by obtain ⟨q, _, rfl⟩ := List.mem_map.1 hl; rfl) (fun m v hm => by
  rw [cell_of_row _ _ m _ _ _ hn2]
  rw [flat_ints] at hm
  simpa using hm)) hn
theorem MFP.boxAt {C : Nat} {w : World} {wb : Nat} {S : GrS} {G : GrD} {vv : Int} {F : List (List Int)} {Ps : List Nat} (h : MFP C w wb S G vv F Ps) : BoxAt w wb S G := by
 obtain ⟨u, cls, k1, -, -⟩ := h
 exact ⟨k1.lt, (cell_of_row _ _ 0 _ _ (0, 0) k1.box).trans rfl, (cell_of_row _ _ 1 _ _ (0, 0) k1.box).trans rfl, (cell_of_row _ _ 2 _ _ (0, 0) k1.box).trans rfl, (cell_of_row _ _ 3 _ _ (0, 0) k1.box).trans rfl⟩
theorem MFP.size {C : Nat} {w : World} {wb : Nat} {S : GrS} {G : GrD} {vv : Int} {F : List (List Int)} {Ps : List Nat} (h : MFP C w wb S G vv F Ps) : C ≤ w.heap.size := by
 obtain ⟨u, cls, k1, -, -⟩ := h
 have := k1.base
 have := k1.lt
 omega
theorem put_last (C : Nat) (w : World) (wb : Nat) (S : GrS) (G : GrD) (vv : Int) (F : List (List Int)) (Ps : List Nat) (h : MFP C w wb S G vv F Ps) (t : CL) (hrow : RowAt w.heap.size w t.a 1 (t.l.map intC)) (hin : ∀ x, t.a = some x → x.block ∈ Ps ∧ C ≤ x.block) (hn : F.length ≤ 16777216) :
  Calls Try.prog 54 #[.pointer (some ⟨wb, 0, none⟩), .slice t.a t.l.length t.c] w fun e w' => e = .returned (.tuple #[]) ∧ MFP C w' wb S G vv (F ++ [t.l]) [] ∧ Below C w w' := by
 obtain ⟨u, cls, k1, rfl, k3⟩ := h
 refine (putM_any C w wb S G vv u cls k1 t hrow (fun x hx => ?_) (by simpa using hn)).mono ?_
 ·obtain ⟨h1, h2⟩ := hin x hx
  obtain ⟨q1, q2, q3, -⟩ := k3 _ h1
  exact ⟨h2, q1, q2, q3⟩
 ·rintro e w' ⟨rfl, ⟨u', h2, -⟩, h3, -⟩
  exact ⟨rfl, ⟨u', _, h2, by simp, fun b hb => by cases hb⟩, h3⟩
theorem at_doc (w : World) (mb : Nat) (S : GrS) (G : GrD) (hX : BoxAt w mb S G) (h0 : 0 ≤ G.ins) (h1 : G.ins ≤ 60000) (h2 : G.lats.length < big) (h3 : G.ands.length < big) (hs : 0 ≤ G.vars ∧ G.vars ≤ 1000000) (k l : Int) (hk : k = 0 ∨ k = 1) (hl : 0 ≤ l ∧ l ≤ 4000000) :
  Calls Try.prog 55 #[.pointer (some ⟨mb, 0, none⟩), .int .i64 k, .int .i64 l] w fun e w' => e = .returned (.int .i64 (numF G.vars k l)) ∧ Below w.heap.size w w' := by
 have VA : Hid (Calls Try.prog 52 #[.agg #[.int .i64 G.ins, .slice S.a1 G.lats.length S.c1, .slice S.a2 G.ands.length S.c2, .slice S.a3 G.outs.length S.c3]] w fun e w' => e = .returned (.int .i64 G.vars) ∧ Below w.heap.size w w') := vars_any w S G h0 h1 h2 h3
 have x0 := hX.c0
 have x1 := hX.c1
 have x2 := hX.c2
 have x3 := hX.c3
 clear hX
 generalize G.vars = sz at *
 obtain ⟨ks, HKS⟩ : ∃ x, Hid (x = k * sz) := ⟨_, rfl⟩
 have hks : 0 ≤ k * sz ∧ k * sz ≤ 1000000 := by rcases hk with rfl | rfl <;> omega
 have HE : Hid (∀ r, (l % 2 = 1 → r = -(k * sz + l / 2 + 1)) → (¬ l % 2 = 1 → r = k * sz + l / 2 + 1) → r = numF sz k l) := fun r h1 h2 => by
  unfold numF
  by_cases h : l % 2 = 1
  ·rw [if_pos h]; exact h1 h
  ·rw [if_neg h]; exact h2 h
 have q1 : Int.tdiv l 2 = l / 2 := by rw [Int.tdiv_eq_ediv_of_nonneg hl.1]
 have q2 : Int.tmod l 2 = l % 2 := by rw [Int.tmod_eq_emod_of_nonneg hl.1]
 have hm : 0 ≤ l / 2 ∧ l / 2 ≤ 2000000 := by omega
 have hr2 : 0 ≤ l % 2 ∧ l % 2 ≤ 1 := by omega
 rw [← HKS.out] at hks HE
 have e0 : IntKind.i64.wrap (k * sz) = ks := by rw [← HKS.out]; exact wrapI _ (by omega) (by omega)
 generalize l / 2 = m at *
 generalize hr : l % 2 = r at *
 have e1 : IntKind.i64.wrap m = m := wrapI _ (by omega) (by omega)
 have e2 : IntKind.i64.wrap r = r := wrapI _ (by omega) (by omega)
 have e3 : IntKind.i64.wrap (ks + m) = ks + m := wrapI _ (by omega) (by omega)
 have e4 : IntKind.i64.wrap (ks + m + 1) = ks + m + 1 := wrapI _ (by omega) (by omega)
 have e5 : IntKind.i64.wrap (-(ks + m + 1)) = -(ks + m + 1) := wrapI _ (by omega) (by omega)
 clear hr
 by_cases h1 : r = 1
 ·have hb : (r == 1) = true := beq_iff_eq.2 h1
  have HR := hidden (HE.out _ (fun _ => rfl) (fun h => absurd h1 h))
  clear h1
  go_enter Try.func55, Try.ntmps55
  go_wp2_with fail
  go_at_call 52
  refine VA.out.mono ?_
  rintro e w2 ⟨rfl, hb2⟩
  have HB2 := hidden hb2
  clear hb2 x0 x1 x2 x3
  go_wp2
  go_ret
  exact ⟨ret_int HR.out, HB2.out⟩
 ·have hb : (r == 1) = false := beq_eq_false_iff_ne.2 h1
  have HR := hidden (HE.out _ (fun h => absurd h h1) (fun _ => rfl))
  clear h1
  go_enter Try.func55, Try.ntmps55
  go_wp2_with fail
  go_at_call 52
  refine VA.out.mono ?_
  rintro e w2 ⟨rfl, hb2⟩
  have HB2 := hidden hb2
  clear hb2 x0 x1 x2 x3
  go_wp2
  go_ret
  exact ⟨ret_int HR.out, HB2.out⟩
end Go.Proofs.Ytefjicdhccfieaa
