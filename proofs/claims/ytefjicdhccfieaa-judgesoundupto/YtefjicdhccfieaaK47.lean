import Derived.Test.YtefjicdhccfieaaK01
import Derived.Test.YtefjicdhccfieaaK03
import Derived.Test.YtefjicdhccfieaaK09
import Derived.Test.YtefjicdhccfieaaK02
import Derived.OwnWalk
import Derived.Deep.AppendLies
import Derived.Test.YtefjicdhccfieaaK04
set_option maxRecDepth 100000
set_option maxHeartbeats 16000000
namespace Go.Proofs.Ytefjicdhccfieaa
open Go.RowKit
def bV (b : Bool) : Value := .bool b
def bC (b : Bool) : List Value := [.bool b]
theorem add0 (g j : Nat) : ((⟨g, 0, none⟩ : Addr).add j) = ⟨g, j, none⟩ := by unfold Addr.add; split <;> simp_all
theorem ownRow {α : Type} {g : α → Value} {w : World} {C : Nat} {e : TypeId} {v : Value} {n : Nat} {xs : List α} (h : w.ownsRow C e 1 v n (xs.map g)) :
  n = xs.length ∧ ∃ aw cw, v = .slice aw n cw ∧ RowAt w.heap.size w aw 1 (xs.map fun x => [g x]) := by
 have hl : n = xs.length := by have := h.1; simp at this; omega
 refine ⟨hl, ?_⟩
 rcases h.2 with ⟨h0, h1⟩ | ⟨gg, cap, cur, hv, h1⟩
 ·refine ⟨none, 0, by rw [h0, h1], fun he => ?_⟩
  exfalso; apply he; have : xs.length = 0 := by omega
  rw [List.length_eq_zero_iff.1 this]; rfl
 ·refine ⟨some ⟨gg, 0, none⟩, cap, hv, fun _ => ⟨gg, 0, rfl, ?_, ?_⟩⟩
  ·exact (h.lt gg (by rw [hv]; rfl)).2
  ·intro i cs hi j x hj
   have hc := h.cells (g := gg) (by rw [hv]; rfl) i
   rw [List.getElem?_map] at hi
   cases hx : xs[i]? with
   | none => rw [hx] at hi; cases hi
   | some y =>
    rw [hx] at hi
    have e : [g y] = cs := by simpa using hi
    subst e
    cases j with
    | succ j => simp at hj
    | zero =>
     have ex : g y = x := by simpa using hj
     subst ex
     have := hc (g y) (by rw [List.getElem?_map, hx]; rfl)
     rw [add0] at this
     simpa using this
theorem grown_plain {V wr w5 : World} (h : Below V.heap.size V wr) {o : Obj} {e : TypeId} {size n : Nat} {v : Value} {xs : List Value} (HO : wr.ownsRow V.heap.size e size v n xs) (hg : (wr.alloc o).grownBy w5 v.ownBlock) : Below V.heap.size V w5 :=
 (h.alloc h.size o).grown hg (Nat.le_trans h.size (by simp)) (fun k hk => (HO.lt k hk).1)
def Sep (a b : Value) : Prop := a.ownBlock = none ∨ b.ownBlock = none ∨ a.ownBlock ≠ b.ownBlock
theorem Sep.other {a b : Value} (h : Sep a b) : b.ownBlock = none ∨ b.ownBlock ≠ a.ownBlock := by
 rcases h with h | h | h
 ·rw [h]; cases hb : b.ownBlock with
  | none => exact .inl rfl
  | some x => exact .inr (by simp)
 ·exact .inl h
 ·exact .inr (Ne.symm h)
theorem Sep.symm {a b : Value} (h : Sep a b) : Sep b a := by
 rcases h with h | h | h
 ·exact .inr (.inl h)
 ·exact .inl h
 ·exact .inr (.inr (Ne.symm h))
theorem Sep.new {w : World} {C : Nat} {e : TypeId} {n : Nat} {xs : List Value} {a b : Value} (h : Sep a b) (hb : w.ownsRow C e 1 b n xs) {g H m cap : Nat} (hg : a.ownBlock = some g ∨ g = H) (hH : w.heap.size ≤ H) : Sep (.slice (some ⟨g, 0, none⟩) m cap) b := by
 cases hbb : b.ownBlock with
 | none => exact .inr (.inl hbb)
 | some x =>
  refine .inr (.inr ?_)
  rw [hbb]
  show some g ≠ some x
  rcases hg with hg | hg
  ·rcases h with h | h | h
   ·rw [hg] at h; cases h
   ·rw [hbb] at h; cases h
   ·rw [hg, hbb] at h; exact h
  ·have := (hb.lt x hbb).2
   intro e; cases e; omega
theorem own_belowG {w w' : World} {B e size n : Nat} {v : Value} {xs : List Value} (h : w.ownsRow B e size v n xs) (hb : Below w.heap.size w w') : w'.ownsRow B e size v n xs :=
 h.kept (row := none) ⟨hb.os, hb.tape, hb.output, hb.size, fun k hk _ => hb.block k hk⟩ (by
  cases hv : v.ownBlock with
  | none => exact .inl rfl
  | some x => exact .inr (by simp))
theorem own_mono {w : World} {C C' e size n : Nat} {v : Value} {xs : List Value} (h : w.ownsRow C e size v n xs) (hc : C' ≤ C) : w.ownsRow C' e size v n xs := by
 refine ⟨h.1, ?_⟩
 rcases h.2 with hn | ⟨g, cap, cur, rfl, hg, rest⟩
 ·exact .inl hn
 ·exact .inr ⟨g, cap, cur, rfl, Nat.le_trans hc hg, rest⟩
theorem info_bool0G : (Try.prog.info? 4).map (fun i => (i.zero, i.size, i.bytes)) = some (some (.bool false), 1, 1) := by kernel_rfl
theorem info_boolG : ∃ i, Try.prog.info? 4 = some i ∧ i.zero = some (.bool false) ∧ i.size = 1 ∧ i.bytes = 1 := by
 have h := info_bool0G
 cases hi : Try.prog.info? 4 with
 | none => rw [hi] at h; cases h
 | some i => rw [hi] at h; simp at h; exact ⟨i, rfl, h.1, h.2.1, h.2.2⟩
theorem rowB {B : Nat} {w : World} {a : Option Addr} {l : List Bool} (h : RowAt B w a 1 (l.map bC)) {i : Nat} {x : Bool} (hx : l[i]? = some x) : ∃ b o, a = some ⟨b, o, none⟩ ∧ b < B ∧ w.cell? ⟨b, o + i, none⟩ = some (.bool x) := by
 obtain ⟨b, o, ha, hlt, hc⟩ := h.el hx
 refine ⟨b, o, ha, hlt, ?_⟩
 have := hc 0 (.bool x) rfl
 simpa using this
def litVG (v : List Bool) (l : Int) : Bool := (v[(l / 2).toNat]?.getD false) != decide (l % 2 = 1)
def InV (v : List Bool) (l : Int) : Prop := 0 ≤ l ∧ l < 2 * (v.length : Int)
end Go.Proofs.Ytefjicdhccfieaa

set_option maxRecDepth 100000
set_option maxHeartbeats 16000000
namespace Go.Proofs.Ytefjicdhccfieaa
open Go.RowKit
theorem info_sl0 : (Try.prog.info? 62).map (fun i => (i.zero, i.size, i.bytes)) = some (some (.slice none 0 0), 1, 24) := by kernel_rfl
theorem info_sl : ∃ i, Try.prog.info? 62 = some i ∧ i.zero = some (.slice none 0 0) ∧ i.size = 1 ∧ i.bytes = 24 := by
 have h := info_sl0
 cases hi : Try.prog.info? 62 with
 | none => rw [hi] at h; cases h
 | some i => rw [hi] at h; simp at h; exact ⟨i, rfl, h.1, h.2.1, h.2.2⟩
theorem lit_any (w : World) (a : Option Addr) (c : Nat) (v : List Bool) (hv : RowAt w.heap.size w a 1 (v.map bC)) (hlen : v.length < big) (l : Int) (hl : InV v l) :
  Calls Try.prog 70 #[.slice a v.length c, .int .i64 l] w fun e w' => e = .returned (.bool (litVG v l)) ∧ w' = w := by
 obtain ⟨h0, h1⟩ := hl
 simp only [big] at hlen
 obtain ⟨x, hx⟩ : ∃ x, v[(l / 2).toNat]? = some x := ⟨v[(l / 2).toNat]'(by omega), List.getElem?_eq_getElem (by omega)⟩
 obtain ⟨b, o, rfl, hb, hc⟩ := rowB hv hx
 have e : litVG v l = (x != decide (l % 2 = 1)) := by unfold litVG; rw [hx]; rfl
 rw [e]
 have hlt : l / 2 < (v.length : Int) := by omega
 have h2 : 0 ≤ l / 2 := by omega
 have q1 : Int.tdiv l 2 = l / 2 := by rw [Int.tdiv_eq_ediv_of_nonneg h0]
 have q2 : Int.tmod l 2 = l % 2 := by rw [Int.tmod_eq_emod_of_nonneg h0]
 clear e hx hv
 generalize l / 2 = m at *
 generalize hr : l % 2 = r at *
 have e1 : IntKind.i64.wrap m = m := wrapI _ (by omega) (by omega)
 have e2 : IntKind.i64.wrap r = r := wrapI _ (by omega) (by omega)
 go_enter Try.func70, Try.ntmps70
 go_wp2
 go_ret
 refine ⟨ret_bool ?_, rfl⟩
 have er : (r == 1) = decide (r = 1) := by rw [Bool.eq_iff_iff]; simp
 cases x <;> simp [er]
end Go.Proofs.Ytefjicdhccfieaa

set_option maxRecDepth 100000
set_option maxHeartbeats 16000000
namespace Go.Proofs.Ytefjicdhccfieaa
open Go.RowKit
def inRow (n : Nat) (row : List Bool) : List Bool := (List.range n).map fun i => row[i]?.getD false
def andsN (v : List Bool) (l : List AndD) : List Bool := l.foldl (fun v d => v ++ [litVG v d.x && litVG v d.y]) v
def cycN (G : GrD) (row st : List Bool) : List Bool := andsN ([false] ++ inRow G.ins.toNat row ++ st) G.ands
def initN (G : GrD) : List Bool := G.lats.map LatD.init
def outN (G : GrD) (v : List Bool) : List Bool := G.outs.map (litVG v)
def nextN (G : GrD) (v : List Bool) : List Bool := G.lats.map fun d => litVG v d.next
def stN (G : GrD) (st : List Bool) (tr : List (List Bool)) : List Bool := tr.foldl (fun st r => nextN G (cycN G r st)) st
def runN (G : GrD) : List (List Bool) → List Bool → List (List Bool)
 | [], _ => []
 | r :: t, st => outN G (cycN G r st) :: runN G t (nextN G (cycN G r st))
theorem run_snoc (G : GrD) (l : List (List Bool)) (r : List Bool) (st : List Bool) : runN G (l ++ [r]) st = runN G l st ++ [outN G (cycN G r (stN G st l))] := by
 induction l generalizing st with
 | nil => rfl
 | cons a t ih => simp only [List.cons_append, runN, ih]; rfl
theorem st_snoc (G : GrD) (l : List (List Bool)) (r : List Bool) (st : List Bool) : stN G st (l ++ [r]) = nextN G (cycN G r (stN G st l)) := by
 unfold stN; rw [List.foldl_append]; rfl
theorem ands_length (v : List Bool) (l : List AndD) : (andsN v l).length = v.length + l.length := by
 induction l generalizing v with
 | nil => rfl
 | cons a t ih => unfold andsN at *; rw [List.foldl_cons, ih]; simp; omega
theorem ands_snoc (v : List Bool) (l : List AndD) (d : AndD) : andsN v (l ++ [d]) = andsN v l ++ [litVG (andsN v l) d.x && litVG (andsN v l) d.y] := by
 unfold andsN; rw [List.foldl_append]; rfl
theorem inRow_length (n : Nat) (row : List Bool) : (inRow n row).length = n := by unfold inRow; simp
theorem inRow_next (n : Nat) (row : List Bool) : inRow (n + 1) row = inRow n row ++ [row[n]?.getD false] := by unfold inRow; rw [List.range_succ, List.map_append]; rfl
theorem cyc_length (G : GrD) (row st : List Bool) : (cycN G row st).length = 1 + G.ins.toNat + st.length + G.ands.length := by
 unfold cycN; rw [ands_length]; simp [inRow_length]; omega
theorem st_length (G : GrD) (tr : List (List Bool)) (st : List Bool) (h : st.length = G.lats.length) : (stN G st tr).length = G.lats.length := by
 induction tr generalizing st with
 | nil => exact h
 | cons a t ih => exact ih (nextN G (cycN G a st)) (by unfold nextN; simp)
def BS (w : World) (v : Value) (l : List Bool) : Prop := (v = .slice none 0 0 ∧ l = []) ∨ ∃ b o c, v = .slice (some ⟨b, o, none⟩) l.length c ∧ b < w.heap.size ∧ ∀ (i : Nat) (x : Bool), l[i]? = some x → w.cell? ⟨b, o + i, none⟩ = some (.bool x)
theorem BS.to {w w' : World} {v : Value} {l : List Bool} (h : BS w v l) (hb : Below w.heap.size w w') : BS w' v l := by
 rcases h with h | ⟨b, o, c, hv, hlt, hc⟩
 ·exact .inl h
 ·exact .inr ⟨b, o, c, hv, Nat.lt_of_lt_of_le hlt hb.size, fun i x hx => (hb.cell (p := ⟨b, o + i, none⟩) hlt).trans (hc i x hx)⟩
theorem BS.of {w : World} {C n : Nat} {v : Value} {l : List Bool} (h : w.ownsRow C 4 1 v n (l.map bV)) : BS w v l := by
 have hl : n = l.length := by have := h.1; simp at this; omega
 rcases h.2 with ⟨h0, h1⟩ | ⟨g, cap, cur, hv, h1⟩
 ·exact .inl ⟨h0, List.eq_nil_of_length_eq_zero (by omega)⟩
 ·refine .inr ⟨g, 0, cap, by rw [hv, hl], (h.lt g (by rw [hv]; rfl)).2, fun i x hx => ?_⟩
  have := h.cells (g := g) (by rw [hv]; rfl) i (.bool x) (by rw [List.getElem?_map, hx]; rfl)
  rw [add0] at this
  simpa using this
theorem BS.row {w : World} {v : Value} {l : List Bool} (h : BS w v l) : ∃ a c, v = .slice a l.length c ∧ RowAt w.heap.size w a 1 (l.map bC) := by
 rcases h with ⟨rfl, rfl⟩ | ⟨b, o, c, hv, hlt, hc⟩
 ·exact ⟨none, 0, rfl, rowAt_nil⟩
 ·refine ⟨_, c, hv, fun _ => ⟨b, o, rfl, hlt, fun i cs hi j x hx => ?_⟩⟩
  rw [List.getElem?_map] at hi
  cases hy : l[i]? with
  | none => rw [hy] at hi; cases hi
  | some y =>
   rw [hy] at hi
   have e : [Value.bool y] = cs := by simpa [bC] using hi
   subst e
   cases j with
   | succ j => simp at hx
   | zero =>
    have ex : Value.bool y = x := by simpa using hx
    subst ex
    simpa using hc i y hy
theorem states_any (B : Nat) (w : World) (S : GrS) (G : GrD) (h : GrAt B w S G) (hB : B ≤ w.heap.size) :
  Calls Try.prog 36 #[.agg (S.cells G)] w fun e w' => ∃ v, e = .returned v ∧ w'.ownsRow w.heap.size 4 1 v G.lats.length ((initN G).map bV) ∧ Below w.heap.size w w' := by
 have hlen := h.ll
 simp only [big] at hlen
 unfold GrS.cells
 obtain ⟨ib, hib, hzb, hsb, hbb⟩ := info_boolG
 have HI := hidden hib
 have HZ := hidden hzb
 have HS := hidden hsb
 have HBY := hidden hbb
 clear hib hzb hsb hbb
 go_enter Try.func36, Try.ntmps36
 go_wp2_with fail
 generalize hW : World.alloc w _ = W
 have HB : Hid (Below w.heap.size w W) := by rw [← hW]; exact (Below.refl _ _).alloc (Nat.le_refl _) _
 have hN : w.heap.size < W.heap.size := by rw [← hW]; simp
 have HX : Hid (BoxAt W w.heap.size S G) := by
  rw [← hW]
  exact ⟨by simp, by simp, by simp, by simp, by simp⟩
 have HAW : Hid (GrAt B W S G) := h.to (HB.out.mono hB)
 have hBW : B ≤ W.heap.size := Nat.le_trans hB HB.out.size
 clear hW h
 go_loopw [3, 4] (fun v i' w' => ∃ (k : Nat), k ≤ G.lats.length ∧ i' = .int .i64 k ∧ Hid (w'.ownsRow W.heap.size 4 1 v k (((G.lats.take k).map LatD.init).map bV)) ∧ Hid (Below W.heap.size W w')) (fun _ i' _ => G.lats.length - (intOf i').toNat)
 case atStart => exact ⟨0, Nat.zero_le _, rfl, World.ownsRow_nil _ _ _ _, Below.refl _ _⟩
 case round =>
  obtain ⟨k, hk, rfl, HO, HBr⟩ := hrel
  have q1R := (HBr.out.cell (p := ⟨w.heap.size, 1, none⟩) hN).trans HX.out.c1
  by_cases hlt : k < G.lats.length
  ·obtain ⟨z, hz⟩ := getElem_lt hlt
   obtain ⟨rb, ro, ea, hrb, hrc⟩ := HAW.out.l.el hz
   have c1 := (HBr.out.cell (p := ⟨rb, ro + k * 2 + 1, none⟩) (Nat.lt_of_lt_of_le hrb hBW)).trans (hrc 1 _ rfl)
   rw [ea] at q1R
   have HNX : Hid (((G.lats.take (k + 1)).map LatD.init).map bV = ((G.lats.take k).map LatD.init).map bV ++ [.bool z.init]) := by
    show _ = _
    rw [take_next _ k z hz, List.map_append, List.map_append]; rfl
   generalize z.init = x at *
   have hltI : (k : Int) < (G.lats.length : Int) := by omega
   have e3 : IntKind.i64.wrap ((k : Int) + 1) = (k : Int) + 1 := wrapI _ (by omega) (by omega)
   have hm1 : k + 1 ≤ maxLen := by simp only [maxLen]; omega
   have hm2 : (k + 1) * 1 ≤ 140737488355328 := by omega
   have hsz := HBr.out.size
   have hm3 : W.heap.size ≤ (wr.alloc (.cells #[.bool x] 4)).heap.size := by simp; omega
   clear hrc ea hz hrb
   have tok : True := trivial
   go_wp2_with (have _t := tok; at_builtin; (refine wpList_append_lies _ rfl (.tmp 12) (.tmp 19) 62 rfl W.heap.size 4 ib _ 1 1 Try.underlying62 HI.out HZ.out HS.out HBY.out rfl (by decide) u3 k _ rfl (HO.out.alloc _) ⟨wr.heap.size, 0, none⟩ 1 1 [.bool x] rfl rfl (World.news_of_block (heap_new _ _)) (by simp [Value.oneCell']) (by decide) hm1 hm2 hm3 _ rfl ?_; intro g cap w5 hown hgrow hat5 hlt5; clear tok))
   have HO5 : Hid (w5.ownsRow W.heap.size 4 1 (.slice (some ⟨g, 0, none⟩) (k + 1) cap) (k + 1) (((G.lats.take (k + 1)).map LatD.init).map bV)) := by
    show World.ownsRow _ _ _ _ _ _ _
    rw [HNX.out]
    exact hown
   have HB5 : Hid (Below W.heap.size W w5) := grown_plain HBr.out HO.out hgrow
   clear hown hgrow hat5 hlt5 hm1 hm2 hm3 HO HBr HNX
   go_wp2
   go_roundw
   case measure => simp [intOf]; omega
   case rel => exact ⟨k + 1, by omega, by simp, HO5.out, HB5.out⟩
  ·have hge : ¬ ((k : Int) < (G.lats.length : Int)) := by omega
   have HO6 : Hid (wr.ownsRow W.heap.size 4 1 u3 G.lats.length ((initN G).map bV)) := by
    have := HO.out
    rw [List.take_of_length_le (by omega), show k = G.lats.length by omega] at this
    exact this
   clear HO
   go_wp2
   go_ret
   exact ⟨_, rfl, own_mono HO6.out HB.out.size, HB.out.trans (HBr.out.mono HB.out.size)⟩
end Go.Proofs.Ytefjicdhccfieaa
