import Derived.Test.YtefjicdhccfieaaK01
import Derived.Test.YtefjicdhccfieaaK15
set_option maxRecDepth 100000
set_option maxHeartbeats 16000000
namespace Go.Proofs.Ytefjicdhccfieaa
open Go.RowKit
def mvF (P : GrD) (fl fg l : Int) : Int := if l / 2 ≤ P.ins then l else if l / 2 < P.first then l + 2 * fl else l + 2 * fg
theorem moved_any (w : World) (c5 c6 c7 pp : Nat) (S : GrS) (Q : GrD) (fl fg l : Int) (h5 : w.cell? ⟨c5, 0, none⟩ = some (.pointer (some ⟨pp, 0, none⟩))) (h6 : w.cell? ⟨c6, 0, none⟩ = some (.int .i64 fl)) (h7 : w.cell? ⟨c7, 0, none⟩ = some (.int .i64 fg)) (hX : BoxAt w pp S Q) (i0 : 0 ≤ Q.ins) (i1 : Q.ins ≤ 60000) (l1 : Q.lats.length < big) (hl : 0 ≤ l ∧ l ≤ 4000000) (hfl : 0 ≤ fl ∧ fl ≤ 1000000) (hfg : 0 ≤ fg ∧ fg ≤ 1000000) :
  Calls Try.prog 75 #[.int .i64 l, .pointer (some ⟨c5, 0, none⟩), .pointer (some ⟨c6, 0, none⟩), .pointer (some ⟨c7, 0, none⟩)] w fun e w' => e = .returned (.int .i64 (mvF Q fl fg l)) ∧ ∃ n, w' = w.drewN n := by
 have FA := hidden (firstGate_any w pp S Q hX i0 i1 l1)
 have q0 := hX.c0
 have HM : Hid (mvF Q fl fg l = if l / 2 ≤ Q.ins then l else if l / 2 < Q.first then l + 2 * fl else l + 2 * fg) := rfl
 generalize mvF Q fl fg l = r at *
 generalize Q.first = fi at *
 generalize Q.ins = ins at *
 have t1 : Int.tdiv l 2 = l / 2 := by rw [Int.tdiv_eq_ediv_of_nonneg hl.1]
 have hm : 0 ≤ l / 2 ∧ l / 2 ≤ 2000000 := by omega
 generalize l / 2 = m at *
 have e1 : IntKind.i64.wrap m = m := wrapI _ (by omega) (by omega)
 have e2 : IntKind.i64.wrap (2 * fl) = 2 * fl := wrapI _ (by omega) (by omega)
 have e3 : IntKind.i64.wrap (l + 2 * fl) = l + 2 * fl := wrapI _ (by omega) (by omega)
 have e4 : IntKind.i64.wrap (2 * fg) = 2 * fg := wrapI _ (by omega) (by omega)
 have e5 : IntKind.i64.wrap (l + 2 * fg) = l + 2 * fg := wrapI _ (by omega) (by omega)
 clear hX
 by_cases h1 : m ≤ ins
 ·have HR : Hid (l = r) := by show _ = _; rw [HM.out, if_pos h1]
  clear HM
  go_enter Try.func75, Try.ntmps75
  go_wp2
  go_ret
  exact ⟨ret_int HR.out, 0, rfl⟩
 ·have h1' : decide (m ≤ ins) = false := decide_eq_false h1
  by_cases h2 : m < fi
  ·have HR : Hid (l + 2 * fl = r) := by show _ = _; rw [HM.out, if_neg h1, if_pos h2]
   clear HM h1
   go_enter Try.func75, Try.ntmps75
   go_wp2_with fail
   go_at_call 74
   refine FA.out.mono ?_
   rintro e w2 ⟨rfl, nd, hw2⟩
   have g6 : w2.cell? ⟨c6, 0, none⟩ = some (.int .i64 fl) := by rw [hw2]; exact h6
   have HW2 := hidden hw2
   clear h5 h6 h7 q0 hw2
   go_wp2
   go_ret
   exact ⟨ret_int HR.out, nd, HW2.out⟩
  ·have h2' : decide (m < fi) = false := decide_eq_false h2
   have HR : Hid (l + 2 * fg = r) := by show _ = _; rw [HM.out, if_neg h1, if_neg h2]
   clear HM h1 h2
   go_enter Try.func75, Try.ntmps75
   go_wp2_with fail
   go_at_call 74
   refine FA.out.mono ?_
   rintro e w2 ⟨rfl, nd, hw2⟩
   have g7 : w2.cell? ⟨c7, 0, none⟩ = some (.int .i64 fg) := by rw [hw2]; exact h7
   have HW2 := hidden hw2
   clear h5 h6 h7 q0 hw2
   go_wp2
   go_ret
   exact ⟨ret_int HR.out, nd, HW2.out⟩
def updU (u : Nat → Value) (f : Nat) (v : Value) : Nat → Value := fun i => if i = f then v else u i
theorem updU_same (u : Nat → Value) (f : Nat) (v : Value) : updU u f v f = v := by simp [updU]
theorem updU_other (u : Nat → Value) {f i : Nat} (v : Value) (h : i ≠ f) : updU u f v i = u i := by simp [updU, h]
structure TkP (C : Nat) (w : World) (gb : Nat) (ins : Int) (u : Nat → Value) (G : GrD) (Ps : List Nat) : Prop where
 box : w.heap[gb]? = some (.cells #[.int .i64 ins, u 1, u 2, u 3] 30 (0, 0))
 l : w.ownsRow C 55 2 (u 1) G.lats.length (G.lats.flatMap LatD.cells)
 a : w.ownsRow C 33 2 (u 2) G.ands.length (G.ands.flatMap AndD.cells)
 o : w.ownsRow C 3 1 (u 3) G.outs.length (G.outs.map (Value.int .i64))
 sep : ∀ i j k, (u i).ownBlock = some k → (u j).ownBlock = some k → i = j
 nb : ∀ i, (u i).ownBlock ≠ some gb
 base : C ≤ gb
 ps : (∀ b, b ∈ Ps → b < w.heap.size ∧ b ≠ gb ∧ ∀ i, (u i).ownBlock ≠ some b) ∧ ∀ i k, (u i).ownBlock = some k → C ≤ k ∧ k < w.heap.size
theorem TkP.lt {C : Nat} {w : World} {gb : Nat} {ins : Int} {u : Nat → Value} {G : GrD} {Ps : List Nat} (h : TkP C w gb ins u G Ps) : gb < w.heap.size := (Array.getElem?_eq_some_iff.1 h.box).1
theorem TkP.size {C : Nat} {w : World} {gb : Nat} {ins : Int} {u : Nat → Value} {G : GrD} {Ps : List Nat} (h : TkP C w gb ins u G Ps) : C ≤ w.heap.size := by have := h.lt; have := h.base; omega
theorem TkP.rest {C : Nat} {w w' : World} {gb : Nat} {ins : Int} {u : Nat → Value} {G : GrD} {Ps : List Nat} (h : TkP C w gb ins u G Ps) (hb : Below w.heap.size w w') : TkP C w' gb ins u G Ps :=
 ⟨(hb.block gb h.lt).trans h.box, own_below h.l hb, own_below h.a hb, own_below h.o hb, h.sep, h.nb, h.base, fun b hb' => ⟨Nat.lt_of_lt_of_le (h.ps.1 b hb').1 hb.size, (h.ps.1 b hb').2⟩, fun i k hk => ⟨(h.ps.2 i k hk).1, Nat.lt_of_lt_of_le (h.ps.2 i k hk).2 hb.size⟩⟩
theorem TkP.more {C : Nat} {w w' : World} {gb : Nat} {ins : Int} {u : Nat → Value} {G : GrD} {Ps : List Nat} (h : TkP C w gb ins u G Ps) (hb : Below w.heap.size w w') (b : Nat) (h1 : w.heap.size ≤ b) (h2 : b < w'.heap.size) : TkP C w' gb ins u G (b :: Ps) := by
 have h' := h.rest hb
 refine ⟨h'.box, h'.l, h'.a, h'.o, h'.sep, h'.nb, h'.base, fun b' hb' => ?_, h'.ps.2⟩
 rcases List.mem_cons.1 hb' with rfl | hb'
 ·refine ⟨h2, by have := h.lt; omega, fun i e => ?_⟩
  have := (h.ps.2 i _ e).2
  omega
 ·exact h'.ps.1 b' hb'
theorem TkP.drop {C : Nat} {w : World} {gb : Nat} {ins : Int} {u : Nat → Value} {G : GrD} {Ps Qs : List Nat} (h : TkP C w gb ins u G Ps) (hq : ∀ b, b ∈ Qs → b ∈ Ps) : TkP C w gb ins u G Qs :=
 ⟨h.box, h.l, h.a, h.o, h.sep, h.nb, h.base, fun b hb => h.ps.1 b (hq b hb), h.ps.2⟩
theorem TkP.fld {C : Nat} {w : World} {gb : Nat} {ins : Int} {u : Nat → Value} {G : GrD} {Ps : List Nat} (h : TkP C w gb ins u G Ps) (f : Nat) (hf : f = 1 ∨ f = 2 ∨ f = 3) : w.cell? ⟨gb, f, none⟩ = some (u f) := by
 rw [cell_of_row _ _ f _ _ (0, 0) h.box]
 rcases hf with rfl | rfl | rfl <;> rfl
theorem TkP.turn {C : Nat} {w w5 : World} {gb : Nat} {ins : Int} {u : Nat → Value} {G : GrD} {Ps : List Nat} (h : TkP C w gb ins u G Ps) (f : Nat) (hf : f = 1 ∨ f = 2 ∨ f = 3) (v : Value) (hg : w.grownBy w5 (u f).ownBlock) (hat : ∀ k, v.ownBlock = some k → (u f).ownBlock = some k ∨ w.heap.size ≤ k) :
  (w5.setCell ⟨gb, f, none⟩ v).heap[gb]? = some (.cells #[.int .i64 ins, updU u f v 1, updU u f v 2, updU u f v 3] 30 (0, 0)) ∧
  (∀ i, i ≠ f → ∀ {e size n : Nat} {xs : List Value}, w.ownsRow C e size (u i) n xs → (w5.setCell ⟨gb, f, none⟩ v).ownsRow C e size (u i) n xs) ∧
  (∀ i j k, (updU u f v i).ownBlock = some k → (updU u f v j).ownBlock = some k → i = j) ∧
  (∀ i, (updU u f v i).ownBlock ≠ some gb) ∧
  ((∀ b, b ∈ Ps → b < (w5.setCell ⟨gb, f, none⟩ v).heap.size ∧ b ≠ gb ∧ ∀ i, (updU u f v i).ownBlock ≠ some b) ∧ ∀ i k, (updU u f v i).ownBlock = some k → (v.ownBlock = some k → C ≤ k ∧ k < w5.heap.size) → C ≤ k ∧ k < (w5.setCell ⟨gb, f, none⟩ v).heap.size) ∧
  Below C w (w5.setCell ⟨gb, f, none⟩ v) ∧ ∀ b, b ∈ Ps → (w5.setCell ⟨gb, f, none⟩ v).heap[b]? = w.heap[b]? := by
 have hlt := h.lt
 have hsz : (w5.setCell ⟨gb, f, none⟩ v).heap.size = w5.heap.size := by simp [World.setCell]
 have hgs := gset w5 gb f v
 have hvgb : v.ownBlock ≠ some gb := fun e => by
  rcases hat gb e with h1 | h1
  ·exact h.nb f h1
  ·omega
 have huv : ∀ i, i ≠ f → ∀ k, (u i).ownBlock = some k → v.ownBlock ≠ some k := fun i hi k hk e => by
  rcases hat k e with h1 | h1
  ·exact hi (h.sep i f k hk h1)
  ·have := (h.ps.2 i k hk).2; omega
 refine ⟨?_, fun i hi e size n xs hr => ?_, fun i j k h1 h2 => ?_, fun i => ?_, ⟨fun b hb => ⟨?_, (h.ps.1 b hb).2.1, fun i => ?_⟩, fun i k hk hv => ?_⟩, ?_, fun b hb => ?_⟩
 ·have h1 : w5.heap[gb]? = some (.cells #[.int .i64 ins, u 1, u 2, u 3] 30 (0, 0)) := by rw [hg.block gb hlt (fun e => h.nb f e.symm)]; exact h.box
  rw [set_self h1]
  rcases hf with rfl | rfl | rfl <;> simp [updU]
 ·refine (hr.kept hg ?_).kept hgs (.inr (h.nb i))
  cases hv : (u i).ownBlock with
  | none => exact .inl rfl
  | some k => exact .inr (fun e => hi (h.sep i f k hv e.symm))
 ·by_cases e1 : i = f
  ·by_cases e2 : j = f
   ·rw [e1, e2]
   ·subst e1
    rw [updU_same] at h1
    rw [updU_other _ _ e2] at h2
    exact absurd h1 (huv j e2 k h2)
  ·by_cases e2 : j = f
   ·subst e2
    rw [updU_same] at h2
    rw [updU_other _ _ e1] at h1
    exact absurd h2 (huv i e1 k h1)
   ·rw [updU_other _ _ e1] at h1
    rw [updU_other _ _ e2] at h2
    exact h.sep i j k h1 h2
 ·by_cases e1 : i = f
  ·subst e1; rw [updU_same]; exact hvgb
  ·rw [updU_other _ _ e1]; exact h.nb i
 ·rw [hsz]; exact Nat.lt_of_lt_of_le (h.ps.1 b hb).1 hg.size
 ·by_cases e1 : i = f
  ·subst e1
   rw [updU_same]
   intro e
   rcases hat b e with h1 | h1
   ·exact (h.ps.1 b hb).2.2 i h1
   ·have := (h.ps.1 b hb).1; omega
  ·rw [updU_other _ _ e1]; exact (h.ps.1 b hb).2.2 i
 ·rw [hsz]
  by_cases e1 : i = f
  ·subst e1; rw [updU_same] at hk; exact hv hk
  ·rw [updU_other _ _ e1] at hk
   exact ⟨(h.ps.2 i k hk).1, Nat.lt_of_lt_of_le (h.ps.2 i k hk).2 hg.size⟩
 ·have hC := h.size
  have hb5 : Below C w w5 := ⟨hg.os, hg.tape, hg.output, hg.size, fun k hk => hg.block k (by omega) (fun e => by
   have := (h.ps.2 f k e.symm).1
   omega)⟩
  exact hb5.trans (below_of hgs h.base (Nat.le_trans hC hg.size))
 ·obtain ⟨q1, q2, q3⟩ := h.ps.1 b hb
  rw [hgs.block b (Nat.lt_of_lt_of_le q1 hg.size) (fun e => q2 (Option.some.inj e))]
  exact hg.block b q1 (fun e => q3 f e.symm)
theorem TkP.pushl {C : Nat} {w w5 : World} {gb : Nat} {ins : Int} {u : Nat → Value} {G : GrD} {Ps : List Nat} (h : TkP C w gb ins u G Ps) (d : LatD) {g cap : Nat} (hg : w.grownBy w5 (u 1).ownBlock)
  (hown : w5.ownsRow C 55 2 (.slice (some ⟨g, 0, none⟩) (G.lats.length + 1) cap) (G.lats.length + 1) ((G.lats.flatMap LatD.cells) ++ ([d].flatMap LatD.cells)))
  (hat : (u 1).ownBlock = some g ∨ w.heap.size ≤ g) :
  TkP C (w5.setCell ⟨gb, 1, none⟩ (.slice (some ⟨g, 0, none⟩) (G.lats.length + 1) cap)) gb ins (updU u 1 (.slice (some ⟨g, 0, none⟩) (G.lats.length + 1) cap)) { G with lats := G.lats ++ [d] } Ps ∧ Below C w (w5.setCell ⟨gb, 1, none⟩ (.slice (some ⟨g, 0, none⟩) (G.lats.length + 1) cap)) ∧ ∀ b, b ∈ Ps → (w5.setCell ⟨gb, 1, none⟩ (.slice (some ⟨g, 0, none⟩) (G.lats.length + 1) cap)).heap[b]? = w.heap[b]? := by
 have key := h.turn 1 (by decide) (.slice (some ⟨g, 0, none⟩) (G.lats.length + 1) cap) hg (fun k hk => by
  have e : g = k := by simpa [Value.ownBlock] using hk
  rw [← e]; exact hat)
 obtain ⟨k1, k2, k3, k4, k5, k6, k7⟩ := key
 have hgb : g ≠ gb := fun e => k4 1 (by rw [updU_same, e]; rfl)
 have hnew := hown.kept (gset w5 gb 1 (.slice (some ⟨g, 0, none⟩) (G.lats.length + 1) cap)) (.inr (fun e => hgb (Option.some.inj e)))
 refine ⟨⟨k1, ?_, ?_, ?_, k3, k4, h.base, k5.1, fun i k hk => k5.2 i k hk (fun hv => hown.lt k hv)⟩, k6, k7⟩
 ·rw [updU_same]; simp only [List.length_append, List.flatMap_append]; exact hnew
 ·rw [updU_other _ _ (by decide)]; exact k2 2 (by decide) h.a
 ·rw [updU_other _ _ (by decide)]; exact k2 3 (by decide) h.o
theorem TkP.pusha {C : Nat} {w w5 : World} {gb : Nat} {ins : Int} {u : Nat → Value} {G : GrD} {Ps : List Nat} (h : TkP C w gb ins u G Ps) (d : AndD) {g cap : Nat} (hg : w.grownBy w5 (u 2).ownBlock)
  (hown : w5.ownsRow C 33 2 (.slice (some ⟨g, 0, none⟩) (G.ands.length + 1) cap) (G.ands.length + 1) ((G.ands.flatMap AndD.cells) ++ ([d].flatMap AndD.cells)))
  (hat : (u 2).ownBlock = some g ∨ w.heap.size ≤ g) :
  TkP C (w5.setCell ⟨gb, 2, none⟩ (.slice (some ⟨g, 0, none⟩) (G.ands.length + 1) cap)) gb ins (updU u 2 (.slice (some ⟨g, 0, none⟩) (G.ands.length + 1) cap)) { G with ands := G.ands ++ [d] } Ps ∧ Below C w (w5.setCell ⟨gb, 2, none⟩ (.slice (some ⟨g, 0, none⟩) (G.ands.length + 1) cap)) ∧ ∀ b, b ∈ Ps → (w5.setCell ⟨gb, 2, none⟩ (.slice (some ⟨g, 0, none⟩) (G.ands.length + 1) cap)).heap[b]? = w.heap[b]? := by
 have key := h.turn 2 (by decide) (.slice (some ⟨g, 0, none⟩) (G.ands.length + 1) cap) hg (fun k hk => by
  have e : g = k := by simpa [Value.ownBlock] using hk
  rw [← e]; exact hat)
 obtain ⟨k1, k2, k3, k4, k5, k6, k7⟩ := key
 have hgb : g ≠ gb := fun e => k4 2 (by rw [updU_same, e]; rfl)
 have hnew := hown.kept (gset w5 gb 2 (.slice (some ⟨g, 0, none⟩) (G.ands.length + 1) cap)) (.inr (fun e => hgb (Option.some.inj e)))
 refine ⟨⟨k1, ?_, ?_, ?_, k3, k4, h.base, k5.1, fun i k hk => k5.2 i k hk (fun hv => hown.lt k hv)⟩, k6, k7⟩
 ·rw [updU_other _ _ (by decide)]; exact k2 1 (by decide) h.l
 ·rw [updU_same]; simp only [List.length_append, List.flatMap_append]; exact hnew
 ·rw [updU_other _ _ (by decide)]; exact k2 3 (by decide) h.o
theorem TkP.pusho {C : Nat} {w w5 : World} {gb : Nat} {ins : Int} {u : Nat → Value} {G : GrD} {Ps : List Nat} (h : TkP C w gb ins u G Ps) (d : Int) {g cap : Nat} (hg : w.grownBy w5 (u 3).ownBlock)
  (hown : w5.ownsRow C 3 1 (.slice (some ⟨g, 0, none⟩) (G.outs.length + 1) cap) (G.outs.length + 1) ((G.outs.map (Value.int .i64)) ++ ([d].map (Value.int .i64))))
  (hat : (u 3).ownBlock = some g ∨ w.heap.size ≤ g) :
  TkP C (w5.setCell ⟨gb, 3, none⟩ (.slice (some ⟨g, 0, none⟩) (G.outs.length + 1) cap)) gb ins (updU u 3 (.slice (some ⟨g, 0, none⟩) (G.outs.length + 1) cap)) { G with outs := G.outs ++ [d] } Ps ∧ Below C w (w5.setCell ⟨gb, 3, none⟩ (.slice (some ⟨g, 0, none⟩) (G.outs.length + 1) cap)) ∧ ∀ b, b ∈ Ps → (w5.setCell ⟨gb, 3, none⟩ (.slice (some ⟨g, 0, none⟩) (G.outs.length + 1) cap)).heap[b]? = w.heap[b]? := by
 have key := h.turn 3 (by decide) (.slice (some ⟨g, 0, none⟩) (G.outs.length + 1) cap) hg (fun k hk => by
  have e : g = k := by simpa [Value.ownBlock] using hk
  rw [← e]; exact hat)
 obtain ⟨k1, k2, k3, k4, k5, k6, k7⟩ := key
 have hgb : g ≠ gb := fun e => k4 3 (by rw [updU_same, e]; rfl)
 have hnew := hown.kept (gset w5 gb 3 (.slice (some ⟨g, 0, none⟩) (G.outs.length + 1) cap)) (.inr (fun e => hgb (Option.some.inj e)))
 refine ⟨⟨k1, ?_, ?_, ?_, k3, k4, h.base, k5.1, fun i k hk => k5.2 i k hk (fun hv => hown.lt k hv)⟩, k6, k7⟩
 ·rw [updU_other _ _ (by decide)]; exact k2 1 (by decide) h.l
 ·rw [updU_other _ _ (by decide)]; exact k2 2 (by decide) h.a
 ·rw [updU_same]; simp only [List.length_append, List.map_append]; exact hnew
end Go.Proofs.Ytefjicdhccfieaa

set_option maxRecDepth 100000
set_option maxHeartbeats 16000000
namespace Go.Proofs.Ytefjicdhccfieaa
open Go.RowKit
theorem info_lat0 : (Try.prog.info? 55).map (fun i => (i.zero, i.size, i.bytes)) = some (some (.agg #[.int .i64 0, .bool false]), 2, 16) := by kernel_rfl
theorem info_lat : ∃ i, Try.prog.info? 55 = some i ∧ i.zero = some (.agg #[.int .i64 0, .bool false]) ∧ i.size = 2 ∧ i.bytes = 16 := by
 have h := info_lat0
 cases hi : Try.prog.info? 55 with
 | none => rw [hi] at h; cases h
 | some i => rw [hi] at h; simp at h; exact ⟨i, rfl, h.1, h.2.1, h.2.2⟩
end Go.Proofs.Ytefjicdhccfieaa
