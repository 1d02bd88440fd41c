import Derived.Test.YtefjicdhccfieaaJuD
import Derived.Test.YtefjicdhccfieaaRfF
import Derived.Deep.AppendLies
import Derived.Deep.AppendSrc
namespace Go.Proofs.Ytefjicdhccfieaa
open Go.RowKit

/-- clauses that are collected in a field of a box -/
structure Wr (C : Nat) (w : World) (wb : Nat) (cs : Array Value) (ty : TypeId) (off : Nat) (u : Value) (cls : List CL) : Prop where
  box : w.heap[wb]? = some (.cells cs ty (0, 0))
  fld : cs[off]? = some u
  own : w.ownsRow C 26 1 u cls.length (cls.map fun t => .slice t.a t.l.length t.c)
  nb : u.ownBlock ≠ some wb
  each : ∀ t, t ∈ cls → RowAt w.heap.size w t.a 1 (t.l.map intC)
  far : ∀ t, t ∈ cls → ∀ x, t.a = some x → C ≤ x.block ∧ x.block < w.heap.size ∧ x.block ≠ wb ∧ u.ownBlock ≠ some x.block
  base : C ≤ wb
theorem Wr.lt {C : Nat} {w : World} {wb : Nat} {cs : Array Value} {ty : TypeId} {off : Nat} {u : Value} {cls : List CL} (h : Wr C w wb cs ty off u cls) : wb < w.heap.size := (Array.getElem?_eq_some_iff.1 h.box).1
theorem Wr.rest {C : Nat} {w w' : World} {wb : Nat} {cs : Array Value} {ty : TypeId} {off : Nat} {u : Value} {cls : List CL} (h : Wr C w wb cs ty off u cls) (hb : Below w.heap.size w w') : Wr C w' wb cs ty off u cls :=
  ⟨(hb.block wb h.lt).trans h.box, h.fld, own_below h.own hb, h.nb, fun t ht => ((h.each t ht).to hb).mono hb.size, fun t ht x hx => ⟨(h.far t ht x hx).1, Nat.lt_of_lt_of_le (h.far t ht x hx).2.1 hb.size, (h.far t ht x hx).2.2⟩, h.base⟩
theorem row_keep {w w' : World} {a : Option Addr} {l : List (List Value)} {sz : Nat} (h : RowAt w.heap.size w a sz l) (hs : w.heap.size ≤ w'.heap.size) (hk : ∀ x, a = some x → ∀ j, w'.cell? ⟨x.block, j, none⟩ = w.cell? ⟨x.block, j, none⟩) : RowAt w'.heap.size w' a sz l := fun he => by
  obtain ⟨b, o, ha, hlt, hc⟩ := h he
  refine ⟨b, o, ha, Nat.lt_of_lt_of_le hlt hs, ?_⟩
  intro i l' hl j v hv
  rw [hk _ ha]
  exact hc i l' hl j v hv
theorem Wr.grow {C : Nat} {w w5 : World} {wb : Nat} {cs : Array Value} {ty : TypeId} {off : Nat} {u : Value} {cls : List CL} (h : Wr C w wb cs ty off u cls) (t : CL) (ht : RowAt w.heap.size w t.a 1 (t.l.map intC)) (hf : ∀ x, t.a = some x → C ≤ x.block ∧ x.block < w.heap.size ∧ x.block ≠ wb ∧ u.ownBlock ≠ some x.block) {g cap : Nat} (hg : w.grownBy w5 u.ownBlock)
    (hown : w5.ownsRow C 26 1 (.slice (some ⟨g, 0, none⟩) (cls.length + 1) cap) (cls.length + 1) ((cls.map fun t => .slice t.a t.l.length t.c) ++ [.slice t.a t.l.length t.c]))
    (hat : u.ownBlock = some g ∨ w.heap.size ≤ g) :
    Wr C (w5.setCell ⟨wb, off, none⟩ (.slice (some ⟨g, 0, none⟩) (cls.length + 1) cap)) wb (cs.setIfInBounds off (.slice (some ⟨g, 0, none⟩) (cls.length + 1) cap)) ty off (.slice (some ⟨g, 0, none⟩) (cls.length + 1) cap) (cls ++ [t]) ∧ Below C w (w5.setCell ⟨wb, off, none⟩ (.slice (some ⟨g, 0, none⟩) (cls.length + 1) cap)) ∧ (∀ b, b < w.heap.size → b ≠ wb → u.ownBlock ≠ some b → (w5.setCell ⟨wb, off, none⟩ (.slice (some ⟨g, 0, none⟩) (cls.length + 1) cap)).heap[b]? = w.heap[b]?) ∧ (∀ b, b < w.heap.size → u.ownBlock ≠ some b → (Value.slice (some ⟨g, 0, none⟩) (cls.length + 1) cap).ownBlock ≠ some b) := by
  have hlt := h.lt
  have hgw : g ≠ wb := fun e => by
    rcases hat with h1 | h1
    · exact h.nb (by rw [h1, e])
    · omega
  have hsz : w.heap.size ≤ (w5.setCell ⟨wb, off, none⟩ (.slice (some ⟨g, 0, none⟩) (cls.length + 1) cap)).heap.size := by
    have := hg.size
    simp [World.setCell]; exact this
  have hoff : off < cs.size := (Array.getElem?_eq_some_iff.1 h.fld).1
  have hall : ∀ t', t' ∈ cls ++ [t] → RowAt w.heap.size w t'.a 1 (t'.l.map intC) ∧ ∀ x, t'.a = some x → C ≤ x.block ∧ x.block < w.heap.size ∧ x.block ≠ wb ∧ u.ownBlock ≠ some x.block := fun t' ht' => by
    rcases List.mem_append.1 ht' with h1 | h1
    · exact ⟨h.each t' h1, h.far t' h1⟩
    · rw [List.mem_singleton.1 h1]; exact ⟨ht, hf⟩
  refine ⟨⟨?_, ?_, ?_, ?_, fun t' ht' => ?_, fun t' ht' x hx => ?_, h.base⟩, ?_, fun b hb1 hb2 hb3 => ?_, fun b hb1 hb2 e => ?_⟩
  · refine set_self ?_
    rw [hg.block wb hlt (fun e => h.nb e.symm)]; exact h.box
  · rw [Array.getElem?_setIfInBounds_self, if_pos hoff]
  · have := hown.kept (gset w5 wb off (.slice (some ⟨g, 0, none⟩) (cls.length + 1) cap)) (.inr (fun e => hgw (Option.some.inj e)))
    rw [List.map_append, List.length_append]
    exact this
  · intro e; exact hgw (Option.some.inj e)
  · obtain ⟨h1, h2⟩ := hall t' ht'
    refine row_keep h1 hsz (fun x hx j => ?_)
    obtain ⟨-, q1, q2, q3⟩ := h2 x hx
    refine (World.cell?_setCell_far _ _ _ _ (fun e => q2 (by have e' : wb = x.block := e; exact e'.symm))).trans ?_
    exact World.cell?_of_block (hg.block x.block q1 (fun e => q3 e.symm))
  · obtain ⟨h1, h2⟩ := hall t' ht'
    obtain ⟨q0, q1, q2, q3⟩ := h2 x hx
    refine ⟨q0, Nat.lt_of_lt_of_le q1 hsz, q2, fun e => ?_⟩
    have e2 : g = x.block := Option.some.inj e
    rcases hat with h3 | h3
    · exact q3 (by rw [h3, e2])
    · omega
  · have hC : C ≤ w.heap.size := Nat.le_trans h.base (Nat.le_of_lt hlt)
    have hb5 : Below C w w5 := ⟨hg.os, hg.tape, hg.output, hg.size, fun k hk => hg.block k (by omega) (fun e => by
      have := (h.own.lt k e.symm).1
      omega)⟩
    exact ⟨hb5.os, hb5.tape, hb5.output, Nat.le_trans hb5.size (by simp [World.setCell]), fun k hk => by
      rw [← hb5.block k hk]
      simp only [World.setCell, Array.getElem?_modify]
      rw [if_neg (by have := h.base; omega)]⟩
  · rw [← hg.block b hb1 (fun e => hb3 e.symm)]
    simp only [World.setCell, Array.getElem?_modify]
    rw [if_neg (fun e => hb2 (by have e' : wb = b := e; exact e'.symm))]
  · have e2 : g = b := Option.some.inj e
    rcases hat with h3 | h3
    · exact hb2 (by rw [h3, e2])
    · omega

/-- a literal of a graph as a formula has it -/
def numF (sz k l : Int) : Int := if l % 2 = 1 then -(k * sz + l / 2 + 1) else k * sz + l / 2 + 1
theorem numF_le {sz k l : Int} (hs : 0 ≤ sz ∧ sz ≤ 1000000) (hk : k = 0 ∨ k = 1) (hl : 0 ≤ l ∧ l ≤ 4000000) : -4000000 ≤ numF sz k l ∧ numF sz k l ≤ 4000000 := by
  unfold numF
  rcases hk with rfl | rfl <;> split <;> omega
/-- the writer's clauses -/
def WF (C : Nat) (w : World) (wb gp : Nat) (sz : Int) (F : List (List Int)) : Prop := ∃ u cls, Wr C w wb #[.pointer (some ⟨gp, 0, none⟩), .int .i64 sz, u] 109 2 u cls ∧ cls.map CL.l = F
theorem WF.rest {C : Nat} {w w' : World} {wb gp : Nat} {sz : Int} {F : List (List Int)} (h : WF C w wb gp sz F) (hb : Below w.heap.size w w') : WF C w' wb gp sz F := by
  obtain ⟨u, cls, h1, h2⟩ := h
  exact ⟨u, cls, h1.rest hb, h2⟩
theorem WF.c0 {C : Nat} {w : World} {wb gp : Nat} {sz : Int} {F : List (List Int)} (h : WF C w wb gp sz F) : w.cell? ⟨wb, 0, none⟩ = some (.pointer (some ⟨gp, 0, none⟩)) := by
  obtain ⟨u, cls, h1, h2⟩ := h
  exact (cell_of_row _ _ 0 _ _ (0, 0) h1.box).trans rfl
theorem WF.c1 {C : Nat} {w : World} {wb gp : Nat} {sz : Int} {F : List (List Int)} (h : WF C w wb gp sz F) : w.cell? ⟨wb, 1, none⟩ = some (.int .i64 sz) := by
  obtain ⟨u, cls, h1, h2⟩ := h
  exact (cell_of_row _ _ 1 _ _ (0, 0) h1.box).trans rfl
theorem WF.size {C : Nat} {w : World} {wb gp : Nat} {sz : Int} {F : List (List Int)} (h : WF C w wb gp sz F) : C ≤ w.heap.size := by
  obtain ⟨u, cls, h1, h2⟩ := h
  have := h1.base
  have := h1.lt
  omega
/-- what say leaves -/
def SayP (C : Nat) (w : World) (wb gp : Nat) (sz : Int) (u : Value) (cls : List CL) (w' : World) : Prop := (∃ u', Wr C w' wb #[.pointer (some ⟨gp, 0, none⟩), .int .i64 sz, u'] 109 2 u' cls ∧ ∀ b, b < w.heap.size → u.ownBlock ≠ some b → u'.ownBlock ≠ some b) ∧ Below C w w' ∧ ∀ b, b < w.heap.size → b ≠ wb → u.ownBlock ≠ some b → w'.heap[b]? = w.heap[b]?
set_option maxRecDepth 100000 in
set_option maxHeartbeats 8000000 in
theorem say_any (C : Nat) (w : World) (wb gp : Nat) (sz : Int) (u : Value) (cls : List CL) (h : Wr C w wb #[.pointer (some ⟨gp, 0, none⟩), .int .i64 sz, u] 109 2 u cls) (t : CL) (ht : RowAt w.heap.size w t.a 1 (t.l.map intC)) (hf : ∀ x, t.a = some x → C ≤ x.block ∧ x.block < w.heap.size ∧ x.block ≠ wb ∧ u.ownBlock ≠ some x.block) (hn : cls.length ≤ 16777216) :
    Calls Try.prog 76 #[.pointer (some ⟨wb, 0, none⟩), .slice t.a t.l.length t.c] w fun e w' => e = .returned (.tuple #[]) ∧ SayP C w wb gp sz u (cls ++ [t]) w' := by
  have HW := hidden h
  have HT := hidden ht
  have HF := hidden hf
  obtain ⟨ic, hi, hz, hs, hby⟩ := info_cl
  have HI := hidden hi
  have HZ := hidden hz
  have HS := hidden hs
  have HY := hidden hby
  clear hi hz hs hby
  have HOW := hidden h.own
  have f2 : w.cell? ⟨wb, 2, none⟩ = some u := (cell_of_row _ _ 2 _ _ (0, 0) h.box).trans rfl
  have z2 : w.frozen? ⟨wb, 2, none⟩ = false := frozen_of_row w wb 2 _ _ h.box
  have hlt := h.lt
  have far : u.ownBlock ≠ some wb := h.nb
  have hB : C ≤ w.heap.size := by have := h.base; omega
  have hm1 : cls.length + 1 ≤ maxLen := by simp only [maxLen]; omega
  have hm2 : (cls.length + 1) * 24 ≤ 140737488355328 := by omega
  have hm3 : C ≤ (w.alloc (.cells #[.slice t.a t.l.length t.c] 26)).heap.size := by simp; omega
  have KP : Hid (∀ w', w.grownBy w' u.ownBlock → w'.cell? ⟨wb, 2, none⟩ = some u ∧ w'.frozen? ⟨wb, 2, none⟩ = false) := fun w' hg => ⟨(hg.cell_far ⟨wb, 2, none⟩ hlt (fun e => far e.symm)).trans f2, (hg.frozen_far ⟨wb, 2, none⟩ hlt (fun e => far e.symm)).trans z2⟩
  obtain ⟨cn, HCN⟩ : ∃ n, Hid (n = cls.length) := ⟨_, rfl⟩
  obtain ⟨tn, HTN⟩ : ∃ n, Hid (n = t.l.length) := ⟨_, rfl⟩
  rw [← HCN.out] at hm1 hm2 HOW
  rw [← HTN.out] at hm3
  rw [← HTN.out]
  clear h ht hf z2
  go_enter Try.func76, Try.ntmps76
  have tok : True := trivial
  go_wp2_with (have _t := tok; at_builtin; (refine wpList_append_lies _ rfl (.tmp 8) (.tmp 10) 22 rfl C 26 ic _ 1 24 Try.underlying22 HI.out HZ.out HS.out HY.out rfl (by decide) u cn _ rfl (HOW.out.alloc _) ⟨w.heap.size, 0, none⟩ 1 1 [.slice t.a tn t.c] rfl rfl (World.news_of_block (heap_new _ _)) (by simp [Value.oneCell']) (by decide) hm1 hm2 hm3 _ rfl ?_; intro g cap w5 hown hgrow hat hlt5; clear tok; have hg5 := grown_trn (World.grownBy_alloc w _ _) hgrow; have hc5 := (KP.out w5 hg5).1; have hz5 := (KP.out w5 hg5).2))
  obtain ⟨h6, h7, h8, h9⟩ := HW.out.grow t HT.out HF.out hg5 (by rw [← HCN.out, ← HTN.out]; exact hown) (g := g) (cap := cap) (by
    rcases hat with h | h
    · exact .inl h
    · refine .inr ?_
      simp at h
      omega)
  rw [← HCN.out] at h6 h7 h8 h9
  generalize hW6 : World.setCell w5 _ _ = w6
  rw [hW6] at h6 h7 h8
  have HX : Hid (SayP C w wb gp sz u (cls ++ [t]) w6) := ⟨⟨_, h6, h9⟩, h7, h8⟩
  clear h6 h7 h8 h9 hW6 hown hgrow hat hlt5 hg5 hc5 hz5 f2
  go_wp2
  go_end0
  exact ⟨rfl, HX.out⟩

end Go.Proofs.Ytefjicdhccfieaa
