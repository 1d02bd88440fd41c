import Derived.Test.YtdiahnommkhkiaaDoorAqG
import Derived.Test.YtdiahnommkhkiaaDoorArC
import Derived.Deep.CutBlock
namespace Go.Proofs.YtdiahnommkhkiaaDoor
open Go.RowKit

/-- a panic whatever the frame -/
def AnyPanic (Q : Exit → Act → World → Prop) : Exit → Act → World → Prop
  | .panic c, a, w => ∀ a', a'.defers = a.defers → Q (.panic c) a' w
  | e, a, w => Q e a w
theorem AnyPanic.normal {Q : Exit → Act → World → Prop} {a : Act} {w : World} (h : Q .normal a w) : AnyPanic Q .normal a w := h
theorem AnyPanic.panic {Q : Exit → Act → World → Prop} {c : List PanicEntry} {a : Act} {w : World} (h : ∀ a', a'.defers = a.defers → Q (.panic c) a' w) : AnyPanic Q (.panic c) a w := h
theorem AnyPanic.imp {Q : Exit → Act → World → Prop} : ∀ (e : Exit) (a : Act) (w : World), AnyPanic Q e a w → Q e a w := fun e a w h => by
  cases e <;> first | exact h | exact h a rfl
theorem wp_region_anyPanic {P : Program} {id : Nat} {ops : Array Oper} {b : Bool} {Q : Exit → Act → World → Prop} {a : Act} {w : World} (h : (Code.region id ops b).wp P (AnyPanic Q) a w) : (Code.region id ops b).wp P Q a w :=
  Code.wp_mono AnyPanic.imp h
/-- all but two blocks is as it was -/
structure Gr2 (r g : Nat) (w w' : World) : Prop where
  os : w'.os = w.os
  tape : w'.tape = w.tape
  output : w'.output = w.output
  size : w.heap.size ≤ w'.heap.size
  block : ∀ k, k < w.heap.size → k ≠ r → k ≠ g → w'.heap[k]? = w.heap[k]?
theorem Gr2.refl (r g : Nat) (w : World) : Gr2 r g w w := ⟨rfl, rfl, rfl, Nat.le_refl _, fun _ _ _ _ => rfl⟩
theorem Gr2.grow {r g : Nat} {a b c : World} {row : Option Nat} (h : Gr2 r g a b) (h2 : b.grownBy c row) (hr : ∀ y, row = some y → y = r ∨ y = g ∨ a.heap.size ≤ y) : Gr2 r g a c :=
  ⟨h2.os.trans h.os, h2.tape.trans h.tape, h2.output.trans h.output, Nat.le_trans h.size h2.size, fun k hk h3 h4 => by
    have := h.size
    rw [h2.block k (by omega) (fun e => by have := hr k e.symm; omega), h.block k hk h3 h4]⟩
theorem Gr2.trans {r g : Nat} {a b c : World} (h : Gr2 r g a b) (h2 : Gr2 r g b c) : Gr2 r g a c :=
  ⟨h2.os.trans h.os, h2.tape.trans h.tape, h2.output.trans h.output, Nat.le_trans h.size h2.size, fun k hk h3 h4 => by
    have := h.size
    rw [h2.block k (by omega) h3 h4, h.block k hk h3 h4]⟩
theorem Gr2.cell {r g : Nat} {a b : World} (h : Gr2 r g a b) {x o : Nat} (hx : x < a.heap.size) (h1 : x ≠ r) (h2 : x ≠ g) : b.cell? ⟨x, o, none⟩ = a.cell? ⟨x, o, none⟩ := World.cell?_of_block (h.block x hx h1 h2)
theorem Gr2.grown {r g : Nat} {we wc w' : World} (h : Gr2 r g wc w') (h0 : we.grownBy wc (some r)) (hg : we.heap.size ≤ g) : we.grownBy w' (some r) :=
  ⟨h.os.trans h0.os, h.tape.trans h0.tape, h.output.trans h0.output, Nat.le_trans h0.size h.size, fun k hk hne => by
    have := h0.size
    have h1 : k ≠ r := fun e => hne (by rw [e])
    rw [h.block k (by omega) h1 (by omega), h0.block k hk hne]⟩
theorem Gr2.own {r g : Nat} {a b : World} {C e sz n : Nat} {v : Value} {xs : List Value} (h : Gr2 r g a b) (ho : a.ownsRow C e sz v n xs) (hr : r < C) (hg : g < C) : b.ownsRow C e sz v n xs := by
  refine ⟨ho.1, ?_⟩
  rcases ho.2 with hn | ⟨x, cap, cur, hv, hb, hgg, rest⟩
  · exact .inl hn
  · refine .inr ⟨x, cap, cur, hv, hb, (h.block x ?_ (by omega) (by omega)).trans hgg, rest⟩
    rcases Nat.lt_or_ge x a.heap.size with h' | h'
    · exact h'
    · simp [Array.getElem?_eq_none h'] at hgg
theorem Vars.gr2 {w w' : World} {r g : Nat} (h : Vars w) (hg : Gr2 r g w w') (hr : 2 ≤ r) (hg2 : 2 ≤ g) (h2 : 2 ≤ w.heap.size) : Vars w' :=
  ⟨(hg.cell (by omega) (by omega) (by omega)).trans h.et, by obtain ⟨m, hm⟩ := h.ml; exact ⟨m, (hg.cell (by omega) (by omega) (by omega)).trans hm⟩⟩
/-- behind a call that reads a line -/
structure Aft (wc w1 : World) (r gb f te sz : Nat) (u : Value) (k : Nat) (xs : List Value) : Prop where
  hu : w1.cell? ⟨gb, f, none⟩ = some u
  o : w1.ownsRow wc.heap.size te sz u k xs
  gr : Gr2 r gb wc w1
  z : ∀ j, w1.frozen? ⟨gb, j, none⟩ = false
  hj : ∀ j, j ≠ f → w1.cell? ⟨gb, j, none⟩ = wc.cell? ⟨gb, j, none⟩
theorem aft_of {wc wr w1 : World} {r gb f te sz : Nat} {u : Value} {k : Nat} {xs : List Value} (hg : wr.drew.grownBy w1 (some r)) (HG : Gr2 r gb wc wr) (HU : wr.cell? ⟨gb, f, none⟩ = some u) (HO : wr.ownsRow wc.heap.size te sz u k xs) (HF : ∀ j, wr.frozen? ⟨gb, j, none⟩ = false) (HJ : ∀ j, j ≠ f → wr.cell? ⟨gb, j, none⟩ = wc.cell? ⟨gb, j, none⟩) (hgr : gb ≠ r) (hgb : gb < wc.heap.size) (hr : r < wc.heap.size) : Aft wc w1 r gb f te sz u k xs := by
  have hs := HG.size
  have hg' := grown_of_drew hg
  refine ⟨(gcell hg' (by omega) hgr).trans HU, HO.kept hg' (.inr fun e => ?_), HG.grow hg' (fun y hy => .inl (Option.some.inj hy).symm), fun j => ?_, fun j hj => (gcell hg' (by omega) hgr).trans (HJ j hj)⟩
  · have := (HO.lt r e).1; omega
  · exact (hg'.frozen_far ⟨gb, j, none⟩ (by show gb < _; omega) (fun e => hgr (Option.some.inj e))).trans (HF j)
/-- .. and behind the append -/
structure Aft5 (wc w1 w5 : World) (r gb f : Nat) (u : Value) (g : Nat) : Prop where
  hu : w5.cell? ⟨gb, f, none⟩ = some u
  z : ∀ j, w5.frozen? ⟨gb, j, none⟩ = false
  hn : g ≠ gb
  gr : Gr2 r gb wc w5
  hj : ∀ j, j ≠ f → w5.cell? ⟨gb, j, none⟩ = wc.cell? ⟨gb, j, none⟩
  hr : w5.heap[r]? = w1.heap[r]? ∧ r < w5.heap.size
theorem aft_app {wc w1 w5 : World} {r gb f te sz : Nat} {u : Value} {k : Nat} {xs : List Value} {o : Obj} {g : Nat} (h : Aft wc w1 r gb f te sz u k xs) (hgb : gb < wc.heap.size) (hr : r < wc.heap.size) (hg : (w1.alloc o).grownBy w5 u.ownBlock) (hat : u.ownBlock = some g ∨ g = (w1.alloc o).heap.size) : Aft5 wc w1 w5 r gb f u g := by
  have hs := h.gr.size
  have hg' : w1.grownBy w5 u.ownBlock := grown_trans (World.grownBy_alloc _ _ _) hg
  have far : ∀ x, x < wc.heap.size → some x ≠ u.ownBlock := fun x hx e => by have := (h.o.lt x e.symm).1; omega
  refine ⟨(hg'.cell_far ⟨gb, f, none⟩ (by show gb < _; omega) (far gb hgb)).trans h.hu, fun j => (hg'.frozen_far ⟨gb, j, none⟩ (by show gb < _; omega) (far gb hgb)).trans (h.z j), fun e => ?_, h.gr.grow hg' (fun y hy => .inr (.inr (h.o.lt y hy).1)), fun j hj => (hg'.cell_far ⟨gb, j, none⟩ (by show gb < _; omega) (far gb hgb)).trans (h.hj j hj), hg'.block r (by omega) (far r hr), Nat.lt_of_lt_of_le (by omega) hg'.size⟩
  subst e
  rcases hat with h' | h'
  · exact far _ hgb h'.symm
  · simp at h'; omega
theorem TxAt.set2 {w w5 w6 : World} {r g : Nat} {T : List UInt8} {n m : Nat} {h : Int × Int × Int × Int × Int} (x : TxAt w r T n h) (h1 : w5.heap[r]? = w.heap[r]? ∧ r < w5.heap.size) (h2 : w5.grownBy w6 (some g)) (hne : r ≠ g) (hm : m = n) : TxAt w6 r T m h := by
  obtain ⟨⟨bg, q⟩, q2, q3⟩ := x
  subst hm
  refine ⟨⟨bg, ?_⟩, q2, q3⟩
  unfold RdAt at *
  rw [h2.block r h1.2 (fun e => hne (Option.some.inj e)), h1.1, q]
theorem info_lat0 : (Tryd.prog.info? 47).map (fun i => (i.zero, i.size, i.bytes)) = some (some (.agg #[.int .i64 0, .bool false]), 2, 16) := by kernel_rfl
theorem info_lat : ∃ i, Tryd.prog.info? 47 = some i ∧ i.zero = some (.agg #[.int .i64 0, .bool false]) ∧ i.size = 2 ∧ i.bytes = 16 := by
  have h := info_lat0
  cases hi : Tryd.prog.info? 47 with
  | none => rw [hi] at h; cases h
  | some i => rw [hi] at h; simp at h; exact ⟨i, rfl, h.1, h.2.1, h.2.2⟩
theorem info_and0 : (Tryd.prog.info? 48).map (fun i => (i.zero, i.size, i.bytes)) = some (some (.agg #[.int .i64 0, .int .i64 0]), 2, 16) := by kernel_rfl
theorem info_and : ∃ i, Tryd.prog.info? 48 = some i ∧ i.zero = some (.agg #[.int .i64 0, .int .i64 0]) ∧ i.size = 2 ∧ i.bytes = 16 := by
  have h := info_and0
  cases hi : Tryd.prog.info? 48 with
  | none => rw [hi] at h; cases h
  | some i => rw [hi] at h; simp at h; exact ⟨i, rfl, h.1, h.2.1, h.2.2⟩
/-- one line more -/
theorem line_next {α : Type} {P : Nat → α → Prop} {ds : List α} {k : Nat} (hds : ds.length = k) (h : ∀ i d, ds[i]? = some d → P i d) {d : α} (hP : P k d) : (ds ++ [d]).length = k + 1 ∧ ∀ i x, (ds ++ [d])[i]? = some x → P i x := by
  refine ⟨by simp [hds], fun i x hx => ?_⟩
  rcases Nat.lt_or_ge i ds.length with h' | h'
  · rw [List.getElem?_append_left h'] at hx; exact h i x hx
  · rw [List.getElem?_append_right h'] at hx
    have : i = k := by
      have := (List.getElem?_eq_some_iff.1 hx).1
      simp at this; omega
    subst this
    rw [hds, Nat.sub_self] at hx
    simp at hx
    rw [← hx]; exact hP
end Go.Proofs.YtdiahnommkhkiaaDoor
