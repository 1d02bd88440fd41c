import Derived.Test.YtdiahnommkhkiaaDoorJ16
import Derived.Test.YtdiahnommkhkiaaDoorJ18
import Derived.Deep.CutBlock
namespace Go.Proofs.YtdiahnommkhkiaaDoor
open Go.RowKit

/-- a panic whatever the frame -/
def AnyPanic (Q : Exit → Act → World → Prop) : Exit → Act → World → Prop
  | .panic c, a, w => ∀ a', a'.defers = a.defers → Q (.panic c) a' w
  | e, a, w => Q e a w
theorem AnyPanic.normal {Q : Exit → Act → World → Prop} {a : Act} {w : World} (h : Q .normal a w) : AnyPanic Q .normal a w := h
theorem AnyPanic.panic {Q : Exit → Act → World → Prop} {c : List PanicEntry} {a : Act} {w : World} (h : ∀ a', a'.defers = a.defers → Q (.panic c) a' w) : AnyPanic Q (.panic c) a w := h
theorem AnyPanic.imp {Q : Exit → Act → World → Prop} : ∀ (e : Exit) (a : Act) (w : World), AnyPanic Q e a w → Q e a w := fun e a w h => by
  cases e <;> first | exact h | exact h a rfl
theorem wp_region_anyPanic {P : Program} {id : Nat} {ops : Array Oper} {b : Bool} {Q : Exit → Act → World → Prop} {a : Act} {w : World} (h : (Code.region id ops b).wp P (AnyPanic Q) a w) : (Code.region id ops b).wp P Q a w :=
  Code.wp_mono AnyPanic.imp h
/-- all but two blocks is as it was -/
structure Gr2 (r g : Nat) (w w' : World) : Prop where
  os : w'.os = w.os
  tape : w'.tape = w.tape
  output : w'.output = w.output
  size : w.heap.size ≤ w'.heap.size
  block : ∀ k, k < w.heap.size → k ≠ r → k ≠ g → w'.heap[k]? = w.heap[k]?
theorem Gr2.refl (r g : Nat) (w : World) : Gr2 r g w w := ⟨rfl, rfl, rfl, Nat.le_refl _, fun _ _ _ _ => rfl⟩
theorem Gr2.grow {r g : Nat} {a b c : World} {row : Option Nat} (h : Gr2 r g a b) (h2 : b.grownBy c row) (hr : ∀ y, row = some y → y = r ∨ y = g ∨ a.heap.size ≤ y) : Gr2 r g a c :=
  ⟨h2.os.trans h.os, h2.tape.trans h.tape, h2.output.trans h.output, Nat.le_trans h.size h2.size, fun k hk h3 h4 => by
    have := h.size
    rw [h2.block k (by omega) (fun e => by have := hr k e.symm; omega), h.block k hk h3 h4]⟩
theorem Gr2.trans {r g : Nat} {a b c : World} (h : Gr2 r g a b) (h2 : Gr2 r g b c) : Gr2 r g a c :=
  ⟨h2.os.trans h.os, h2.tape.trans h.tape, h2.output.trans h.output, Nat.le_trans h.size h2.size, fun k hk h3 h4 => by
    have := h.size
    rw [h2.block k (by omega) h3 h4, h.block k hk h3 h4]⟩
theorem Gr2.cell {r g : Nat} {a b : World} (h : Gr2 r g a b) {x o : Nat} (hx : x < a.heap.size) (h1 : x ≠ r) (h2 : x ≠ g) : b.cell? ⟨x, o, none⟩ = a.cell? ⟨x, o, none⟩ := World.cell?_of_block (h.block x hx h1 h2)
theorem Gr2.grown {r g : Nat} {we wc w' : World} (h : Gr2 r g wc w') (h0 : we.grownBy wc (some r)) (hg : we.heap.size ≤ g) : we.grownBy w' (some r) :=
  ⟨h.os.trans h0.os, h.tape.trans h0.tape, h.output.trans h0.output, Nat.le_trans h0.size h.size, fun k hk hne => by
    have := h0.size
    have h1 : k ≠ r := fun e => hne (by rw [e])
    rw [h.block k (by omega) h1 (by omega), h0.block k hk hne]⟩
theorem Gr2.own {r g : Nat} {a b : World} {C e sz n : Nat} {v : Value} {xs : List Value} (h : Gr2 r g a b) (ho : a.ownsRow C e sz v n xs) (hr : r < C) (hg : g < C) : b.ownsRow C e sz v n xs := by
  refine ⟨ho.1, ?_⟩
  rcases ho.2 with hn | ⟨x, cap, cur, hv, hb, hgg, rest⟩
  · exact .inl hn
  · refine .inr ⟨x, cap, cur, hv, hb, (h.block x ?_ (by omega) (by omega)).trans hgg, rest⟩
    rcases Nat.lt_or_ge x a.heap.size with h' | h'
    · exact h'
    · simp [Array.getElem?_eq_none h'] at hgg
theorem Vars.gr2 {w w' : World} {r g : Nat} (h : Vars w) (hg : Gr2 r g w w') (hr : 2 ≤ r) (hg2 : 2 ≤ g) (h2 : 2 ≤ w.heap.size) : Vars w' :=
  ⟨(hg.cell (by omega) (by omega) (by omega)).trans h.et, by obtain ⟨m, hm⟩ := h.ml; exact ⟨m, (hg.cell (by omega) (by omega) (by omega)).trans hm⟩⟩
/-- behind a call that reads a line -/
structure Aft (wc w1 : World) (r gb f te sz : Nat) (u : Value) (k : Nat) (xs : List Value) : Prop where
  hu : w1.cell? ⟨gb, f, none⟩ = some u
  o : w1.ownsRow wc.heap.size te sz u k xs
  gr : Gr2 r gb wc w1
  z : ∀ j, w1.frozen? ⟨gb, j, none⟩ = false
  hj : ∀ j, j ≠ f → w1.cell? ⟨gb, j, none⟩ = wc.cell? ⟨gb, j, none⟩
theorem aft_of {wc wr w1 : World} {r gb f te sz : Nat} {u : Value} {k : Nat} {xs : List Value} (hg : wr.drew.grownBy w1 (some r)) (HG : Gr2 r gb wc wr) (HU : wr.cell? ⟨gb, f, none⟩ = some u) (HO : wr.ownsRow wc.heap.size te sz u k xs) (HF : ∀ j, wr.frozen? ⟨gb, j, none⟩ = false) (HJ : ∀ j, j ≠ f → wr.cell? ⟨gb, j, none⟩ = wc.cell? ⟨gb, j, none⟩) (hgr : gb ≠ r) (hgb : gb < wc.heap.size) (hr : r < wc.heap.size) : Aft wc w1 r gb f te sz u k xs := by
  have hs := HG.size
  have hg' := grown_of_drew hg
  refine ⟨(gcell hg' (by omega) hgr).trans HU, HO.kept hg' (.inr fun e => ?_), HG.grow hg' (fun y hy => .inl (Option.some.inj hy).symm), fun j => ?_, fun j hj => (gcell hg' (by omega) hgr).trans (HJ j hj)⟩
  · have := (HO.lt r e).1; omega
  · exact (hg'.frozen_far ⟨gb, j, none⟩ (by show gb < _; omega) (fun e => hgr (Option.some.inj e))).trans (HF j)
/-- .. and behind the append -/
structure Aft5 (wc w1 w5 : World) (r gb f : Nat) (u : Value) (g : Nat) : Prop where
  hu : w5.cell? ⟨gb, f, none⟩ = some u
  z : ∀ j, w5.frozen? ⟨gb, j, none⟩ = false
  hn : g ≠ gb
  gr : Gr2 r gb wc w5
  hj : ∀ j, j ≠ f → w5.cell? ⟨gb, j, none⟩ = wc.cell? ⟨gb, j, none⟩
  hr : w5.heap[r]? = w1.heap[r]? ∧ r < w5.heap.size
theorem aft_app {wc w1 w5 : World} {r gb f te sz : Nat} {u : Value} {k : Nat} {xs : List Value} {o : Obj} {g : Nat} (h : Aft wc w1 r gb f te sz u k xs) (hgb : gb < wc.heap.size) (hr : r < wc.heap.size) (hg : (w1.alloc o).grownBy w5 u.ownBlock) (hat : u.ownBlock = some g ∨ g = (w1.alloc o).heap.size) : Aft5 wc w1 w5 r gb f u g := by
  have hs := h.gr.size
  have hg' : w1.grownBy w5 u.ownBlock := grown_trans (World.grownBy_alloc _ _ _) hg
  have far : ∀ x, x < wc.heap.size → some x ≠ u.ownBlock := fun x hx e => by have := (h.o.lt x e.symm).1; omega
  refine ⟨(hg'.cell_far ⟨gb, f, none⟩ (by show gb < _; omega) (far gb hgb)).trans h.hu, fun j => (hg'.frozen_far ⟨gb, j, none⟩ (by show gb < _; omega) (far gb hgb)).trans (h.z j), fun e => ?_, h.gr.grow hg' (fun y hy => .inr (.inr (h.o.lt y hy).1)), fun j hj => (hg'.cell_far ⟨gb, j, none⟩ (by show gb < _; omega) (far gb hgb)).trans (h.hj j hj), hg'.block r (by omega) (far r hr), Nat.lt_of_lt_of_le (by omega) hg'.size⟩
  subst e
  rcases hat with h' | h'
  · exact far _ hgb h'.symm
  · simp at h'; omega
theorem TxAt.set2 {w w5 w6 : World} {r g : Nat} {T : List UInt8} {n m : Nat} {h : Int × Int × Int × Int × Int} (x : TxAt w r T n h) (h1 : w5.heap[r]? = w.heap[r]? ∧ r < w5.heap.size) (h2 : w5.grownBy w6 (some g)) (hne : r ≠ g) (hm : m = n) : TxAt w6 r T m h := by
  obtain ⟨⟨bg, q⟩, q2, q3⟩ := x
  subst hm
  refine ⟨⟨bg, ?_⟩, q2, q3⟩
  unfold RdAt at *
  rw [h2.block r h1.2 (fun e => hne (Option.some.inj e)), h1.1, q]
theorem info_lat0 : (Tryd.prog.info? 47).map (fun i => (i.zero, i.size, i.bytes)) = some (some (.agg #[.int .i64 0, .bool false]), 2, 16) := by kernel_rfl
theorem info_lat : ∃ i, Tryd.prog.info? 47 = some i ∧ i.zero = some (.agg #[.int .i64 0, .bool false]) ∧ i.size = 2 ∧ i.bytes = 16 := by
  have h := info_lat0
  cases hi : Tryd.prog.info? 47 with
  | none => rw [hi] at h; cases h
  | some i => rw [hi] at h; simp at h; exact ⟨i, rfl, h.1, h.2.1, h.2.2⟩
theorem info_and0 : (Tryd.prog.info? 48).map (fun i => (i.zero, i.size, i.bytes)) = some (some (.agg #[.int .i64 0, .int .i64 0]), 2, 16) := by kernel_rfl
theorem info_and : ∃ i, Tryd.prog.info? 48 = some i ∧ i.zero = some (.agg #[.int .i64 0, .int .i64 0]) ∧ i.size = 2 ∧ i.bytes = 16 := by
  have h := info_and0
  cases hi : Tryd.prog.info? 48 with
  | none => rw [hi] at h; cases h
  | some i => rw [hi] at h; simp at h; exact ⟨i, rfl, h.1, h.2.1, h.2.2⟩
/-- one line more -/
theorem line_next {α : Type} {P : Nat → α → Prop} {ds : List α} {k : Nat} (hds : ds.length = k) (h : ∀ i d, ds[i]? = some d → P i d) {d : α} (hP : P k d) : (ds ++ [d]).length = k + 1 ∧ ∀ i x, (ds ++ [d])[i]? = some x → P i x := by
  refine ⟨by simp [hds], fun i x hx => ?_⟩
  rcases Nat.lt_or_ge i ds.length with h' | h'
  · rw [List.getElem?_append_left h'] at hx; exact h i x hx
  · rw [List.getElem?_append_right h'] at hx
    have : i = k := by
      have := (List.getElem?_eq_some_iff.1 hx).1
      simp at this; omega
    subst this
    rw [hds, Nat.sub_self] at hx
    simp at hx
    rw [← hx]; exact hP

end Go.Proofs.YtdiahnommkhkiaaDoor

namespace Go.Proofs.YtdiahnommkhkiaaDoor
open Go.RowKit

/-- a head's numbers -/
def hInts (ni nl no na : Nat) : Int × Int × Int × Int × Int := (((ni + nl + na : Nat) : Int), (ni : Int), (nl : Int), (no : Int), (na : Int))
def HeadAt (T : List UInt8) (ni nl no na : Nat) : Prop := ∃ a, (linesOf T)[0]? = some a ∧ HeadLine a (hInts ni nl no na)
theorem HeadAt.bound {T : List UInt8} {ni nl no na : Nat} (x : HeadAt T ni nl no na) : ni + nl + na < 60000 ∧ nl ≤ 6000 ∧ no ≤ 60000 := by
  obtain ⟨a, _, _, _, _, x4⟩ := x
  unfold rightH hInts at x4
  simp only at x4
  omega
theorem HeadAt.same {T : List UInt8} {ni nl no na ni' nl' no' na' : Nat} (x : HeadAt T ni nl no na) (y : HeadAt T ni' nl' no' na') : ni = ni' ∧ nl = nl' ∧ no = no' ∧ na = na' := by
  obtain ⟨a, x1, _, _, x3, _⟩ := x
  obtain ⟨b, y1, _, _, y3, _⟩ := y
  rw [x1] at y1
  cases y1
  rw [x3] at y3
  unfold hInts at y3
  simp only [List.cons.injEq] at y3
  omega
/-- a line behind the head -/
def BodyOk (T : List UInt8) (ni nl no na i : Nat) : Prop :=
  if i < ni then InOk T (1 + i) i
  else if i < ni + nl then ∃ d, LatLine T (1 + i) (2 * (1 + (i : Int))) (2 * (((ni + nl + na : Nat) : Int) + 1)) d
  else if i < ni + nl + no then ∃ y, OutLine T (1 + i) (2 * (((ni + nl + na : Nat) : Int) + 1)) y
  else ∃ d, AndLine T (1 + i) (2 * (1 + ((i - no : Nat) : Int))) d
theorem body_in {T : List UInt8} {ni nl no na i : Nat} (h : i < ni) : BodyOk T ni nl no na i ↔ InOk T (1 + i) i := by unfold BodyOk; rw [if_pos h]
theorem body_lat {T : List UInt8} {ni nl no na i : Nat} (h : i < nl) : BodyOk T ni nl no na (ni + i) ↔ ∃ d, LatLine T (1 + ni + i) (2 * (1 + (ni : Int) + (i : Int))) (2 * (((ni + nl + na : Nat) : Int) + 1)) d := by
  unfold BodyOk
  rw [if_neg (by omega), if_pos (by omega), show 1 + (ni + i) = 1 + ni + i by omega, show (1 : Int) + ((ni + i : Nat) : Int) = 1 + (ni : Int) + (i : Int) by omega]
theorem body_out {T : List UInt8} {ni nl no na i : Nat} (h : i < no) : BodyOk T ni nl no na (ni + nl + i) ↔ ∃ y, OutLine T (1 + ni + nl + i) (2 * (((ni + nl + na : Nat) : Int) + 1)) y := by
  unfold BodyOk
  rw [if_neg (by omega), if_neg (by omega), if_pos (by omega), show 1 + (ni + nl + i) = 1 + ni + nl + i by omega]
theorem body_and {T : List UInt8} {ni nl no na i : Nat} : BodyOk T ni nl no na (ni + nl + no + i) ↔ ∃ d, AndLine T (1 + ni + nl + no + i) (2 * (1 + (ni : Int) + (nl : Int) + (i : Int))) d := by
  unfold BodyOk
  rw [if_neg (by omega), if_neg (by omega), if_neg (by omega), show 1 + (ni + nl + no + i) = 1 + ni + nl + no + i by omega, show (1 : Int) + ((ni + nl + no + i - no : Nat) : Int) = 1 + (ni : Int) + (nl : Int) + (i : Int) by omega]
/-- what a text tells -/
structure GoodN (T : List UInt8) (G : GrD) (ni nl no na : Nat) : Prop where
  hd : HeadAt T ni nl no na
  ins : G.ins = (ni : Int)
  inp : ∀ i, i < ni → InOk T (1 + i) i
  ll : G.lats.length = nl
  lats : ∀ i d, G.lats[i]? = some d → LatLine T (1 + ni + i) (2 * (1 + (ni : Int) + (i : Int))) (2 * (((ni + nl + na : Nat) : Int) + 1)) d
  lo : G.outs.length = no
  outs : ∀ i d, G.outs[i]? = some d → OutLine T (1 + ni + nl + i) (2 * (((ni + nl + na : Nat) : Int) + 1)) d
  la : G.ands.length = na
  ands : ∀ i d, G.ands[i]? = some d → AndLine T (1 + ni + nl + no + i) (2 * (1 + (ni : Int) + (nl : Int) + (i : Int))) d
  be : BeOk T (1 + ni + nl + no + na)
theorem ex_el {α : Type} {P : Nat → α → Prop} {l : List α} {n : Nat} (hl : l.length = n) (h : ∀ i d, l[i]? = some d → P i d) {i : Nat} (hi : i < n) : ∃ d, P i d := ⟨_, h i _ (List.getElem?_eq_getElem (by omega : i < l.length))⟩
theorem body_of {T : List UInt8} {ni nl no na j : Nat} (h1 : ∀ i, i < ni → i < j → InOk T (1 + i) i) (h2 : ∀ i, i < nl → ni + i < j → ∃ d, LatLine T (1 + ni + i) (2 * (1 + (ni : Int) + (i : Int))) (2 * (((ni + nl + na : Nat) : Int) + 1)) d) (h3 : ∀ i, i < no → ni + nl + i < j → ∃ y, OutLine T (1 + ni + nl + i) (2 * (((ni + nl + na : Nat) : Int) + 1)) y) (h4 : ∀ i, i < na → ni + nl + no + i < j → ∃ d, AndLine T (1 + ni + nl + no + i) (2 * (1 + (ni : Int) + (nl : Int) + (i : Int))) d) (hj : j ≤ ni + nl + no + na) : ∀ i, i < j → BodyOk T ni nl no na i := by
  intro i hi
  by_cases k1 : i < ni
  · exact (body_in k1).2 (h1 i k1 hi)
  by_cases k2 : i < ni + nl
  · have := (body_lat (T := T) (ni := ni) (nl := nl) (no := no) (na := na) (i := i - ni) (by omega)).2 (h2 (i - ni) (by omega) (by omega))
    rw [show ni + (i - ni) = i by omega] at this
    exact this
  by_cases k3 : i < ni + nl + no
  · have := (body_out (T := T) (ni := ni) (nl := nl) (no := no) (na := na) (i := i - ni - nl) (by omega)).2 (h3 (i - ni - nl) (by omega) (by omega))
    rw [show ni + nl + (i - ni - nl) = i by omega] at this
    exact this
  · have := (body_and (T := T) (ni := ni) (nl := nl) (no := no) (na := na) (i := i - ni - nl - no)).2 (h4 (i - ni - nl - no) (by omega) (by omega))
    rw [show ni + nl + no + (i - ni - nl - no) = i by omega] at this
    exact this
theorem GoodN.body {T : List UInt8} {G : GrD} {ni nl no na : Nat} (h : GoodN T G ni nl no na) : ∀ i, i < ni + nl + no + na → BodyOk T ni nl no na i :=
  body_of (fun i h1 _ => h.inp i h1) (fun _ h1 _ => ex_el h.ll h.lats h1) (fun _ h1 _ => ex_el h.lo h.outs h1) (fun _ h1 _ => ex_el h.la h.ands h1) (Nat.le_refl _)
theorem LatLine.same {T : List UInt8} {n : Nat} {own m : Int} {d d' : LatD} (x : LatLine T n own m d) (y : LatLine T n own m d') : d = d' := by
  obtain ⟨dn, di⟩ := d
  obtain ⟨en, ei⟩ := d'
  obtain ⟨_, x⟩ := x
  obtain ⟨_, y⟩ := y
  simp only at x y
  rcases x with ⟨x1, x2⟩ | ⟨f, x1, _, x2⟩ <;> rcases y with ⟨y1, y2⟩ | ⟨g, y1, _, y2⟩ <;> rw [x1] at y1 <;> simp at y1
  · rw [y1, x2, y2]
  · rw [x2, y2, y1.1, y1.2]
theorem AndLine.same {T : List UInt8} {n : Nat} {own : Int} {d d' : AndD} (x : AndLine T n own d) (y : AndLine T n own d') : d = d' := by
  obtain ⟨dn, di⟩ := d
  obtain ⟨en, ei⟩ := d'
  have x1 := x.1
  have y1 := y.1
  rw [x1] at y1
  simp at y1
  rw [y1.1, y1.2]
theorem OutLine.same {T : List UInt8} {n : Nat} {m x y : Int} (h : OutLine T n m x) (h' : OutLine T n m y) : x = y := by
  have x1 := h.1
  have y1 := h'.1
  rw [x1] at y1
  simpa using y1
theorem list_same {α : Type} {P : Nat → α → Prop} {l l' : List α} (hs : ∀ i d d', P i d → P i d' → d = d') (h : ∀ i d, l[i]? = some d → P i d) (h' : ∀ i d, l'[i]? = some d → P i d) (hl : l.length = l'.length) : l = l' := by
  refine List.ext_getElem? fun i => ?_
  rcases Nat.lt_or_ge i l.length with hi | hi
  · have hi' : i < l'.length := by omega
    rw [List.getElem?_eq_getElem hi, List.getElem?_eq_getElem hi']
    exact congrArg some (hs i _ _ (h i _ (List.getElem?_eq_getElem hi)) (h' i _ (List.getElem?_eq_getElem hi')))
  · rw [List.getElem?_eq_none hi, List.getElem?_eq_none (by omega)]
theorem be_not {T : List UInt8} {n m : Nat} (x : BeOk T n) (y : BeBad T n m) : False := by
  obtain ⟨k, x1, x2, x3⟩ := x
  obtain ⟨y1, y2, y3⟩ := y
  rcases Nat.lt_trichotomy k m with h | h | h
  · rcases x3 with h1 | ⟨h1, _⟩
    · exact (y2 k _ x1 h h1).1 rfl
    · rcases y3 with ⟨a, h3, _⟩ | ⟨h3, _⟩
      · have := (List.getElem?_eq_some_iff.1 h3).1; omega
      · omega
  · subst h
    rcases x3 with h1 | ⟨h1, h2⟩
    · rcases y3 with ⟨a, h3, h4, _⟩ | ⟨h3, _⟩
      · rw [h1] at h3; cases h3; exact h4 rfl
      · have := (List.getElem?_eq_some_iff.1 h1).1; omega
    · rcases y3 with ⟨a, h3, _⟩ | ⟨_, h4⟩
      · have := (List.getElem?_eq_some_iff.1 h3).1; omega
      · exact h4 h2
  · rcases y3 with ⟨a, h1, h2, h3⟩ | ⟨h1, h2⟩
    · have := (x2 m a y1 h h1).2
      rw [h3] at this; cases this
    · rcases x3 with h3 | ⟨h3, _⟩
      · have := (List.getElem?_eq_some_iff.1 h3).1; omega
      · omega


end Go.Proofs.YtdiahnommkhkiaaDoor

namespace Go.Proofs.YtdiahnommkhkiaaDoor
open Go.RowKit

/-- the numbers of the line at a place -/
def numsB (T : List UInt8) (k : Nat) : Option (List Int) := match lineAt T k with | some a => if (pcs 32 a).all numOk then some ((pcs 32 a).map numV) else none | none => none
/-- the place behind the line at a place -/
def nextB (T : List UInt8) (k : Nat) : Nat := match lineAt T k with | some a => k + a.length + 1 | none => k
theorem nextB_some {T a : List UInt8} {k : Nat} (h : lineAt T k = some a) : nextB T k = k + a.length + 1 := by unfold nextB; rw [h]
theorem numsB_some {T a : List UInt8} {k : Nat} (h : lineAt T k = some a) : numsB T k = if (pcs 32 a).all numOk then some ((pcs 32 a).map numV) else none := by unfold numsB; rw [h]
theorem numsB_none {T : List UInt8} {k : Nat} (h : lineAt T k = none) : numsB T k = none := by unfold numsB; rw [h]
theorem numsB_line {T : List UInt8} {k : Nat} {xs : List Int} (h : numsB T k = some xs) : ∃ a, lineAt T k = some a ∧ (pcs 32 a).all numOk = true ∧ xs = (pcs 32 a).map numV := by
  unfold numsB at h
  cases hl : lineAt T k with
  | none => rw [hl] at h; cases h
  | some a =>
    rw [hl] at h
    simp only at h
    split at h
    · rename_i hall; cases h; exact ⟨a, rfl, hall, rfl⟩
    · cases h
theorem numsB_bound {T : List UInt8} {k : Nat} {xs : List Int} (h : numsB T k = some xs) : ∀ x, x ∈ xs → 0 ≤ x ∧ x < 1000000000 := by
  obtain ⟨a, _, hall, rfl⟩ := numsB_line h
  exact val_bound hall
/-- a reader of bytes, at a place, with what was begun last -/
def ByB (w : World) (r : Nat) (T : List UInt8) (k : Nat) (h : Int × Int × Int × Int × Int) (bg : Int) : Prop :=
  ∃ ln : Nat, ln ≤ k ∧ RdAt w r ⟨1, h.1, h.2.1, h.2.2.1, h.2.2.2.1, h.2.2.2.2, T, (k : Int), (ln : Int), bg⟩
theorem ByB.to {w w' : World} {r : Nat} {T : List UInt8} {k : Nat} {h : Int × Int × Int × Int × Int} {bg : Int} (x : ByB w r T k h bg) (hb : Below w.heap.size w w') : ByB w' r T k h bg := by
  obtain ⟨ln, h1, h2⟩ := x
  exact ⟨ln, h1, h2.to hb⟩
theorem ByB.lt {w : World} {r : Nat} {T : List UInt8} {k : Nat} {h : Int × Int × Int × Int × Int} {bg : Int} (x : ByB w r T k h bg) : r < w.heap.size := by
  obtain ⟨ln, h1, h2⟩ := x
  exact h2.lt
theorem ByB.head {w : World} {r : Nat} {T : List UInt8} {k : Nat} {h : Int × Int × Int × Int × Int} {bg : Int} (x : ByB w r T k h bg) : HdAt w r 1 h := by
  obtain ⟨ln, h1, h2⟩ := x
  exact h2.head
theorem ByB.grown {w w' : World} {r b : Nat} {T : List UInt8} {k : Nat} {h : Int × Int × Int × Int × Int} {bg : Int} (x : ByB w r T k h bg) (hg : w.grownBy w' (some b)) (hne : r ≠ b) : ByB w' r T k h bg := by
  obtain ⟨ln, h1, h2⟩ := x
  exact ⟨ln, h1, (hg.block r h2.lt (fun e => hne (Option.some.inj e))).trans h2⟩
theorem must_by (r : Nat) (T : List UInt8) (k : Nat) (h : Int × Int × Int × Int × Int) (bg : Int) (b : Bool) (w : World) (x : ByB w r T k h bg) : Calls Tryd.prog 53 #[.pointer (some ⟨r, 0, none⟩), .bool b] w fun e w' => (b = true ∧ e = .returned (.tuple #[]) ∧ w' = w) ∨ (b = false ∧ Thr w r bg e w') := by
  obtain ⟨ln, h1, h2⟩ := x
  exact must_any r _ b w h2
structure ByAt (w : World) (r : Nat) (T : List UInt8) (k : Nat) (h : Int × Int × Int × Int × Int) : Prop where
  at_ : ∃ bg, ByB w r T k h bg
  le : k ≤ T.length
  len : T.length ≤ 1048576
theorem ByAt.to {w w' : World} {r : Nat} {T : List UInt8} {k : Nat} {h : Int × Int × Int × Int × Int} (x : ByAt w r T k h) (hb : Below w.heap.size w w') : ByAt w' r T k h := by
  obtain ⟨⟨bg, h1⟩, h2, h3⟩ := x
  exact ⟨⟨bg, h1.to hb⟩, h2, h3⟩
theorem ByAt.grown {w w' : World} {r b : Nat} {T : List UInt8} {k : Nat} {h : Int × Int × Int × Int × Int} (x : ByAt w r T k h) (hg : w.grownBy w' (some b)) (hne : r ≠ b) : ByAt w' r T k h := by
  obtain ⟨⟨bg, h1⟩, h2, h3⟩ := x
  exact ⟨⟨bg, h1.grown hg hne⟩, h2, h3⟩
theorem ByAt.set2 {w w5 w6 : World} {r g : Nat} {T : List UInt8} {n m : Nat} {h : Int × Int × Int × Int × Int} (x : ByAt w r T n h) (h1 : w5.heap[r]? = w.heap[r]? ∧ r < w5.heap.size) (h2 : w5.grownBy w6 (some g)) (hne : r ≠ g) (hm : m = n) : ByAt w6 r T m h := by
  obtain ⟨⟨bg, ln, q1, q⟩, q2, q3⟩ := x
  subst hm
  refine ⟨⟨bg, ln, q1, ?_⟩, q2, q3⟩
  unfold RdAt at *
  rw [h2.block r h1.2 (fun e => hne (Option.some.inj e)), h1.1, q]
theorem ByAt.lay {w : World} {r : Nat} {T : List UInt8} {k : Nat} {h : Int × Int × Int × Int × Int} (x : ByAt w r T k h) : w.cell? ⟨r, 0, none⟩ = some (.int .i64 1) := by
  obtain ⟨⟨bg, ln, q1, q⟩, q2, q3⟩ := x
  exact q.cell 0
theorem ByAt.lt {w : World} {r : Nat} {T : List UInt8} {k : Nat} {h : Int × Int × Int × Int × Int} (x : ByAt w r T k h) : r < w.heap.size := by
  obtain ⟨⟨bg, q⟩, _⟩ := x
  exact q.lt
theorem begin_by (r : Nat) (T : List UInt8) (k : Nat) (h : Int × Int × Int × Int × Int) (w : World) (x : ByAt w r T k h) : Calls Tryd.prog 50 #[.pointer (some ⟨r, 0, none⟩)] w fun e w' => e = .returned (.tuple #[]) ∧ ByB w' r T k h (k : Int) ∧ w.grownBy w' (some r) := by
  obtain ⟨⟨bg, ln, q1, q⟩, q2, q3⟩ := x
  refine (begin_any r _ w q (by show (0 : Int) ≤ (ln : Int) ∧ (ln : Int) ≤ 2000000; omega)).mono ?_
  rintro e w'' ⟨he, hr, hg⟩
  have hb : (⟨1, h.1, h.2.1, h.2.2.1, h.2.2.2.1, h.2.2.2.2, T, (k : Int), (ln : Int), bg⟩ : RdS).begun = (k : Int) := by unfold RdS.begun; rw [if_neg (show ¬ (1 : Int) = 0 by decide)]
  rw [hb] at hr
  exact ⟨he, ⟨ln, q1, hr⟩, hg⟩
theorem line_by (r : Nat) (T : List UInt8) (k : Nat) (h : Int × Int × Int × Int × Int) (bg : Int) (w : World) (x : ByB w r T k h bg) (hk : k ≤ T.length) (hT : T.length ≤ 1048576) (hv : Vars w) : Calls Tryd.prog 52 #[.pointer (some ⟨r, 0, none⟩)] w fun e w' =>
    (∃ a, lineAt T k = some a ∧ e = .returned (.string (bs a)) ∧ ByB w' r T (k + a.length + 1) h bg ∧ k + a.length + 1 ≤ T.length ∧ w.grownBy w' (some r)) ∨ (lineAt T k = none ∧ Thr w r bg e w') := by
  obtain ⟨ln, q1, q⟩ := x
  refine (line_at r _ k ln w q hv rfl rfl hk (by show ln ≤ T.length; omega) hT).mono ?_
  rintro e w'' (⟨a, h1, h2, h3, h4⟩ | ⟨h1, h2⟩)
  · exact Or.inl ⟨a, h1, h2, ⟨ln + 1, by omega, h3⟩, lineAt_len h1, h4⟩
  · exact Or.inr ⟨h1, h2⟩
/-- no line of so many numbers -/
def NoNumsB (T : List UInt8) (n least most : Nat) : Prop := ∀ xs, numsB T n = some xs → ¬ (least ≤ xs.length ∧ xs.length ≤ most)
theorem numberLine_by (r : Nat) (T : List UInt8) (n least most : Nat) (h : Int × Int × Int × Int × Int) (w : World) (x : ByAt w r T n h) (hv : Vars w) (hm : most ≤ 100) (hr2 : 2 ≤ r) :
    Calls Tryd.prog 57 #[.pointer (some ⟨r, 0, none⟩), .int .i64 least, .int .i64 most] w fun e w' =>
      (∃ xs, numsB T n = some xs ∧ least ≤ xs.length ∧ xs.length ≤ most ∧ ∃ v, e = .returned v ∧ w'.ownsRow w.heap.size 3 1 v xs.length (xs.map iV) ∧ ByB w' r T (nextB T n) h (n : Int) ∧ nextB T n ≤ T.length ∧ w.grownBy w' (some r)) ∨ (NoNumsB T n least most ∧ Thr w r (n : Int) e w') := by
  obtain ⟨⟨bg, ln, q1, q⟩, q2, q3⟩ := x
  refine (numberLine_any r _ n ln least most w q hv rfl rfl q2 (by show ln ≤ T.length; omega) q3 hm hr2).mono ?_
  have hb : (⟨1, h.1, h.2.1, h.2.2.1, h.2.2.2.1, h.2.2.2.2, T, (n : Int), (ln : Int), bg⟩ : RdS).begun = (n : Int) := by unfold RdS.begun; rw [if_neg (show ¬ (1 : Int) = 0 by decide)]
  rw [hb]
  rintro e w' (⟨a, ⟨p1, p2⟩, v, p3, p4, p5, p6⟩ | ⟨p1, p2⟩)
  · have hl : lineAt T n = some a := p1
    have hlen := lineAt_len hl
    refine Or.inl ⟨(pcs 32 a).map numV, by rw [numsB_some hl, if_pos p2.2.2], by simpa using p2.1, by simpa using p2.2.1, v, p3, ?_, ?_, by rw [nextB_some hl]; exact hlen, p6⟩
    · rw [List.map_map, List.length_map]; exact p4
    · rw [nextB_some hl]; exact ⟨ln + 1, by omega, p5⟩
  · refine Or.inr ⟨fun xs hx hh => p1 ?_, p2⟩
    obtain ⟨a, hl, hall, rfl⟩ := numsB_line hx
    exact ⟨a, hl, by simpa using hh.1, by simpa using hh.2, hall⟩


end Go.Proofs.YtdiahnommkhkiaaDoor
