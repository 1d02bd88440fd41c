import Derived.Test.YtefjicdhccfieaaK01
import Derived.Test.YtefjicdhccfieaaK08
import Derived.Deep.Cut
import Derived.Test.YtefjicdhccfieaaK02
import Derived.ProofKit
import Derived.SizedLaws
import Derived.Deep.Slices
import Derived.Deep.AppendLies
import Derived.Deep.Upon
import Derived.Deep.AppendSrc
import Derived.Test.YtefjicdhccfieaaK07
set_option maxRecDepth 100000
set_option maxHeartbeats 16000000
namespace Go.Proofs.Ytefjicdhccfieaa
open Go.RowKit
theorem row_of_own {w : World} {C e n g : Nat} {xs : List Value} (h : w.ownsRow C e 1 (.slice (some ⟨g, 0, none⟩) n n) n xs) : w.heap[g]? = some (.cells xs.toArray e (0, 0)) := by
 rcases h.2 with ⟨h', _⟩ | ⟨g', cap', cur, h', _, hh, _, _, hcs, htake⟩
 ·simp at h'
 ·simp only [Value.slice.injEq, Option.some.injEq, Addr.mk.injEq, and_true, true_and] at h'
  obtain ⟨rfl, rfl⟩ := h'
  rw [hh]
  rw [List.take_of_length_le (by rw [Array.length_toList, hcs]; exact Nat.le_refl _)] at htake
  rw [← htake]
theorem made_int (n : Nat) : (madeCells (Value.int .i64 0).cells (n * 1)).toList = List.replicate n (.int .i64 0) := by
 rw [Nat.mul_one]
 apply List.ext_getElem?
 intro i
 by_cases h : i < n
 ·simp [madeCells, Value.cells, h, Nat.mod_one]
 ·simp [madeCells, Value.cells, h]
theorem none_below {w w' : World} (h : w.grownBy w' none) : Below w.heap.size w w' := ⟨h.os, h.tape, h.output, h.size, fun k hk => h.block k hk (fun e => by cases e)⟩
theorem below_of {w w' : World} {B r : Nat} (hg : w.grownBy w' (some r)) (hr : B ≤ r) (hB : B ≤ w.heap.size) : Below B w w' := ⟨hg.os, hg.tape, hg.output, hg.size, fun k hk => hg.block k (by omega) (fun e => by have := Option.some.inj e; omega)⟩
theorem info_int0 : (Try.prog.info? 3).map (fun i => (i.zero, i.size, i.bytes)) = some (some (.int .i64 0), 1, 8) := by kernel_rfl
theorem info_int : ∃ i, Try.prog.info? 3 = some i ∧ i.zero = some (.int .i64 0) ∧ i.size = 1 ∧ i.bytes = 8 := by
 have h := info_int0
 cases hi : Try.prog.info? 3 with
 | none => rw [hi] at h; cases h
 | some i => rw [hi] at h; simp at h; exact ⟨i, rfl, h.1, h.2.1, h.2.2⟩
end Go.Proofs.Ytefjicdhccfieaa

set_option maxRecDepth 100000
set_option maxHeartbeats 16000000
namespace Go.Proofs.Ytefjicdhccfieaa
open Go.ChangeShapes Go.WideShapes Go.ChangeAt Go.RowKit
section
variable {H : Type} {enc : TypeId × Value → H} {w : World} {base : Nat} {spare : Nat → Bool} {held : Bool} {fuel : Nat}
theorem rowAt_nil {B : Nat} {w : World} {a : Option Addr} {sz : Nat} : RowAt B w a sz [] := fun h => absurd rfl h
theorem listOf {α : Type} {Q : Nat → α → Prop} (n : Nat) (h : ∀ i, i < n → ∃ x, Q i x) : ∃ l : List α, l.length = n ∧ ∀ (i : Nat) (x : α), l[i]? = some x → Q i x := by
 induction n with
 | zero => exact ⟨[], rfl, fun i x hx => by simp at hx⟩
 | succ n ih =>
  obtain ⟨l, hl, hq⟩ := ih (fun i hi => h i (by omega))
  obtain ⟨x, hx⟩ := h n (by omega)
  refine ⟨l ++ [x], by simp [hl], fun i y hy => ?_⟩
  rcases Nat.lt_or_ge i n with hi | hi
  ·rw [List.getElem?_append_left (by omega)] at hy; exact hq i y hy
  ·rw [List.getElem?_append_right (by omega)] at hy
   have : i - l.length = 0 := by
    have := (List.getElem?_eq_some_iff.1 hy).1
    simp at this; omega
   rw [this] at hy
   simp at hy
   subst hy
   have : i = n := by omega
   rw [this]; exact hx
theorem spot_none {b o : Nat} {sp : Option Nat} {v : Value} (h : w.cell? ⟨b, o, sp⟩ = some v) : sp = none := by
 cases sp with
 | none => rfl
 | some x =>
  unfold World.cell? at h
  split at h <;> simp at h
theorem add_none (b o n : Nat) : (⟨b, o, none⟩ : Addr).add n = ⟨b, o + n, none⟩ := by
 unfold Addr.add; split
 ·simp
 ·rfl
theorem open_row {α : Type} (f : α → List Value) (Q : DataW H → α → Prop) {t e : TypeId} {sz : Nat} {v : Value} {y : DataW H × List MemPlace} (ht : Try.prog.underlying t = some (.slice e)) (hc : Try.prog.cellsOf e = sz) (hs : 0 < sz)
  (hel : ∀ (fuel : Nat) (cs : List Value) (y : DataW H × List MemPlace), DataW.trod enc Try.prog w base spare held fuel e cs = some y → ∃ x : α, cs = f x ∧ Q y.1 x) (h : DataW.trod enc Try.prog w base spare held fuel t [v] = some y) :
  ∃ a c, ∃ l : List α, v = .slice a l.length c ∧ RowAt w.heap.size w a sz (l.map f) ∧ ((y.1 = .nil ∧ l = []) ∨ ∃ elems sp, y.1 = .slice elems sp ∧ elems.length = l.length ∧ ∀ (i : Nat) (x : α), l[i]? = some x → ∃ d, elems[i]? = some d ∧ Q d x) := by
 rcases Deep.open_slice ht h with ⟨hv, hy⟩ | ⟨a, len, cap, m, n, D, Pl, hv, hb, hlc, hcm, hm, hy, hall⟩
 ·simp only [List.cons.injEq, and_true] at hv
  subst hv; subst hy
  exact ⟨none, 0, [], rfl, rowAt_nil, .inl ⟨rfl, rfl⟩⟩
 ·simp only [List.cons.injEq, and_true] at hv
  subst hv; subst hy
  have hlm : len ≤ m := by rw [hm]; split <;> omega
  obtain ⟨l, hl, hq⟩ := listOf (Q := fun i (x : α) => (∀ (j : Nat) (c : Value), (f x)[j]? = some c → w.cell? ((a.add (i * sz)).add j) = some c) ∧ (f x).length = sz ∧ Q (D i) x) len (fun i hi => by
   obtain ⟨cs', h1, h2⟩ := hall i (by omega)
   rw [hc] at h1
   obtain ⟨x, hx, hQ⟩ := hel n cs' _ h2
   subst hx
   obtain ⟨-, hlen, hcell⟩ := World.cells?_some h1
   exact ⟨x, fun j c hj => (hcell j (by rw [← hlen]; exact (List.getElem?_eq_some_iff.1 hj).1)).trans hj, hlen, hQ⟩)
  refine ⟨some a, cap, l, by rw [hl], ?_, .inr ⟨_, _, rfl, by simp [hl], fun i x hx => ?_⟩⟩
  ·intro hne
   obtain ⟨x0, hx0⟩ : ∃ x, l[0]? = some x := by
    cases l with
    | nil => simp at hne
    | cons a r => exact ⟨a, rfl⟩
   obtain ⟨hc0, hl0, -⟩ := hq 0 x0 hx0
   obtain ⟨v0, hv0⟩ : ∃ v, (f x0)[0]? = some v := ⟨(f x0)[0]'(by omega), List.getElem?_eq_getElem (by omega)⟩
   have hcell := hc0 0 v0 hv0
   rw [show (a.add (0 * sz)).add 0 = a by simp [Addr.add]] at hcell
   have hbl := World.block_lt_of_cell? w _ hcell
   obtain ⟨ab, ao, asp⟩ := a
   have hsp := spot_none hcell
   subst hsp
   refine ⟨ab, ao, rfl, hbl, fun i cs hi j x hx => ?_⟩
   rw [List.getElem?_map] at hi
   cases hli : l[i]? with
   | none => rw [hli] at hi; simp at hi
   | some y =>
    rw [hli] at hi
    simp at hi
    subst hi
    have := (hq i y hli).1 j x hx
    rw [add_none, add_none] at this
    exact this
  ·have hi : i < len := by rw [← hl]; exact (List.getElem?_eq_some_iff.1 hx).1
   exact ⟨D i, by simp [hi], (hq i x hx).2.2⟩
end
end Go.Proofs.Ytefjicdhccfieaa

set_option maxRecDepth 100000
set_option maxHeartbeats 16000000
namespace Go.Proofs.Ytefjicdhccfieaa
open Go.RowKit
theorem rowAt_flat {B : Nat} {w : World} {b sz : Nat} {els : List (List Value)} (hb : b < B) (hs : ∀ l, l ∈ els → l.length = sz) (h : ∀ (m : Nat) (v : Value), els.flatten[m]? = some v → w.cell? ⟨b, m, none⟩ = some v) : RowAt B w (some ⟨b, 0, none⟩) sz els := by
 intro hne
 refine ⟨b, 0, rfl, hb, fun i cs hi j x hx => ?_⟩
 rw [Nat.zero_add]
 apply h
 clear h
 induction els generalizing i with
 | nil => simp at hi
 | cons l r ih =>
  have hl := hs l List.mem_cons_self
  cases i with
  | zero =>
   simp at hi; subst hi
   have hj := (List.getElem?_eq_some_iff.1 hx).1
   rw [List.flatten_cons, List.getElem?_append_left (by omega)]
   simpa using hx
  | succ i =>
   have hi' : r[i]? = some cs := by simpa using hi
   rw [List.flatten_cons, List.getElem?_append_right (by rw [hl, Nat.succ_mul]; omega)]
   have := ih (fun l hl => hs l (List.mem_cons_of_mem _ hl)) (List.ne_nil_of_mem (List.mem_of_getElem? hi')) i hi'
   rw [hl]
   rw [show (i + 1) * sz + j - sz = i * sz + j by rw [Nat.succ_mul]; omega]
   exact this
theorem own_row {w : World} {C e sz n : Nat} {v : Value} {els : List (List Value)} (h : w.ownsRow C e sz v n els.flatten) (hs : ∀ l, l ∈ els → l.length = sz) (hz : 0 < sz) : ∃ a c, v = .slice a n c ∧ RowAt w.heap.size w a sz els := by
 rcases h.2 with ⟨h0, h1⟩ | ⟨g, cap, cur, hv, h1⟩
 ·refine ⟨none, 0, by rw [h0, h1], ?_⟩
  have hl := h.1
  rw [h1, Nat.zero_mul] at hl
  intro hne
  exfalso
  cases els with
  | nil => exact hne rfl
  | cons x t =>
   have := hs x List.mem_cons_self
   rw [List.flatten_cons, List.length_append] at hl
   omega
 ·subst hv
  refine ⟨_, cap, rfl, rowAt_flat (h.lt g rfl).2 hs fun m v hm => ?_⟩
  have := (List.getElem?_eq_some_iff.1 hm).1
  rw [h.cellAt m (by have := h.1; omega)]; exact hm
theorem own_below {w w' : World} {B e size n : Nat} {v : Value} {xs : List Value} (h : w.ownsRow B e size v n xs) (hb : Below w.heap.size w w') : w'.ownsRow B e size v n xs :=
 h.kept (row := none) ⟨hb.os, hb.tape, hb.output, hb.size, fun k hk _ => hb.block k hk⟩ (by
  cases hv : v.ownBlock with
  | none => exact .inl rfl
  | some x => exact .inr (by simp))
theorem heap_alloc_old (w : World) (o : Obj) {k : Nat} (hk : k < w.heap.size) : (w.alloc o).heap[k]? = w.heap[k]? := ((Below.refl _ _).alloc (Nat.le_refl _) o).block k hk
theorem grown_ad (w : World) (o : Obj) (row : Option Nat) : w.grownBy (w.alloc o).drew row := ⟨rfl, rfl, rfl, by simp, fun k hk _ => heap_alloc_old w o hk⟩
theorem grown_trn {a b c : World} {r : Option Nat} (h : a.grownBy b r) (k : b.grownBy c r) : a.grownBy c r :=
 ⟨k.os.trans h.os, k.tape.trans h.tape, k.output.trans h.output, Nat.le_trans h.size k.size, fun x hx hne => (k.block x (Nat.lt_of_lt_of_le hx h.size) hne).trans (h.block x hx hne)⟩
theorem info_cl0 : (Try.prog.info? 26).map (fun i => (i.zero, i.size, i.bytes)) = some (some (.slice none 0 0), 1, 24) := by kernel_rfl
theorem info_cl : ∃ i, Try.prog.info? 26 = some i ∧ i.zero = some (.slice none 0 0) ∧ i.size = 1 ∧ i.bytes = 24 := by
 have h := info_cl0
 cases hi : Try.prog.info? 26 with
 | none => rw [hi] at h; cases h
 | some i => rw [hi] at h; simp at h; exact ⟨i, rfl, h.1, h.2.1, h.2.2⟩
def RefP (v : Int) (F st : List (List Int)) : Prop := (0 ≤ v ∧ v ≤ 100000 ∧ ∀ d, d ∈ F → ∀ m, m ∈ d → litOk v m = true) ∧ st.getLast? = some [] ∧ ∀ i c, st[i]? = some c → (∀ m, m ∈ c → litOk v m = true) ∧ Fol (F ++ st.take i) c
def RefPost (w : World) (v : Int) (F st : List (List Int)) (e : Ending) (w' : World) : Prop := ∃ b, e = .returned (.bool b) ∧ (b = true ↔ RefP v F st) ∧ Below w.heap.size w w'
theorem litOk_nat {V : Nat} {m : Int} (h : litOk (V : Int) m = true) : m ≠ 0 ∧ m.natAbs ≤ V := by
 unfold litOk at h
 simp at h
 omega
end Go.Proofs.Ytefjicdhccfieaa

set_option maxRecDepth 100000
set_option maxHeartbeats 16000000
namespace Go.Proofs.Ytefjicdhccfieaa
open Go.RowKit
structure Wr (C : Nat) (w : World) (wb : Nat) (cs : Array Value) (ty : TypeId) (off : Nat) (u : Value) (cls : List CL) : Prop where
 box : w.heap[wb]? = some (.cells cs ty (0, 0))
 fld : cs[off]? = some u
 own : w.ownsRow C 26 1 u cls.length (cls.map fun t => .slice t.a t.l.length t.c)
 nb : u.ownBlock ≠ some wb
 each : ∀ t, t ∈ cls → RowAt w.heap.size w t.a 1 (t.l.map intC)
 far : ∀ t, t ∈ cls → ∀ x, t.a = some x → C ≤ x.block ∧ x.block < w.heap.size ∧ x.block ≠ wb ∧ u.ownBlock ≠ some x.block
 base : C ≤ wb
theorem Wr.lt {C : Nat} {w : World} {wb : Nat} {cs : Array Value} {ty : TypeId} {off : Nat} {u : Value} {cls : List CL} (h : Wr C w wb cs ty off u cls) : wb < w.heap.size := (Array.getElem?_eq_some_iff.1 h.box).1
theorem Wr.rest {C : Nat} {w w' : World} {wb : Nat} {cs : Array Value} {ty : TypeId} {off : Nat} {u : Value} {cls : List CL} (h : Wr C w wb cs ty off u cls) (hb : Below w.heap.size w w') : Wr C w' wb cs ty off u cls :=
 ⟨(hb.block wb h.lt).trans h.box, h.fld, own_below h.own hb, h.nb, fun t ht => ((h.each t ht).to hb).mono hb.size, fun t ht x hx => ⟨(h.far t ht x hx).1, Nat.lt_of_lt_of_le (h.far t ht x hx).2.1 hb.size, (h.far t ht x hx).2.2⟩, h.base⟩
theorem row_keep {w w' : World} {a : Option Addr} {l : List (List Value)} {sz : Nat} (h : RowAt w.heap.size w a sz l) (hs : w.heap.size ≤ w'.heap.size) (hk : ∀ x, a = some x → ∀ j, w'.cell? ⟨x.block, j, none⟩ = w.cell? ⟨x.block, j, none⟩) : RowAt w'.heap.size w' a sz l := fun he => by
 obtain ⟨b, o, ha, hlt, hc⟩ := h he
 refine ⟨b, o, ha, Nat.lt_of_lt_of_le hlt hs, ?_⟩
 intro i l' hl j v hv
 rw [hk _ ha]
 exact hc i l' hl j v hv
theorem Wr.grow {C : Nat} {w w5 : World} {wb : Nat} {cs : Array Value} {ty : TypeId} {off : Nat} {u : Value} {cls : List CL} (h : Wr C w wb cs ty off u cls) (t : CL) (ht : RowAt w.heap.size w t.a 1 (t.l.map intC)) (hf : ∀ x, t.a = some x → C ≤ x.block ∧ x.block < w.heap.size ∧ x.block ≠ wb ∧ u.ownBlock ≠ some x.block) {g cap : Nat} (hg : w.grownBy w5 u.ownBlock)
  (hown : w5.ownsRow C 26 1 (.slice (some ⟨g, 0, none⟩) (cls.length + 1) cap) (cls.length + 1) ((cls.map fun t => .slice t.a t.l.length t.c) ++ [.slice t.a t.l.length t.c]))
  (hat : u.ownBlock = some g ∨ w.heap.size ≤ g) :
  Wr C (w5.setCell ⟨wb, off, none⟩ (.slice (some ⟨g, 0, none⟩) (cls.length + 1) cap)) wb (cs.setIfInBounds off (.slice (some ⟨g, 0, none⟩) (cls.length + 1) cap)) ty off (.slice (some ⟨g, 0, none⟩) (cls.length + 1) cap) (cls ++ [t]) ∧ Below C w (w5.setCell ⟨wb, off, none⟩ (.slice (some ⟨g, 0, none⟩) (cls.length + 1) cap)) ∧ (∀ b, b < w.heap.size → b ≠ wb → u.ownBlock ≠ some b → (w5.setCell ⟨wb, off, none⟩ (.slice (some ⟨g, 0, none⟩) (cls.length + 1) cap)).heap[b]? = w.heap[b]?) ∧ (∀ b, b < w.heap.size → u.ownBlock ≠ some b → (Value.slice (some ⟨g, 0, none⟩) (cls.length + 1) cap).ownBlock ≠ some b) := by
 have hlt := h.lt
 have hgw : g ≠ wb := fun e => by
  rcases hat with h1 | h1
  ·exact h.nb (by rw [h1, e])
  ·omega
 have hsz : w.heap.size ≤ (w5.setCell ⟨wb, off, none⟩ (.slice (some ⟨g, 0, none⟩) (cls.length + 1) cap)).heap.size := by
  have := hg.size
  simp [World.setCell]; exact this
 have hoff : off < cs.size := (Array.getElem?_eq_some_iff.1 h.fld).1
 have hall : ∀ t', t' ∈ cls ++ [t] → RowAt w.heap.size w t'.a 1 (t'.l.map intC) ∧ ∀ x, t'.a = some x → C ≤ x.block ∧ x.block < w.heap.size ∧ x.block ≠ wb ∧ u.ownBlock ≠ some x.block := fun t' ht' => by
  rcases List.mem_append.1 ht' with h1 | h1
  ·exact ⟨h.each t' h1, h.far t' h1⟩
  ·rw [List.mem_singleton.1 h1]; exact ⟨ht, hf⟩
 refine ⟨⟨?_, ?_, ?_, ?_, fun t' ht' => ?_, fun t' ht' x hx => ?_, h.base⟩, ?_, fun b hb1 hb2 hb3 => ?_, fun b hb1 hb2 e => ?_⟩
 ·refine set_self ?_
  rw [hg.block wb hlt (fun e => h.nb e.symm)]; exact h.box
 ·rw [Array.getElem?_setIfInBounds_self, if_pos hoff]
 ·have := hown.kept (gset w5 wb off (.slice (some ⟨g, 0, none⟩) (cls.length + 1) cap)) (.inr (fun e => hgw (Option.some.inj e)))
  rw [List.map_append, List.length_append]
  exact this
 ·intro e; exact hgw (Option.some.inj e)
 ·obtain ⟨h1, h2⟩ := hall t' ht'
  refine row_keep h1 hsz (fun x hx j => ?_)
  obtain ⟨-, q1, q2, q3⟩ := h2 x hx
  refine (World.cell?_setCell_far _ _ _ _ (fun e => q2 (by have e' : wb = x.block := e; exact e'.symm))).trans ?_
  exact World.cell?_of_block (hg.block x.block q1 (fun e => q3 e.symm))
 ·obtain ⟨h1, h2⟩ := hall t' ht'
  obtain ⟨q0, q1, q2, q3⟩ := h2 x hx
  refine ⟨q0, Nat.lt_of_lt_of_le q1 hsz, q2, fun e => ?_⟩
  have e2 : g = x.block := Option.some.inj e
  rcases hat with h3 | h3
  ·exact q3 (by rw [h3, e2])
  ·omega
 ·have hC : C ≤ w.heap.size := Nat.le_trans h.base (Nat.le_of_lt hlt)
  have hb5 : Below C w w5 := ⟨hg.os, hg.tape, hg.output, hg.size, fun k hk => hg.block k (by omega) (fun e => by
   have := (h.own.lt k e.symm).1
   omega)⟩
  exact ⟨hb5.os, hb5.tape, hb5.output, Nat.le_trans hb5.size (by simp [World.setCell]), fun k hk => by
   rw [← hb5.block k hk]
   simp only [World.setCell, Array.getElem?_modify]
   rw [if_neg (by have := h.base; omega)]⟩
 ·rw [← hg.block b hb1 (fun e => hb3 e.symm)]
  simp only [World.setCell, Array.getElem?_modify]
  rw [if_neg (fun e => hb2 (by have e' : wb = b := e; exact e'.symm))]
 ·have e2 : g = b := Option.some.inj e
  rcases hat with h3 | h3
  ·exact hb2 (by rw [h3, e2])
  ·omega
def numF (sz k l : Int) : Int := if l % 2 = 1 then -(k * sz + l / 2 + 1) else k * sz + l / 2 + 1
theorem numF_le {sz k l : Int} (hs : 0 ≤ sz ∧ sz ≤ 1000000) (hk : k = 0 ∨ k = 1) (hl : 0 ≤ l ∧ l ≤ 4000000) : -4000000 ≤ numF sz k l ∧ numF sz k l ≤ 4000000 := by
 unfold numF
 rcases hk with rfl | rfl <;> split <;> omega
def WF (C : Nat) (w : World) (wb gp : Nat) (sz : Int) (F : List (List Int)) : Prop := ∃ u cls, Wr C w wb #[.pointer (some ⟨gp, 0, none⟩), .int .i64 sz, u] 109 2 u cls ∧ cls.map CL.l = F
theorem WF.rest {C : Nat} {w w' : World} {wb gp : Nat} {sz : Int} {F : List (List Int)} (h : WF C w wb gp sz F) (hb : Below w.heap.size w w') : WF C w' wb gp sz F := by
 obtain ⟨u, cls, h1, h2⟩ := h
 exact ⟨u, cls, h1.rest hb, h2⟩
theorem WF.c0 {C : Nat} {w : World} {wb gp : Nat} {sz : Int} {F : List (List Int)} (h : WF C w wb gp sz F) : w.cell? ⟨wb, 0, none⟩ = some (.pointer (some ⟨gp, 0, none⟩)) := by
 obtain ⟨u, cls, h1, h2⟩ := h
 exact (cell_of_row _ _ 0 _ _ (0, 0) h1.box).trans rfl
theorem WF.c1 {C : Nat} {w : World} {wb gp : Nat} {sz : Int} {F : List (List Int)} (h : WF C w wb gp sz F) : w.cell? ⟨wb, 1, none⟩ = some (.int .i64 sz) := by
 obtain ⟨u, cls, h1, h2⟩ := h
 exact (cell_of_row _ _ 1 _ _ (0, 0) h1.box).trans rfl
theorem WF.size {C : Nat} {w : World} {wb gp : Nat} {sz : Int} {F : List (List Int)} (h : WF C w wb gp sz F) : C ≤ w.heap.size := by
 obtain ⟨u, cls, h1, h2⟩ := h
 have := h1.base
 have := h1.lt
 omega
def SayP (C : Nat) (w : World) (wb gp : Nat) (sz : Int) (u : Value) (cls : List CL) (w' : World) : Prop := (∃ u', Wr C w' wb #[.pointer (some ⟨gp, 0, none⟩), .int .i64 sz, u'] 109 2 u' cls ∧ ∀ b, b < w.heap.size → u.ownBlock ≠ some b → u'.ownBlock ≠ some b) ∧ Below C w w' ∧ ∀ b, b < w.heap.size → b ≠ wb → u.ownBlock ≠ some b → w'.heap[b]? = w.heap[b]?
theorem say_any (C : Nat) (w : World) (wb gp : Nat) (sz : Int) (u : Value) (cls : List CL) (h : Wr C w wb #[.pointer (some ⟨gp, 0, none⟩), .int .i64 sz, u] 109 2 u cls) (t : CL) (ht : RowAt w.heap.size w t.a 1 (t.l.map intC)) (hf : ∀ x, t.a = some x → C ≤ x.block ∧ x.block < w.heap.size ∧ x.block ≠ wb ∧ u.ownBlock ≠ some x.block) (hn : cls.length ≤ 16777216) :
  Calls Try.prog 76 #[.pointer (some ⟨wb, 0, none⟩), .slice t.a t.l.length t.c] w fun e w' => e = .returned (.tuple #[]) ∧ SayP C w wb gp sz u (cls ++ [t]) w' := by
 have HW := hidden h
 have HT := hidden ht
 have HF := hidden hf
 obtain ⟨ic, hi, hz, hs, hby⟩ := info_cl
 have HI := hidden hi
 have HZ := hidden hz
 have HS := hidden hs
 have HY := hidden hby
 clear hi hz hs hby
 have HOW := hidden h.own
 have f2 : w.cell? ⟨wb, 2, none⟩ = some u := (cell_of_row _ _ 2 _ _ (0, 0) h.box).trans rfl
 have z2 : w.frozen? ⟨wb, 2, none⟩ = false := frozen_of_row w wb 2 _ _ h.box
 have hlt := h.lt
 have far : u.ownBlock ≠ some wb := h.nb
 have hB : C ≤ w.heap.size := by have := h.base; omega
 have hm1 : cls.length + 1 ≤ maxLen := by simp only [maxLen]; omega
 have hm2 : (cls.length + 1) * 24 ≤ 140737488355328 := by omega
 have hm3 : C ≤ (w.alloc (.cells #[.slice t.a t.l.length t.c] 26)).heap.size := by simp; omega
 have KP : Hid (∀ w', w.grownBy w' u.ownBlock → w'.cell? ⟨wb, 2, none⟩ = some u ∧ w'.frozen? ⟨wb, 2, none⟩ = false) := fun w' hg => ⟨(hg.cell_far ⟨wb, 2, none⟩ hlt (fun e => far e.symm)).trans f2, (hg.frozen_far ⟨wb, 2, none⟩ hlt (fun e => far e.symm)).trans z2⟩
 obtain ⟨cn, HCN⟩ : ∃ n, Hid (n = cls.length) := ⟨_, rfl⟩
 obtain ⟨tn, HTN⟩ : ∃ n, Hid (n = t.l.length) := ⟨_, rfl⟩
 rw [← HCN.out] at hm1 hm2 HOW
 rw [← HTN.out] at hm3
 rw [← HTN.out]
 clear h ht hf z2
 go_enter Try.func76, Try.ntmps76
 have tok : True := trivial
 go_wp2_with (have _t := tok; at_builtin; (refine wpList_append_lies _ rfl (.tmp 8) (.tmp 10) 22 rfl C 26 ic _ 1 24 Try.underlying22 HI.out HZ.out HS.out HY.out rfl (by decide) u cn _ rfl (HOW.out.alloc _) ⟨w.heap.size, 0, none⟩ 1 1 [.slice t.a tn t.c] rfl rfl (World.news_of_block (heap_new _ _)) (by simp [Value.oneCell']) (by decide) hm1 hm2 hm3 _ rfl ?_; intro g cap w5 hown hgrow hat hlt5; clear tok; have hg5 := grown_trn (World.grownBy_alloc w _ _) hgrow; have hc5 := (KP.out w5 hg5).1; have hz5 := (KP.out w5 hg5).2))
 obtain ⟨h6, h7, h8, h9⟩ := HW.out.grow t HT.out HF.out hg5 (by rw [← HCN.out, ← HTN.out]; exact hown) (g := g) (cap := cap) (by
  rcases hat with h | h
  ·exact .inl h
  ·refine .inr ?_
   simp at h
   omega)
 rw [← HCN.out] at h6 h7 h8 h9
 generalize hW6 : World.setCell w5 _ _ = w6
 rw [hW6] at h6 h7 h8
 have HX : Hid (SayP C w wb gp sz u (cls ++ [t]) w6) := ⟨⟨_, h6, h9⟩, h7, h8⟩
 clear h6 h7 h8 h9 hW6 hown hgrow hat hlt5 hg5 hc5 hz5 f2
 go_wp2
 go_end0
 exact ⟨rfl, HX.out⟩
end Go.Proofs.Ytefjicdhccfieaa

set_option maxRecDepth 100000
set_option maxHeartbeats 16000000
namespace Go.Proofs.Ytefjicdhccfieaa
open Go.RowKit
theorem flat_ints (l : List Int) : (l.map intC).flatten = l.map (Value.int .i64) := by
 induction l with
 | nil => rfl
 | cons a r ih => rw [List.map_cons, List.flatten_cons, ih]; rfl
theorem say_lits (C : Nat) (w : World) (wb gp : Nat) (sz : Int) (F : List (List Int)) (h : WF C w wb gp sz F) (l : List Int) (hn : F.length ≤ 16777216) :
  Calls Try.prog 76 #[.pointer (some ⟨wb, 0, none⟩), .slice (some ⟨w.heap.size, 0, none⟩) l.length l.length] (w.alloc (.cells (l.map (Value.int .i64)).toArray 3)) fun e w' => e = .returned (.tuple #[]) ∧ WF C w' wb gp sz (F ++ [l]) ∧ Below C w w' := by
 obtain ⟨u, cls, h1, rfl⟩ := h
 have hb : Below w.heap.size w (w.alloc (.cells (l.map (Value.int .i64)).toArray 3)) := (Below.refl _ _).alloc (Nat.le_refl _) _
 have hn2 := heap_new w (.cells (l.map (Value.int .i64)).toArray 3)
 have hsz : (w.alloc (.cells (l.map (Value.int .i64)).toArray 3)).heap.size = w.heap.size + 1 := by simp
 have hlt := h1.lt
 have hbase := h1.base
 have hrow : RowAt (w.alloc (.cells (l.map (Value.int .i64)).toArray 3)).heap.size (w.alloc (.cells (l.map (Value.int .i64)).toArray 3)) (some ⟨w.heap.size, 0, none⟩) 1 (l.map intC) := rowAt_flat (by omega) (fun x hx => by obtain ⟨y, _, rfl⟩ := List.mem_map.1 hx; rfl) (fun m v hm => by
  rw [cell_of_row _ _ m _ _ _ hn2]
  rw [flat_ints] at hm
  simpa using hm)
 refine (say_any C _ wb gp sz u cls (h1.rest hb) ⟨some ⟨w.heap.size, 0, none⟩, l.length, l⟩ hrow (fun x hx => ?_) (by simpa using hn)).mono ?_
 ·cases hx
  refine ⟨by show C ≤ w.heap.size; omega, by show w.heap.size < _; omega, by show w.heap.size ≠ wb; omega, fun e => ?_⟩
  have := (h1.own.lt _ e).2
  exact absurd this (Nat.lt_irrefl _)
 ·rintro e w' ⟨rfl, ⟨u', h2, -⟩, h3, -⟩
  exact ⟨rfl, ⟨u', _, h2, by simp⟩, (hb.mono (by omega)).trans h3⟩
theorem say1 (C : Nat) (w : World) (wb gp : Nat) (sz : Int) (F : List (List Int)) (h : WF C w wb gp sz F) (x : Int) (hn : F.length ≤ 16777216) :
  Calls Try.prog 76 #[.pointer (some ⟨wb, 0, none⟩), .slice (some ⟨w.heap.size, 0, none⟩) 1 1] (w.alloc (.cells #[.int .i64 (x)] 3)) fun e w' => e = .returned (.tuple #[]) ∧ WF C w' wb gp sz (F ++ [[x]]) ∧ Below C w w' := say_lits C w wb gp sz F h [x] hn
theorem say2 (C : Nat) (w : World) (wb gp : Nat) (sz : Int) (F : List (List Int)) (h : WF C w wb gp sz F) (x y : Int) (hn : F.length ≤ 16777216) :
  Calls Try.prog 76 #[.pointer (some ⟨wb, 0, none⟩), .slice (some ⟨w.heap.size, 0, none⟩) 2 2] (w.alloc (.cells #[.int .i64 (x), .int .i64 (y)] 3)) fun e w' => e = .returned (.tuple #[]) ∧ WF C w' wb gp sz (F ++ [[x, y]]) ∧ Below C w w' := say_lits C w wb gp sz F h [x, y] hn
theorem say3 (C : Nat) (w : World) (wb gp : Nat) (sz : Int) (F : List (List Int)) (h : WF C w wb gp sz F) (x y z : Int) (hn : F.length ≤ 16777216) :
  Calls Try.prog 76 #[.pointer (some ⟨wb, 0, none⟩), .slice (some ⟨w.heap.size, 0, none⟩) 3 3] (w.alloc (.cells #[.int .i64 (x), .int .i64 (y), .int .i64 (z)] 3)) fun e w' => e = .returned (.tuple #[]) ∧ WF C w' wb gp sz (F ++ [[x, y, z]]) ∧ Below C w w' := say_lits C w wb gp sz F h [x, y, z] hn
theorem number_any (w : World) (wb : Nat) (sz k l : Int) (hc : w.cell? ⟨wb, 1, none⟩ = some (.int .i64 sz)) (hs : 0 ≤ sz ∧ sz ≤ 1000000) (hk : k = 0 ∨ k = 1) (hl : 0 ≤ l ∧ l ≤ 4000000) :
  Calls Try.prog 77 #[.pointer (some ⟨wb, 0, none⟩), .int .i64 (l), .int .i64 (k)] w fun e w' => e = .returned (.int .i64 (numF sz k l)) ∧ w' = w := by
 obtain ⟨ks, HKS⟩ : ∃ x, Hid (x = k * sz) := ⟨_, rfl⟩
 have hks : 0 ≤ k * sz ∧ k * sz ≤ 1000000 := by rcases hk with rfl | rfl <;> omega
 have HE : Hid (∀ r, (l % 2 = 1 → r = -(k * sz + l / 2 + 1)) → (¬ l % 2 = 1 → r = k * sz + l / 2 + 1) → r = numF sz k l) := fun r h1 h2 => by
  unfold numF
  by_cases h : l % 2 = 1
  ·rw [if_pos h]; exact h1 h
  ·rw [if_neg h]; exact h2 h
 have q1 : Int.tdiv l 2 = l / 2 := by rw [Int.tdiv_eq_ediv_of_nonneg hl.1]
 have q2 : Int.tmod l 2 = l % 2 := by rw [Int.tmod_eq_emod_of_nonneg hl.1]
 have hm : 0 ≤ l / 2 ∧ l / 2 ≤ 2000000 := by omega
 have hr2 : 0 ≤ l % 2 ∧ l % 2 ≤ 1 := by omega
 rw [← HKS.out] at hks HE
 have e0 : IntKind.i64.wrap (k * sz) = ks := by rw [← HKS.out]; exact wrapI _ (by omega) (by omega)
 generalize l / 2 = m at *
 generalize hr : l % 2 = r at *
 have e1 : IntKind.i64.wrap m = m := wrapI _ (by omega) (by omega)
 have e2 : IntKind.i64.wrap r = r := wrapI _ (by omega) (by omega)
 have e3 : IntKind.i64.wrap (ks + m) = ks + m := wrapI _ (by omega) (by omega)
 have e4 : IntKind.i64.wrap (ks + m + 1) = ks + m + 1 := wrapI _ (by omega) (by omega)
 have e5 : IntKind.i64.wrap (-(ks + m + 1)) = -(ks + m + 1) := wrapI _ (by omega) (by omega)
 clear hr
 by_cases h1 : r = 1
 ·have hb : (r == 1) = true := beq_iff_eq.2 h1
  have HR := hidden (HE.out _ (fun _ => rfl) (fun h => absurd h1 h))
  clear h1
  go_enter Try.func77, Try.ntmps77
  go_wp2
  go_ret
  exact ⟨ret_int HR.out, rfl⟩
 ·have hb : (r == 1) = false := beq_eq_false_iff_ne.2 h1
  have HR := hidden (HE.out _ (fun h => absurd h h1) (fun _ => rfl))
  clear h1
  go_enter Try.func77, Try.ntmps77
  go_wp2
  go_ret
  exact ⟨ret_int HR.out, rfl⟩
theorem latch_any (w : World) (wb gp : Nat) (ins i : Int) (hc : w.cell? ⟨wb, 0, none⟩ = some (.pointer (some ⟨gp, 0, none⟩))) (hg : w.cell? ⟨gp, 0, none⟩ = some (.int .i64 ins)) (h0 : 0 ≤ ins ∧ ins ≤ 60000) (hi : 0 ≤ i ∧ i ≤ 1000000) :
  Calls Try.prog 78 #[.pointer (some ⟨wb, 0, none⟩), .int .i64 (i)] w fun e w' => e = .returned (.int .i64 (2 * (1 + ins + i))) ∧ w' = w := by
 have e1 : IntKind.i64.wrap (1 + ins) = 1 + ins := wrapI _ (by omega) (by omega)
 have e2 : IntKind.i64.wrap (1 + ins + i) = 1 + ins + i := wrapI _ (by omega) (by omega)
 have e3 : IntKind.i64.wrap (2 * (1 + ins + i)) = 2 * (1 + ins + i) := wrapI _ (by omega) (by omega)
 go_enter Try.func78, Try.ntmps78
 go_wp2
 go_ret
 exact ⟨rfl, rfl⟩
end Go.Proofs.Ytefjicdhccfieaa
