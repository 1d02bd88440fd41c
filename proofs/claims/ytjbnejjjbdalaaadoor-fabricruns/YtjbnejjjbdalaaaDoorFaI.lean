import Derived.Test.YtjbnejjjbdalaaaDoorFaH
namespace Go.Proofs.YtjbnejjjbdalaaaDoor
open Go.RowKit

/-! What bits tell: a cell, a column (pure). nm q n: the number of n bits that stands at q -/
def ceS (nm : Nat → Nat → Nat) (p k : Nat) : CeD := ⟨(nm (p + 16 + 0 * k) k : Nat), (nm (p + 16 + 1 * k) k : Nat), (nm (p + 16 + 2 * k) k : Nat), (nm (p + 16 + 3 * k) k : Nat), (nm p 16 : Nat)⟩
def cw (k : Nat) : Nat := 16 + 4 * k
def clS (nm : Nat → Nat → Nat) (p k rows : Nat) : List CeD := (List.range rows).map fun j => ceS nm (p + j * cw k) k
theorem clS_len (nm : Nat → Nat → Nat) (p k rows : Nat) : (clS nm p k rows).length = rows := by simp [clS]
theorem clS_get (nm : Nat → Nat → Nat) (p k rows j : Nat) (h : j < rows) : (clS nm p k rows)[j]? = some (ceS nm (p + j * cw k) k) := by
  unfold clS; rw [List.getElem?_map, List.getElem?_range h]; rfl
def flatC (ds : List CeD) : List Value := ds.flatMap CeD.cells
theorem flatC_len (ds : List CeD) : (flatC ds).length = ds.length * 5 := by
  induction ds with
  | nil => rfl
  | cons d r ih =>
    show (d.cells ++ flatC r).length = _
    rw [List.length_append, ih, List.length_cons]
    show 5 + _ = _
    omega
theorem flatC_get {ds : List CeD} {i j : Nat} {d : CeD} (h : ds[i]? = some d) (hj : j < 5) : (flatC ds)[i * 5 + j]? = d.cells[j]? := by
  induction ds generalizing i with
  | nil => simp at h
  | cons e r ih =>
    show (e.cells ++ flatC r)[i * 5 + j]? = _
    have el : e.cells.length = 5 := rfl
    cases i with
    | zero =>
      simp at h; subst h
      rw [List.getElem?_append_left (by omega), Nat.zero_mul, Nat.zero_add]
    | succ i =>
      rw [List.getElem?_append_right (by omega), el, show (i + 1) * 5 + j - 5 = i * 5 + j by omega]
      exact ih (by simpa using h)
theorem flatC_set {ds : List CeD} {i j : Nat} {d d' : CeD} {v : Value} (h : ds[i]? = some d) (hj : j < 5) (hd : d.cells.set j v = d'.cells) : (flatC ds).set (i * 5 + j) v = flatC (ds.set i d') := by
  induction ds generalizing i with
  | nil => simp at h
  | cons e r ih =>
    show (e.cells ++ flatC r).set (i * 5 + j) v = _
    have el : e.cells.length = 5 := rfl
    cases i with
    | zero =>
      simp at h; subst h
      rw [List.set_append_left _ _ (by omega), Nat.zero_mul, Nat.zero_add, hd]
      rfl
    | succ i =>
      rw [List.set_append_right _ _ (by omega), el, show (i + 1) * 5 + j - 5 = i * 5 + j by omega, ih (by simpa using h)]
      rfl
def zeroC : CeD := ⟨0, 0, 0, 0, 0⟩
theorem made_ce (n : Nat) : (madeCells (Value.agg #[.int .i64 0, .int .i64 0, .int .i64 0, .int .i64 0, .int .i64 0]).cells (n * 5)).toList = flatC (List.replicate n zeroC) := by
  have h1 : (madeCells (Value.agg #[.int .i64 0, .int .i64 0, .int .i64 0, .int .i64 0, .int .i64 0]).cells (n * 5)).toList = List.replicate (n * 5) (.int .i64 0) := by
    apply List.ext_getElem
    · simp [madeCells]
    · intro i h1 h2
      have : i % 5 < 5 := Nat.mod_lt _ (by decide)
      simp only [madeCells, Value.cells, Array.getElem_toList, Array.getElem_map, Array.getElem_range, List.getElem_replicate]
      show (#[Value.int .i64 0, .int .i64 0, .int .i64 0, .int .i64 0, .int .i64 0] : Array Value)[i % 5]! = _
      rcases (show i % 5 = 0 ∨ i % 5 = 1 ∨ i % 5 = 2 ∨ i % 5 = 3 ∨ i % 5 = 4 by omega) with e | e | e | e | e <;> rw [e] <;> rfl
  rw [h1]
  clear h1
  induction n with
  | zero => rfl
  | succ n ih =>
    rw [List.replicate_succ]
    show _ = List.replicate 5 (Value.int .i64 0) ++ flatC (List.replicate n zeroC)
    rw [← ih, List.replicate_append_replicate, show (n + 1) * 5 = 5 + n * 5 by omega]
/-- a row that was made whole -/
theorem blk_made {w : World} {B g n : Nat} {e : TypeId} {sz : Nat} {xs : List Value} (h : w.ownsRow B e sz (.slice (some ⟨g, 0, none⟩) n n) n xs) : Blk w g e xs.toArray := by
  rcases h.2 with ⟨h', _⟩ | ⟨g', cap', cur, h', _, hh, _, _, hcs, htake⟩
  · simp at h'
  · simp only [Value.slice.injEq, Option.some.injEq, Addr.mk.injEq, and_true, true_and] at h'
    obtain ⟨rfl, rfl⟩ := h'
    show w.heap[g]? = _
    rw [hh]
    rw [List.take_of_length_le (by rw [Array.length_toList, hcs]; exact Nat.le_refl _)] at htake
    rw [← htake]
/-- all blocks but these are as they were -/
structure Kp (gs : List Nat) (w w' : World) : Prop where
  os : w'.os = w.os
  tape : w'.tape = w.tape
  output : w'.output = w.output
  size : w.heap.size ≤ w'.heap.size
  block : ∀ k, k < w.heap.size → k ∉ gs → w'.heap[k]? = w.heap[k]?
theorem Kp.refl (gs : List Nat) (w : World) : Kp gs w w := ⟨rfl, rfl, rfl, Nat.le_refl _, fun _ _ _ => rfl⟩
theorem Kp.trans {gs : List Nat} {a b c : World} (h : Kp gs a b) (k : Kp gs b c) : Kp gs a c :=
  ⟨k.os.trans h.os, k.tape.trans h.tape, k.output.trans h.output, Nat.le_trans h.size k.size, fun i hi hg => (k.block i (Nat.lt_of_lt_of_le hi h.size) hg).trans (h.block i hi hg)⟩
theorem But.kp {g : Nat} {gs : List Nat} {a w : World} (h : But g a w) (hg : g ∈ gs) : Kp gs a w := ⟨h.os, h.tape, h.output, h.size, fun k hk hn => h.block k hk (fun e => hn (e ▸ hg))⟩
theorem Below.kp {gs : List Nat} {a w : World} (h : Below a.heap.size a w) : Kp gs a w := ⟨h.os, h.tape, h.output, h.size, fun k hk _ => h.block k hk⟩
theorem Kp.set (gs : List Nat) (g i : Nat) (w : World) (v : Value) (hg : g ∈ gs) : Kp gs w (w.setCell ⟨g, i, none⟩ v) := (But.set g i w v).kp hg
theorem Kp.drewN {gs : List Nat} {a w : World} (h : Kp gs a w) (n : Nat) : Kp gs a (w.drewN n) := ⟨h.os, h.tape, h.output, h.size, h.block⟩
theorem Kp.drew {gs : List Nat} {a w : World} (h : Kp gs a w) : Kp gs a w.drew := ⟨h.os, h.tape, h.output, h.size, h.block⟩
/-- what was made since may be left out -/
theorem Kp.less {gs hs : List Nat} {a w : World} (h : Kp gs a w) (hn : ∀ g, g ∈ gs → g ∉ hs → a.heap.size ≤ g) : Kp hs a w :=
  ⟨h.os, h.tape, h.output, h.size, fun k hk hx => h.block k hk (fun hg => by have := hn k hg hx; omega)⟩
theorem Kp.blk {gs : List Nat} {b : Nat} {a w : World} {t : TypeId} {arr : Array Value} (h : Kp gs a w) (hb : Blk a b t arr) (hne : b ∉ gs) : Blk w b t arr := (h.block b hb.lt hne).trans hb
theorem Kp.below {B : Nat} {gs : List Nat} {a w : World} (h : Kp gs a w) (hg : ∀ g, g ∈ gs → B ≤ g) (hs : B ≤ a.heap.size) : Below B a w := ⟨h.os, h.tape, h.output, h.size, fun k hk => h.block k (by omega) (fun hx => by have := hg k hx; omega)⟩
theorem Kp.but {g : Nat} {a w : World} (h : Kp [g] a w) : But g a w := ⟨h.os, h.tape, h.output, h.size, fun k hk hn => h.block k hk (by simpa using hn)⟩
theorem info_cell : ∃ i, Tryd.prog.info? 53 = some i ∧ i.zero = some (.agg #[.int .i64 0, .int .i64 0, .int .i64 0, .int .i64 0, .int .i64 0]) ∧ i.size = 5 ∧ i.bytes = 40 := by
  have h : (Tryd.prog.info? 53).map (fun i => (i.zero, i.size, i.bytes)) = some (some (.agg #[.int .i64 0, .int .i64 0, .int .i64 0, .int .i64 0, .int .i64 0]), 5, 40) := by kernel_rfl
  cases hi : Tryd.prog.info? 53 with
  | none => rw [hi] at h; simp at h
  | some i => rw [hi] at h; simp at h; exact ⟨i, rfl, h.1, h.2.1, h.2.2⟩
/-- the cells so far -/
def upTo (cs : List CeD) (j : Nat) (d : CeD) : List CeD := cs.take j ++ d :: List.replicate (cs.length - j - 1) zeroC

end Go.Proofs.YtjbnejjjbdalaaaDoor
