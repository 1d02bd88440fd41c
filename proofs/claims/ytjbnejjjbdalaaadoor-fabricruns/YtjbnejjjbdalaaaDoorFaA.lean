import Derived.Test.YtjbnejjjbdalaaaDoorRows
import Derived.WalkKit
import Derived.WalkSpells
import Derived.WalkLawsBesides
import Derived.Deep.QuietTactic
import Derived.BigQuiet
import Derived.Deep.Cut
import Derived.Deep.CutBlock
import Derived.Deep.RegionHeld3
import Derived.Deep.RegionHeldLaw
namespace Go.Proofs.YtjbnejjjbdalaaaDoor
open Go.RowKit

theorem ret_bool {a b : Bool} (h : a = b) : Ending.returned (.bool a) = .returned (.bool b) := by rw [h]
theorem ret_int {k : IntKind} {a b : Int} (h : a = b) : Ending.returned (.int k a) = .returned (.int k b) := by rw [h]
theorem wrapI (x : Int) (h0 : -9223372036854775808 ≤ x) (h1 : x < 9223372036854775808) : IntKind.i64.wrap x = x := by
  rw [IntKind.wrap_i64]; omega
theorem hidden {p : Prop} (h : p) : Hid p := h
theorem Below.drewN {B : Nat} {a w : World} (h : Below B a w) (n : Nat) : Below B a (w.drewN n) := ⟨h.os, h.tape, h.output, h.size, h.block⟩
theorem take_next {α : Type} (l : List α) (k : Nat) (x : α) (h : l[k]? = some x) : l.take (k + 1) = l.take k ++ [x] := by
  rw [List.take_add_one, h]; rfl
theorem all_next {α : Type} (p : α → Bool) (l : List α) (k : Nat) (x : α) (h : l[k]? = some x) : (l.take (k + 1)).all p = ((l.take k).all p && p x) := by
  rw [take_next l k x h, List.all_append]; simp
theorem range_next (p : Nat → Bool) (k : Nat) : (List.range (k + 1)).all p = ((List.range k).all p && p k) := by
  rw [List.range_succ, List.all_append]; simp
theorem getElem_lt {α : Type} {l : List α} {k : Nat} (h : k < l.length) : ∃ d, l[k]? = some d := ⟨l[k], List.getElem?_eq_getElem h⟩
theorem range_false {p : Nat → Bool} {n k : Nat} (h : k < n) (hp : p k = false) : (List.range n).all p = false := by
  rw [List.all_eq_false]; exact ⟨k, List.mem_range.2 h, by simp [hp]⟩

/-- elements of so many cells behind an address -/
def RowAt (B : Nat) (w : World) (a : Option Addr) (sz : Nat) (els : List (List Value)) : Prop :=
  els ≠ [] → ∃ b o, a = some ⟨b, o, none⟩ ∧ b < B ∧ ∀ (i : Nat) (cs : List Value), els[i]? = some cs → ∀ (j : Nat) (x : Value), cs[j]? = some x → w.cell? ⟨b, o + i * sz + j, none⟩ = some x
theorem RowAt.to {B : Nat} {w w' : World} {a : Option Addr} {sz : Nat} {els : List (List Value)} (h : RowAt B w a sz els) (hb : Below B w w') : RowAt B w' a sz els := fun he => by
  obtain ⟨b, o, ha, hlt, hc⟩ := h he
  exact ⟨b, o, ha, hlt, fun i cs h1 j x h2 => (hb.cell (p := ⟨b, o + i * sz + j, none⟩) hlt).trans (hc i cs h1 j x h2)⟩
theorem RowAt.mono {B B' : Nat} {w : World} {a : Option Addr} {sz : Nat} {els : List (List Value)} (h : RowAt B w a sz els) (hb : B ≤ B') : RowAt B' w a sz els := fun he => by
  obtain ⟨b, o, ha, hlt, hc⟩ := h he
  exact ⟨b, o, ha, Nat.lt_of_lt_of_le hlt hb, hc⟩
/-- an element of it -/
theorem RowAt.el {B : Nat} {w : World} {a : Option Addr} {sz : Nat} {α : Type} {f : α → List Value} {xs : List α} (h : RowAt B w a sz (xs.map f)) {i : Nat} {x : α} (hx : xs[i]? = some x) :
    ∃ b o, a = some ⟨b, o, none⟩ ∧ b < B ∧ ∀ (j : Nat) (v : Value), (f x)[j]? = some v → w.cell? ⟨b, o + i * sz + j, none⟩ = some v := by
  obtain ⟨b, o, ha, hlt, hc⟩ := h (by intro e; have : xs = [] := List.map_eq_nil_iff.1 e; rw [this] at hx; simp at hx)
  exact ⟨b, o, ha, hlt, hc i (f x) (by simp [hx])⟩
def intC (x : Int) : List Value := [.int .i64 x]
def boolC (x : Bool) : List Value := [.bool x]
theorem RowAt.int {B : Nat} {w : World} {a : Option Addr} {xs : List Int} (h : RowAt B w a 1 (xs.map intC)) {i : Nat} {x : Int} (hx : xs[i]? = some x) :
    ∃ b o, a = some ⟨b, o, none⟩ ∧ b < B ∧ w.cell? ⟨b, o + i, none⟩ = some (.int .i64 x) := by
  obtain ⟨b, o, ha, hlt, hc⟩ := h.el hx
  exact ⟨b, o, ha, hlt, (congrArg (fun m => w.cell? ⟨b, o + m, none⟩) (Nat.mul_one i).symm).trans (hc 0 _ rfl)⟩
/-- a shape -/
structure ShD where
  ins : Int
  outs : Int
  regs : Int
  rows : Int
  cols : Int
def ShD.arr (s : ShD) : Array Value := #[.int .i64 s.ins, .int .i64 s.outs, .int .i64 s.regs, .int .i64 s.rows, .int .i64 s.cols]
/-- a cell of the fabric -/
structure CeD where
  s0 : Int
  s1 : Int
  s2 : Int
  s3 : Int
  bits : Int
def CeD.cells (d : CeD) : List Value := [.int .i64 d.s0, .int .i64 d.s1, .int .i64 d.s2, .int .i64 d.s3, .int .i64 d.bits]
/-- a register -/
structure RgD where
  sel : Int
  init : Bool
def RgD.cells (d : RgD) : List Value := [.int .i64 d.sel, .bool d.init]
/-- a column: where its cells lie, what they are -/
structure ClD where
  a : Option Addr
  c : Nat
  cs : List CeD
def ClD.cells (d : ClD) : List Value := [.slice d.a d.cs.length d.c]
structure CnD where
  sh : ShD
  cols : List ClD
  regs : List RgD
  outs : List Int
structure CnS where
  a1 : Option Addr
  c1 : Nat
  a2 : Option Addr
  c2 : Nat
  a3 : Option Addr
  c3 : Nat
def CnS.cells (S : CnS) (N : CnD) : Array Value := #[.int .i64 N.sh.ins, .int .i64 N.sh.outs, .int .i64 N.sh.regs, .int .i64 N.sh.rows, .int .i64 N.sh.cols, .slice S.a1 N.cols.length S.c1, .slice S.a2 N.regs.length S.c2, .slice S.a3 N.outs.length S.c3]
def big : Nat := 17592186044416
structure CnAt (B : Nat) (w : World) (S : CnS) (N : CnD) : Prop where
  c : RowAt B w S.a1 1 (N.cols.map ClD.cells)
  cc : ∀ d, d ∈ N.cols → RowAt B w d.a 5 (d.cs.map CeD.cells)
  r : RowAt B w S.a2 2 (N.regs.map RgD.cells)
  o : RowAt B w S.a3 1 (N.outs.map intC)
  lc : N.cols.length < big
  lcc : ∀ d, d ∈ N.cols → d.cs.length < big
  lr : N.regs.length < big
  lo : N.outs.length < big
theorem CnAt.to {B : Nat} {w w' : World} {S : CnS} {N : CnD} (h : CnAt B w S N) (hb : Below B w w') : CnAt B w' S N :=
  ⟨h.c.to hb, fun d hd => (h.cc d hd).to hb, h.r.to hb, h.o.to hb, h.lc, h.lcc, h.lr, h.lo⟩
theorem CnAt.mono {B B' : Nat} {w : World} {S : CnS} {N : CnD} (h : CnAt B w S N) (hb : B ≤ B') : CnAt B' w S N :=
  ⟨h.c.mono hb, fun d hd => (h.cc d hd).mono hb, h.r.mono hb, h.o.mono hb, h.lc, h.lcc, h.lr, h.lo⟩
/-- a configuration in a box -/
structure BoxAt (w : World) (p : Nat) (S : CnS) (N : CnD) : Prop where
  lt : p < w.heap.size
  c0 : w.cell? ⟨p, 0, none⟩ = some (.int .i64 N.sh.ins)
  c1 : w.cell? ⟨p, 1, none⟩ = some (.int .i64 N.sh.outs)
  c2 : w.cell? ⟨p, 2, none⟩ = some (.int .i64 N.sh.regs)
  c3 : w.cell? ⟨p, 3, none⟩ = some (.int .i64 N.sh.rows)
  c4 : w.cell? ⟨p, 4, none⟩ = some (.int .i64 N.sh.cols)
  c5 : w.cell? ⟨p, 5, none⟩ = some (.slice S.a1 N.cols.length S.c1)
  c6 : w.cell? ⟨p, 6, none⟩ = some (.slice S.a2 N.regs.length S.c2)
  c7 : w.cell? ⟨p, 7, none⟩ = some (.slice S.a3 N.outs.length S.c3)
theorem BoxAt.to {B : Nat} {w w' : World} {p : Nat} {S : CnS} {N : CnD} (h : BoxAt w p S N) (hp : p < B) (hb : Below B w w') : BoxAt w' p S N :=
  ⟨Nat.lt_of_lt_of_le h.lt hb.size, (hb.cell (p := ⟨p, 0, none⟩) hp).trans h.c0, (hb.cell (p := ⟨p, 1, none⟩) hp).trans h.c1, (hb.cell (p := ⟨p, 2, none⟩) hp).trans h.c2, (hb.cell (p := ⟨p, 3, none⟩) hp).trans h.c3, (hb.cell (p := ⟨p, 4, none⟩) hp).trans h.c4, (hb.cell (p := ⟨p, 5, none⟩) hp).trans h.c5, (hb.cell (p := ⟨p, 6, none⟩) hp).trans h.c6, (hb.cell (p := ⟨p, 7, none⟩) hp).trans h.c7⟩
theorem BoxAt.new (w : World) (S : CnS) (N : CnD) : BoxAt (w.alloc (.cells #[.int .i64 N.sh.ins, .int .i64 N.sh.outs, .int .i64 N.sh.regs, .int .i64 N.sh.rows, .int .i64 N.sh.cols, .slice S.a1 N.cols.length S.c1, .slice S.a2 N.regs.length S.c2, .slice S.a3 N.outs.length S.c3] 32)) w.heap.size S N :=
  ⟨by simp, by simp, by simp, by simp, by simp, by simp, by simp, by simp, by simp⟩
/-- a shape in a box -/
structure ShAt (w : World) (p : Nat) (s : ShD) : Prop where
  lt : p < w.heap.size
  c0 : w.cell? ⟨p, 0, none⟩ = some (.int .i64 s.ins)
  c1 : w.cell? ⟨p, 1, none⟩ = some (.int .i64 s.outs)
  c2 : w.cell? ⟨p, 2, none⟩ = some (.int .i64 s.regs)
  c3 : w.cell? ⟨p, 3, none⟩ = some (.int .i64 s.rows)
  c4 : w.cell? ⟨p, 4, none⟩ = some (.int .i64 s.cols)
theorem ShAt.to {B : Nat} {w w' : World} {p : Nat} {s : ShD} (h : ShAt w p s) (hp : p < B) (hb : Below B w w') : ShAt w' p s :=
  ⟨Nat.lt_of_lt_of_le h.lt hb.size, (hb.cell (p := ⟨p, 0, none⟩) hp).trans h.c0, (hb.cell (p := ⟨p, 1, none⟩) hp).trans h.c1, (hb.cell (p := ⟨p, 2, none⟩) hp).trans h.c2, (hb.cell (p := ⟨p, 3, none⟩) hp).trans h.c3, (hb.cell (p := ⟨p, 4, none⟩) hp).trans h.c4⟩

/-- is it among so many? -/
def inR (n l : Int) : Bool := decide (0 ≤ l ∧ l < n)
def wi (n a b : Int) : Bool := decide (a ≤ n ∧ n ≤ b)
def ShD.ok (s : ShD) : Bool := wi s.ins 0 500 && wi s.outs 0 500 && wi s.regs 0 500 && wi s.rows 1 500 && wi s.cols 1 100
def ShD.src (s : ShD) (i : Int) : Int := if i = 0 then 2 + s.ins + s.regs else 2 + s.rows
def ShD.fits (s : ShD) : Prop := (-1000000 ≤ s.ins ∧ s.ins ≤ 1000000) ∧ (-1000000 ≤ s.regs ∧ s.regs ≤ 1000000) ∧ (-1000000 ≤ s.rows ∧ s.rows ≤ 1000000)
def CeD.ok (n : Int) (d : CeD) : Bool := inR 65536 d.bits && inR n d.s0 && inR n d.s1 && inR n d.s2 && inR n d.s3
def RgD.ok (n : Int) (d : RgD) : Bool := inR n d.sel
def colOk (N : CnD) (i : Nat) : Bool := match N.cols[i]? with | some d => decide ((d.cs.length : Int) = N.sh.rows) && d.cs.all (CeD.ok (N.sh.src i)) | none => true
theorem colOk_of {N : CnD} {k : Nat} {d : ClD} (h : N.cols[k]? = some d) : colOk N k = (decide ((d.cs.length : Int) = N.sh.rows) && d.cs.all (CeD.ok (N.sh.src k))) := by unfold colOk; rw [h]
def CnD.lens (N : CnD) : Bool := decide ((N.cols.length : Int) = N.sh.cols) && decide ((N.regs.length : Int) = N.sh.regs) && decide ((N.outs.length : Int) = N.sh.outs)
def CnOk (N : CnD) : Bool := N.sh.ok && N.lens && (List.range N.cols.length).all (colOk N) && N.regs.all (RgD.ok (N.sh.src (-1))) && N.outs.all (inR (N.sh.src (-1)))

set_option maxRecDepth 100000 in
set_option maxHeartbeats 16000000 in
theorem sources_doc (w : World) (s : ShD) (i : Int) (h : s.fits) :
    Calls Tryd.prog 14 #[.agg s.arr, .int .i64 i] w fun e w' => e = .returned (.int .i64 (s.src i)) ∧ Below w.heap.size w w' := by
  obtain ⟨⟨h0, h1⟩, ⟨h2, h3⟩, h4, h5⟩ := h
  unfold ShD.arr
  by_cases hi : i = 0
  · have e1 : s.src i = 2 + s.ins + s.regs := by unfold ShD.src; rw [if_pos hi]
    rw [e1]
    subst hi
    have x1 : IntKind.i64.wrap (2 + s.ins) = 2 + s.ins := wrapI _ (by omega) (by omega)
    have x2 : IntKind.i64.wrap (2 + s.ins + s.regs) = 2 + s.ins + s.regs := wrapI _ (by omega) (by omega)
    go_enter Tryd.func14, Tryd.ntmps14
    go_wp2
    go_ret
    exact ⟨ret_int rfl, (Below.refl _ _).alloc (Nat.le_refl _) _⟩
  · have e1 : s.src i = 2 + s.rows := by unfold ShD.src; rw [if_neg hi]
    rw [e1]
    have x1 : IntKind.i64.wrap (2 + s.rows) = 2 + s.rows := wrapI _ (by omega) (by omega)
    have hb : (i == 0) = false := beq_eq_false_iff_ne.2 hi
    go_enter Tryd.func14, Tryd.ntmps14
    go_wp2
    go_ret
    exact ⟨ret_int rfl, (Below.refl _ _).alloc (Nat.le_refl _) _⟩

set_option maxRecDepth 100000 in
set_option maxHeartbeats 16000000 in
theorem shapeValid_doc (w : World) (s : ShD) :
    Calls Tryd.prog 22 #[.agg s.arr] w fun e w' => e = .returned (.bool s.ok) ∧ Below w.heap.size w w' := by
  have HE : Hid (s.ok = (wi s.ins 0 500 && wi s.outs 0 500 && wi s.regs 0 500 && wi s.rows 1 500 && wi s.cols 1 100)) := rfl
  obtain ⟨r, HR⟩ : ∃ r, Hid (s.ok = r) := ⟨_, rfl⟩
  rw [HR.out] at HE ⊢
  unfold ShD.arr
  obtain ⟨x0, x1, x2, x3, x4⟩ := s
  dsimp only at *
  unfold wi at HE
  by_cases g0 : 0 ≤ x0
  rotate_left
  · have d0 : decide (0 ≤ x0) = false := decide_eq_false g0
    go_enter Tryd.func22, Tryd.ntmps22
    go_wp2
    go_ret
    exact ⟨ret_bool (by rw [HE.out, decide_eq_false (p := 0 ≤ x0 ∧ x0 ≤ 500) (by omega)]; simp), (Below.refl _ _).alloc (Nat.le_refl _) _⟩
  by_cases k0 : x0 ≤ 500
  rotate_left
  · have d0 : decide (x0 ≤ 500) = false := decide_eq_false k0
    go_enter Tryd.func22, Tryd.ntmps22
    go_wp2
    go_ret
    exact ⟨ret_bool (by rw [HE.out, decide_eq_false (p := 0 ≤ x0 ∧ x0 ≤ 500) (by omega)]; simp), (Below.refl _ _).alloc (Nat.le_refl _) _⟩
  by_cases g1 : 0 ≤ x1
  rotate_left
  · have d1 : decide (0 ≤ x1) = false := decide_eq_false g1
    go_enter Tryd.func22, Tryd.ntmps22
    go_wp2
    go_ret
    exact ⟨ret_bool (by rw [HE.out, decide_eq_true (p := 0 ≤ x0 ∧ x0 ≤ 500) ⟨g0, k0⟩, decide_eq_false (p := 0 ≤ x1 ∧ x1 ≤ 500) (by omega)]; simp), (Below.refl _ _).alloc (Nat.le_refl _) _⟩
  by_cases k1 : x1 ≤ 500
  rotate_left
  · have d1 : decide (x1 ≤ 500) = false := decide_eq_false k1
    go_enter Tryd.func22, Tryd.ntmps22
    go_wp2
    go_ret
    exact ⟨ret_bool (by rw [HE.out, decide_eq_true (p := 0 ≤ x0 ∧ x0 ≤ 500) ⟨g0, k0⟩, decide_eq_false (p := 0 ≤ x1 ∧ x1 ≤ 500) (by omega)]; simp), (Below.refl _ _).alloc (Nat.le_refl _) _⟩
  by_cases g2 : 0 ≤ x2
  rotate_left
  · have d2 : decide (0 ≤ x2) = false := decide_eq_false g2
    go_enter Tryd.func22, Tryd.ntmps22
    go_wp2
    go_ret
    exact ⟨ret_bool (by rw [HE.out, decide_eq_true (p := 0 ≤ x0 ∧ x0 ≤ 500) ⟨g0, k0⟩, decide_eq_true (p := 0 ≤ x1 ∧ x1 ≤ 500) ⟨g1, k1⟩, decide_eq_false (p := 0 ≤ x2 ∧ x2 ≤ 500) (by omega)]; simp), (Below.refl _ _).alloc (Nat.le_refl _) _⟩
  by_cases k2 : x2 ≤ 500
  rotate_left
  · have d2 : decide (x2 ≤ 500) = false := decide_eq_false k2
    go_enter Tryd.func22, Tryd.ntmps22
    go_wp2
    go_ret
    exact ⟨ret_bool (by rw [HE.out, decide_eq_true (p := 0 ≤ x0 ∧ x0 ≤ 500) ⟨g0, k0⟩, decide_eq_true (p := 0 ≤ x1 ∧ x1 ≤ 500) ⟨g1, k1⟩, decide_eq_false (p := 0 ≤ x2 ∧ x2 ≤ 500) (by omega)]; simp), (Below.refl _ _).alloc (Nat.le_refl _) _⟩
  by_cases g3 : 1 ≤ x3
  rotate_left
  · have d3 : decide (1 ≤ x3) = false := decide_eq_false g3
    go_enter Tryd.func22, Tryd.ntmps22
    go_wp2
    go_ret
    exact ⟨ret_bool (by rw [HE.out, decide_eq_true (p := 0 ≤ x0 ∧ x0 ≤ 500) ⟨g0, k0⟩, decide_eq_true (p := 0 ≤ x1 ∧ x1 ≤ 500) ⟨g1, k1⟩, decide_eq_true (p := 0 ≤ x2 ∧ x2 ≤ 500) ⟨g2, k2⟩, decide_eq_false (p := 1 ≤ x3 ∧ x3 ≤ 500) (by omega)]; simp), (Below.refl _ _).alloc (Nat.le_refl _) _⟩
  by_cases k3 : x3 ≤ 500
  rotate_left
  · have d3 : decide (x3 ≤ 500) = false := decide_eq_false k3
    go_enter Tryd.func22, Tryd.ntmps22
    go_wp2
    go_ret
    exact ⟨ret_bool (by rw [HE.out, decide_eq_true (p := 0 ≤ x0 ∧ x0 ≤ 500) ⟨g0, k0⟩, decide_eq_true (p := 0 ≤ x1 ∧ x1 ≤ 500) ⟨g1, k1⟩, decide_eq_true (p := 0 ≤ x2 ∧ x2 ≤ 500) ⟨g2, k2⟩, decide_eq_false (p := 1 ≤ x3 ∧ x3 ≤ 500) (by omega)]; simp), (Below.refl _ _).alloc (Nat.le_refl _) _⟩
  by_cases g4 : 1 ≤ x4
  rotate_left
  · have d4 : decide (1 ≤ x4) = false := decide_eq_false g4
    go_enter Tryd.func22, Tryd.ntmps22
    go_wp2
    go_ret
    exact ⟨ret_bool (by rw [HE.out, decide_eq_true (p := 0 ≤ x0 ∧ x0 ≤ 500) ⟨g0, k0⟩, decide_eq_true (p := 0 ≤ x1 ∧ x1 ≤ 500) ⟨g1, k1⟩, decide_eq_true (p := 0 ≤ x2 ∧ x2 ≤ 500) ⟨g2, k2⟩, decide_eq_true (p := 1 ≤ x3 ∧ x3 ≤ 500) ⟨g3, k3⟩, decide_eq_false (p := 1 ≤ x4 ∧ x4 ≤ 100) (by omega)]; simp), (Below.refl _ _).alloc (Nat.le_refl _) _⟩
  by_cases k4 : x4 ≤ 100
  rotate_left
  · have d4 : decide (x4 ≤ 100) = false := decide_eq_false k4
    go_enter Tryd.func22, Tryd.ntmps22
    go_wp2
    go_ret
    exact ⟨ret_bool (by rw [HE.out, decide_eq_true (p := 0 ≤ x0 ∧ x0 ≤ 500) ⟨g0, k0⟩, decide_eq_true (p := 0 ≤ x1 ∧ x1 ≤ 500) ⟨g1, k1⟩, decide_eq_true (p := 0 ≤ x2 ∧ x2 ≤ 500) ⟨g2, k2⟩, decide_eq_true (p := 1 ≤ x3 ∧ x3 ≤ 500) ⟨g3, k3⟩, decide_eq_false (p := 1 ≤ x4 ∧ x4 ≤ 100) (by omega)]; simp), (Below.refl _ _).alloc (Nat.le_refl _) _⟩
  go_enter Tryd.func22, Tryd.ntmps22
  go_wp2
  go_ret
  exact ⟨ret_bool (by rw [HE.out, decide_eq_true (p := 0 ≤ x0 ∧ x0 ≤ 500) ⟨g0, k0⟩, decide_eq_true (p := 0 ≤ x1 ∧ x1 ≤ 500) ⟨g1, k1⟩, decide_eq_true (p := 0 ≤ x2 ∧ x2 ≤ 500) ⟨g2, k2⟩, decide_eq_true (p := 1 ≤ x3 ∧ x3 ≤ 500) ⟨g3, k3⟩, decide_eq_true (p := 1 ≤ x4 ∧ x4 ≤ 100) ⟨g4, k4⟩]; rfl), (Below.refl _ _).alloc (Nat.le_refl _) _⟩


end Go.Proofs.YtjbnejjjbdalaaaDoor
