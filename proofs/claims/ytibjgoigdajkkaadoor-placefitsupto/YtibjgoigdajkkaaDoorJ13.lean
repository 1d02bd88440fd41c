import Derived.Test.YtibjgoigdajkkaaDoorJ10
import Derived.Deep.RegionHeldLaw
namespace Go.Proofs.YtibjgoigdajkkaaDoor
open Go.RowKit

/-- a shape -/
structure ShD where
  ins : Int
  outs : Int
  regs : Int
  rows : Int
  cols : Int
def ShD.arr (s : ShD) : Array Value := #[.int .i64 s.ins, .int .i64 s.outs, .int .i64 s.regs, .int .i64 s.rows, .int .i64 s.cols]
/-- a cell of the fabric -/
structure CeD where
  s0 : Int
  s1 : Int
  s2 : Int
  s3 : Int
  bits : Int
def CeD.cells (d : CeD) : List Value := [.int .i64 d.s0, .int .i64 d.s1, .int .i64 d.s2, .int .i64 d.s3, .int .i64 d.bits]
/-- a register -/
structure RgD where
  sel : Int
  init : Bool
def RgD.cells (d : RgD) : List Value := [.int .i64 d.sel, .bool d.init]
/-- a column: where its cells lie, what they are -/
structure ClD where
  a : Option Addr
  c : Nat
  cs : List CeD
def ClD.cells (d : ClD) : List Value := [.slice d.a d.cs.length d.c]
structure CnD where
  sh : ShD
  cols : List ClD
  regs : List RgD
  outs : List Int
structure CnS where
  a1 : Option Addr
  c1 : Nat
  a2 : Option Addr
  c2 : Nat
  a3 : Option Addr
  c3 : Nat
def CnS.cells (S : CnS) (N : CnD) : Array Value := #[.int .i64 N.sh.ins, .int .i64 N.sh.outs, .int .i64 N.sh.regs, .int .i64 N.sh.rows, .int .i64 N.sh.cols, .slice S.a1 N.cols.length S.c1, .slice S.a2 N.regs.length S.c2, .slice S.a3 N.outs.length S.c3]
structure CnAt (B : Nat) (w : World) (S : CnS) (N : CnD) : Prop where
  c : RowAt B w S.a1 1 (N.cols.map ClD.cells)
  cc : ∀ d, d ∈ N.cols → RowAt B w d.a 5 (d.cs.map CeD.cells)
  r : RowAt B w S.a2 2 (N.regs.map RgD.cells)
  o : RowAt B w S.a3 1 (N.outs.map intC)
  lc : N.cols.length < big
  lcc : ∀ d, d ∈ N.cols → d.cs.length < big
  lr : N.regs.length < big
  lo : N.outs.length < big
theorem CnAt.to {B : Nat} {w w' : World} {S : CnS} {N : CnD} (h : CnAt B w S N) (hb : Below B w w') : CnAt B w' S N :=
  ⟨h.c.to hb, fun d hd => (h.cc d hd).to hb, h.r.to hb, h.o.to hb, h.lc, h.lcc, h.lr, h.lo⟩
theorem CnAt.mono {B B' : Nat} {w : World} {S : CnS} {N : CnD} (h : CnAt B w S N) (hb : B ≤ B') : CnAt B' w S N :=
  ⟨h.c.mono hb, fun d hd => (h.cc d hd).mono hb, h.r.mono hb, h.o.mono hb, h.lc, h.lcc, h.lr, h.lo⟩
/-- a configuration in a box -/
structure CBoxAt (w : World) (p : Nat) (S : CnS) (N : CnD) : Prop where
  lt : p < w.heap.size
  c0 : w.cell? ⟨p, 0, none⟩ = some (.int .i64 N.sh.ins)
  c1 : w.cell? ⟨p, 1, none⟩ = some (.int .i64 N.sh.outs)
  c2 : w.cell? ⟨p, 2, none⟩ = some (.int .i64 N.sh.regs)
  c3 : w.cell? ⟨p, 3, none⟩ = some (.int .i64 N.sh.rows)
  c4 : w.cell? ⟨p, 4, none⟩ = some (.int .i64 N.sh.cols)
  c5 : w.cell? ⟨p, 5, none⟩ = some (.slice S.a1 N.cols.length S.c1)
  c6 : w.cell? ⟨p, 6, none⟩ = some (.slice S.a2 N.regs.length S.c2)
  c7 : w.cell? ⟨p, 7, none⟩ = some (.slice S.a3 N.outs.length S.c3)
theorem CBoxAt.to {B : Nat} {w w' : World} {p : Nat} {S : CnS} {N : CnD} (h : CBoxAt w p S N) (hp : p < B) (hb : Below B w w') : CBoxAt w' p S N :=
  ⟨Nat.lt_of_lt_of_le h.lt hb.size, (hb.cell (p := ⟨p, 0, none⟩) hp).trans h.c0, (hb.cell (p := ⟨p, 1, none⟩) hp).trans h.c1, (hb.cell (p := ⟨p, 2, none⟩) hp).trans h.c2, (hb.cell (p := ⟨p, 3, none⟩) hp).trans h.c3, (hb.cell (p := ⟨p, 4, none⟩) hp).trans h.c4, (hb.cell (p := ⟨p, 5, none⟩) hp).trans h.c5, (hb.cell (p := ⟨p, 6, none⟩) hp).trans h.c6, (hb.cell (p := ⟨p, 7, none⟩) hp).trans h.c7⟩
theorem CBoxAt.new (w : World) (S : CnS) (N : CnD) : CBoxAt (w.alloc (.cells #[.int .i64 N.sh.ins, .int .i64 N.sh.outs, .int .i64 N.sh.regs, .int .i64 N.sh.rows, .int .i64 N.sh.cols, .slice S.a1 N.cols.length S.c1, .slice S.a2 N.regs.length S.c2, .slice S.a3 N.outs.length S.c3] 36)) w.heap.size S N :=
  ⟨by simp, by simp, by simp, by simp, by simp, by simp, by simp, by simp, by simp⟩
/-- a shape in a box -/
structure ShAt (w : World) (p : Nat) (s : ShD) : Prop where
  lt : p < w.heap.size
  c0 : w.cell? ⟨p, 0, none⟩ = some (.int .i64 s.ins)
  c1 : w.cell? ⟨p, 1, none⟩ = some (.int .i64 s.outs)
  c2 : w.cell? ⟨p, 2, none⟩ = some (.int .i64 s.regs)
  c3 : w.cell? ⟨p, 3, none⟩ = some (.int .i64 s.rows)
  c4 : w.cell? ⟨p, 4, none⟩ = some (.int .i64 s.cols)
theorem ShAt.to {B : Nat} {w w' : World} {p : Nat} {s : ShD} (h : ShAt w p s) (hp : p < B) (hb : Below B w w') : ShAt w' p s :=
  ⟨Nat.lt_of_lt_of_le h.lt hb.size, (hb.cell (p := ⟨p, 0, none⟩) hp).trans h.c0, (hb.cell (p := ⟨p, 1, none⟩) hp).trans h.c1, (hb.cell (p := ⟨p, 2, none⟩) hp).trans h.c2, (hb.cell (p := ⟨p, 3, none⟩) hp).trans h.c3, (hb.cell (p := ⟨p, 4, none⟩) hp).trans h.c4⟩
/-- is it among so many? -/
def inR (n l : Int) : Bool := decide (0 ≤ l ∧ l < n)
def wi (n a b : Int) : Bool := decide (a ≤ n ∧ n ≤ b)
def ShD.ok (s : ShD) : Bool := wi s.ins 0 500 && wi s.outs 0 500 && wi s.regs 0 500 && wi s.rows 1 500 && wi s.cols 1 100
def ShD.src (s : ShD) (i : Int) : Int := if i = 0 then 2 + s.ins + s.regs else 2 + s.rows
def ShD.fits (s : ShD) : Prop := (-1000000 ≤ s.ins ∧ s.ins ≤ 1000000) ∧ (-1000000 ≤ s.regs ∧ s.regs ≤ 1000000) ∧ (-1000000 ≤ s.rows ∧ s.rows ≤ 1000000)
def CeD.ok (n : Int) (d : CeD) : Bool := inR 65536 d.bits && inR n d.s0 && inR n d.s1 && inR n d.s2 && inR n d.s3
def RgD.ok (n : Int) (d : RgD) : Bool := inR n d.sel
def colOk (N : CnD) (i : Nat) : Bool := match N.cols[i]? with | some d => decide ((d.cs.length : Int) = N.sh.rows) && d.cs.all (CeD.ok (N.sh.src i)) | none => true
theorem colOk_of {N : CnD} {k : Nat} {d : ClD} (h : N.cols[k]? = some d) : colOk N k = (decide ((d.cs.length : Int) = N.sh.rows) && d.cs.all (CeD.ok (N.sh.src k))) := by unfold colOk; rw [h]
def CnD.lens (N : CnD) : Bool := decide ((N.cols.length : Int) = N.sh.cols) && decide ((N.regs.length : Int) = N.sh.regs) && decide ((N.outs.length : Int) = N.sh.outs)
def CnOk (N : CnD) : Bool := N.sh.ok && N.lens && (List.range N.cols.length).all (colOk N) && N.regs.all (RgD.ok (N.sh.src (-1))) && N.outs.all (inR (N.sh.src (-1)))
set_option maxRecDepth 100000 in
set_option maxHeartbeats 16000000 in
theorem sources_doc (w : World) (s : ShD) (i : Int) (h : s.fits) :
    Calls Tryd.prog 26 #[.agg s.arr, .int .i64 i] w fun e w' => e = .returned (.int .i64 (s.src i)) ∧ Below w.heap.size w w' := by
  obtain ⟨⟨h0, h1⟩, ⟨h2, h3⟩, h4, h5⟩ := h
  unfold ShD.arr
  by_cases hi : i = 0
  · have e1 : s.src i = 2 + s.ins + s.regs := by unfold ShD.src; rw [if_pos hi]
    rw [e1]
    subst hi
    have x1 : IntKind.i64.wrap (2 + s.ins) = 2 + s.ins := wrapI _ (by omega) (by omega)
    have x2 : IntKind.i64.wrap (2 + s.ins + s.regs) = 2 + s.ins + s.regs := wrapI _ (by omega) (by omega)
    go_enter Tryd.func26, Tryd.ntmps26
    go_wp2
    go_ret
    exact ⟨ret_int rfl, (Below.refl _ _).alloc (Nat.le_refl _) _⟩
  · have e1 : s.src i = 2 + s.rows := by unfold ShD.src; rw [if_neg hi]
    rw [e1]
    have x1 : IntKind.i64.wrap (2 + s.rows) = 2 + s.rows := wrapI _ (by omega) (by omega)
    have hb : (i == 0) = false := beq_eq_false_iff_ne.2 hi
    go_enter Tryd.func26, Tryd.ntmps26
    go_wp2
    go_ret
    exact ⟨ret_int rfl, (Below.refl _ _).alloc (Nat.le_refl _) _⟩
set_option maxRecDepth 100000 in
set_option maxHeartbeats 16000000 in
theorem shapeValid_doc (w : World) (s : ShD) :
    Calls Tryd.prog 23 #[.agg s.arr] w fun e w' => e = .returned (.bool s.ok) ∧ Below w.heap.size w w' := by
  have HE : Hid (s.ok = (wi s.ins 0 500 && wi s.outs 0 500 && wi s.regs 0 500 && wi s.rows 1 500 && wi s.cols 1 100)) := rfl
  obtain ⟨r, HR⟩ : ∃ r, Hid (s.ok = r) := ⟨_, rfl⟩
  rw [HR.out] at HE ⊢
  unfold ShD.arr
  obtain ⟨x0, x1, x2, x3, x4⟩ := s
  dsimp only at *
  unfold wi at HE
  by_cases g0 : 0 ≤ x0
  rotate_left
  · have d0 : decide (0 ≤ x0) = false := decide_eq_false g0
    go_enter Tryd.func23, Tryd.ntmps23
    go_wp2
    go_ret
    exact ⟨ret_bool (by rw [HE.out, decide_eq_false (p := 0 ≤ x0 ∧ x0 ≤ 500) (by omega)]; simp), (Below.refl _ _).alloc (Nat.le_refl _) _⟩
  by_cases k0 : x0 ≤ 500
  rotate_left
  · have d0 : decide (x0 ≤ 500) = false := decide_eq_false k0
    go_enter Tryd.func23, Tryd.ntmps23
    go_wp2
    go_ret
    exact ⟨ret_bool (by rw [HE.out, decide_eq_false (p := 0 ≤ x0 ∧ x0 ≤ 500) (by omega)]; simp), (Below.refl _ _).alloc (Nat.le_refl _) _⟩
  by_cases g1 : 0 ≤ x1
  rotate_left
  · have d1 : decide (0 ≤ x1) = false := decide_eq_false g1
    go_enter Tryd.func23, Tryd.ntmps23
    go_wp2
    go_ret
    exact ⟨ret_bool (by rw [HE.out, decide_eq_true (p := 0 ≤ x0 ∧ x0 ≤ 500) ⟨g0, k0⟩, decide_eq_false (p := 0 ≤ x1 ∧ x1 ≤ 500) (by omega)]; simp), (Below.refl _ _).alloc (Nat.le_refl _) _⟩
  by_cases k1 : x1 ≤ 500
  rotate_left
  · have d1 : decide (x1 ≤ 500) = false := decide_eq_false k1
    go_enter Tryd.func23, Tryd.ntmps23
    go_wp2
    go_ret
    exact ⟨ret_bool (by rw [HE.out, decide_eq_true (p := 0 ≤ x0 ∧ x0 ≤ 500) ⟨g0, k0⟩, decide_eq_false (p := 0 ≤ x1 ∧ x1 ≤ 500) (by omega)]; simp), (Below.refl _ _).alloc (Nat.le_refl _) _⟩
  by_cases g2 : 0 ≤ x2
  rotate_left
  · have d2 : decide (0 ≤ x2) = false := decide_eq_false g2
    go_enter Tryd.func23, Tryd.ntmps23
    go_wp2
    go_ret
    exact ⟨ret_bool (by rw [HE.out, decide_eq_true (p := 0 ≤ x0 ∧ x0 ≤ 500) ⟨g0, k0⟩, decide_eq_true (p := 0 ≤ x1 ∧ x1 ≤ 500) ⟨g1, k1⟩, decide_eq_false (p := 0 ≤ x2 ∧ x2 ≤ 500) (by omega)]; simp), (Below.refl _ _).alloc (Nat.le_refl _) _⟩
  by_cases k2 : x2 ≤ 500
  rotate_left
  · have d2 : decide (x2 ≤ 500) = false := decide_eq_false k2
    go_enter Tryd.func23, Tryd.ntmps23
    go_wp2
    go_ret
    exact ⟨ret_bool (by rw [HE.out, decide_eq_true (p := 0 ≤ x0 ∧ x0 ≤ 500) ⟨g0, k0⟩, decide_eq_true (p := 0 ≤ x1 ∧ x1 ≤ 500) ⟨g1, k1⟩, decide_eq_false (p := 0 ≤ x2 ∧ x2 ≤ 500) (by omega)]; simp), (Below.refl _ _).alloc (Nat.le_refl _) _⟩
  by_cases g3 : 1 ≤ x3
  rotate_left
  · have d3 : decide (1 ≤ x3) = false := decide_eq_false g3
    go_enter Tryd.func23, Tryd.ntmps23
    go_wp2
    go_ret
    exact ⟨ret_bool (by rw [HE.out, decide_eq_true (p := 0 ≤ x0 ∧ x0 ≤ 500) ⟨g0, k0⟩, decide_eq_true (p := 0 ≤ x1 ∧ x1 ≤ 500) ⟨g1, k1⟩, decide_eq_true (p := 0 ≤ x2 ∧ x2 ≤ 500) ⟨g2, k2⟩, decide_eq_false (p := 1 ≤ x3 ∧ x3 ≤ 500) (by omega)]; simp), (Below.refl _ _).alloc (Nat.le_refl _) _⟩
  by_cases k3 : x3 ≤ 500
  rotate_left
  · have d3 : decide (x3 ≤ 500) = false := decide_eq_false k3
    go_enter Tryd.func23, Tryd.ntmps23
    go_wp2
    go_ret
    exact ⟨ret_bool (by rw [HE.out, decide_eq_true (p := 0 ≤ x0 ∧ x0 ≤ 500) ⟨g0, k0⟩, decide_eq_true (p := 0 ≤ x1 ∧ x1 ≤ 500) ⟨g1, k1⟩, decide_eq_true (p := 0 ≤ x2 ∧ x2 ≤ 500) ⟨g2, k2⟩, decide_eq_false (p := 1 ≤ x3 ∧ x3 ≤ 500) (by omega)]; simp), (Below.refl _ _).alloc (Nat.le_refl _) _⟩
  by_cases g4 : 1 ≤ x4
  rotate_left
  · have d4 : decide (1 ≤ x4) = false := decide_eq_false g4
    go_enter Tryd.func23, Tryd.ntmps23
    go_wp2
    go_ret
    exact ⟨ret_bool (by rw [HE.out, decide_eq_true (p := 0 ≤ x0 ∧ x0 ≤ 500) ⟨g0, k0⟩, decide_eq_true (p := 0 ≤ x1 ∧ x1 ≤ 500) ⟨g1, k1⟩, decide_eq_true (p := 0 ≤ x2 ∧ x2 ≤ 500) ⟨g2, k2⟩, decide_eq_true (p := 1 ≤ x3 ∧ x3 ≤ 500) ⟨g3, k3⟩, decide_eq_false (p := 1 ≤ x4 ∧ x4 ≤ 100) (by omega)]; simp), (Below.refl _ _).alloc (Nat.le_refl _) _⟩
  by_cases k4 : x4 ≤ 100
  rotate_left
  · have d4 : decide (x4 ≤ 100) = false := decide_eq_false k4
    go_enter Tryd.func23, Tryd.ntmps23
    go_wp2
    go_ret
    exact ⟨ret_bool (by rw [HE.out, decide_eq_true (p := 0 ≤ x0 ∧ x0 ≤ 500) ⟨g0, k0⟩, decide_eq_true (p := 0 ≤ x1 ∧ x1 ≤ 500) ⟨g1, k1⟩, decide_eq_true (p := 0 ≤ x2 ∧ x2 ≤ 500) ⟨g2, k2⟩, decide_eq_true (p := 1 ≤ x3 ∧ x3 ≤ 500) ⟨g3, k3⟩, decide_eq_false (p := 1 ≤ x4 ∧ x4 ≤ 100) (by omega)]; simp), (Below.refl _ _).alloc (Nat.le_refl _) _⟩
  go_enter Tryd.func23, Tryd.ntmps23
  go_wp2
  go_ret
  exact ⟨ret_bool (by rw [HE.out, decide_eq_true (p := 0 ≤ x0 ∧ x0 ≤ 500) ⟨g0, k0⟩, decide_eq_true (p := 0 ≤ x1 ∧ x1 ≤ 500) ⟨g1, k1⟩, decide_eq_true (p := 0 ≤ x2 ∧ x2 ≤ 500) ⟨g2, k2⟩, decide_eq_true (p := 1 ≤ x3 ∧ x3 ≤ 500) ⟨g3, k3⟩, decide_eq_true (p := 1 ≤ x4 ∧ x4 ≤ 100) ⟨g4, k4⟩]; rfl), (Below.refl _ _).alloc (Nat.le_refl _) _⟩
/-- a block's cells -/
def Blk (w : World) (b : Nat) (t : TypeId) (arr : Array Value) : Prop := w.heap[b]? = some (.cells arr t (0, 0))
theorem Blk.lt {w : World} {b : Nat} {t : TypeId} {arr : Array Value} (h : Blk w b t arr) : b < w.heap.size := (Array.getElem?_eq_some_iff.1 h).1
theorem Blk.cell {w : World} {b : Nat} {t : TypeId} {arr : Array Value} (h : Blk w b t arr) {i : Nat} {v : Value} (hv : arr[i]? = some v) : w.cell? ⟨b, i, none⟩ = some v := by
  simp [World.cell?, show w.heap[b]? = _ from h, hv]
theorem Blk.frozen {w : World} {b : Nat} {t : TypeId} {arr : Array Value} (h : Blk w b t arr) (i : Nat) : w.frozen? ⟨b, i, none⟩ = false := by
  simp [World.frozen?, show w.heap[b]? = _ from h]
theorem Blk.set {w : World} {b : Nat} {t : TypeId} {arr : Array Value} (h : Blk w b t arr) (i : Nat) (v : Value) : Blk (w.setCell ⟨b, i, none⟩ v) b t (arr.setIfInBounds i v) := by
  obtain ⟨hlt, hk⟩ := Array.getElem?_eq_some_iff.1 h
  show (w.heap.modify b _)[b]? = _
  rw [Array.getElem?_eq_getElem (by rw [Array.size_modify]; exact hlt), Array.getElem_modify_self, hk]
  rfl
theorem Blk.new (w : World) (t : TypeId) (arr : Array Value) : Blk (w.alloc (.cells arr t)) w.heap.size t arr := by
  show (w.heap.push _)[w.heap.size]? = _
  simp
/-- all blocks but one are as they were -/
structure But (g : Nat) (w w' : World) : Prop where
  os : w'.os = w.os
  tape : w'.tape = w.tape
  output : w'.output = w.output
  size : w.heap.size ≤ w'.heap.size
  block : ∀ k, k < w.heap.size → k ≠ g → w'.heap[k]? = w.heap[k]?
theorem But.refl (g : Nat) (w : World) : But g w w := ⟨rfl, rfl, rfl, Nat.le_refl _, fun _ _ _ => rfl⟩
theorem But.trans {g : Nat} {a b c : World} (h : But g a b) (k : But g b c) : But g a c :=
  ⟨k.os.trans h.os, k.tape.trans h.tape, k.output.trans h.output, Nat.le_trans h.size k.size, fun i hi hg => (k.block i (Nat.lt_of_lt_of_le hi h.size) hg).trans (h.block i hi hg)⟩
theorem But.set (g i : Nat) (w : World) (v : Value) : But g w (w.setCell ⟨g, i, none⟩ v) := ⟨rfl, rfl, rfl, by simp [World.setCell], fun k _ hk => Below.heap_setCell _ _ _ k hk⟩
theorem But.drewN {g : Nat} {a w : World} (h : But g a w) (n : Nat) : But g a (w.drewN n) := ⟨h.os, h.tape, h.output, h.size, h.block⟩
theorem But.below {B g : Nat} {a w : World} (h : But g a w) (hB : B ≤ g) (hs : B ≤ a.heap.size) : Below B a w := ⟨h.os, h.tape, h.output, h.size, fun k hk => h.block k (by omega) (by omega)⟩
theorem Below.but {g : Nat} {a w : World} (h : Below a.heap.size a w) : But g a w := ⟨h.os, h.tape, h.output, h.size, fun k hk _ => h.block k hk⟩
theorem But.blk {g b : Nat} {a w : World} {t : TypeId} {arr : Array Value} (h : But g a w) (hb : Blk a b t arr) (hne : b ≠ g) : Blk w b t arr := (h.block b hb.lt hne).trans hb
theorem Blk.below {b : Nat} {a w : World} {t : TypeId} {arr : Array Value} (hb : Blk a b t arr) (h : Below a.heap.size a w) : Blk w b t arr := (h.block b hb.lt).trans hb
theorem Blk.drewN {b : Nat} {w : World} {t : TypeId} {arr : Array Value} (hb : Blk w b t arr) (n : Nat) : Blk (w.drewN n) b t arr := hb
theorem getD_of {α : Type} {l : List α} {k : Nat} {x d : α} (h : l[k]? = some x) : l.getD k d = x := by rw [List.getD_eq_getElem?_getD, h]; rfl
def flatC (ds : List CeD) : List Value := ds.flatMap CeD.cells
/-- all blocks but these are as they were -/
structure Kp (gs : List Nat) (w w' : World) : Prop where
  os : w'.os = w.os
  tape : w'.tape = w.tape
  output : w'.output = w.output
  size : w.heap.size ≤ w'.heap.size
  block : ∀ k, k < w.heap.size → k ∉ gs → w'.heap[k]? = w.heap[k]?
theorem Kp.refl (gs : List Nat) (w : World) : Kp gs w w := ⟨rfl, rfl, rfl, Nat.le_refl _, fun _ _ _ => rfl⟩
theorem Kp.trans {gs : List Nat} {a b c : World} (h : Kp gs a b) (k : Kp gs b c) : Kp gs a c :=
  ⟨k.os.trans h.os, k.tape.trans h.tape, k.output.trans h.output, Nat.le_trans h.size k.size, fun i hi hg => (k.block i (Nat.lt_of_lt_of_le hi h.size) hg).trans (h.block i hi hg)⟩
theorem But.kp {g : Nat} {gs : List Nat} {a w : World} (h : But g a w) (hg : g ∈ gs) : Kp gs a w := ⟨h.os, h.tape, h.output, h.size, fun k hk hn => h.block k hk (fun e => hn (e ▸ hg))⟩
theorem Below.kp {gs : List Nat} {a w : World} (h : Below a.heap.size a w) : Kp gs a w := ⟨h.os, h.tape, h.output, h.size, fun k hk _ => h.block k hk⟩
theorem Kp.set (gs : List Nat) (g i : Nat) (w : World) (v : Value) (hg : g ∈ gs) : Kp gs w (w.setCell ⟨g, i, none⟩ v) := (But.set g i w v).kp hg
theorem Kp.drewN {gs : List Nat} {a w : World} (h : Kp gs a w) (n : Nat) : Kp gs a (w.drewN n) := ⟨h.os, h.tape, h.output, h.size, h.block⟩
theorem Kp.drew {gs : List Nat} {a w : World} (h : Kp gs a w) : Kp gs a w.drew := ⟨h.os, h.tape, h.output, h.size, h.block⟩
/-- what was made since may be left out -/
theorem Kp.less {gs hs : List Nat} {a w : World} (h : Kp gs a w) (hn : ∀ g, g ∈ gs → g ∉ hs → a.heap.size ≤ g) : Kp hs a w :=
  ⟨h.os, h.tape, h.output, h.size, fun k hk hx => h.block k hk (fun hg => by have := hn k hg hx; omega)⟩
theorem Kp.blk {gs : List Nat} {b : Nat} {a w : World} {t : TypeId} {arr : Array Value} (h : Kp gs a w) (hb : Blk a b t arr) (hne : b ∉ gs) : Blk w b t arr := (h.block b hb.lt hne).trans hb
theorem Kp.below {B : Nat} {gs : List Nat} {a w : World} (h : Kp gs a w) (hg : ∀ g, g ∈ gs → B ≤ g) (hs : B ≤ a.heap.size) : Below B a w := ⟨h.os, h.tape, h.output, h.size, fun k hk => h.block k (by omega) (fun hx => by have := hg k hx; omega)⟩
theorem Kp.but {g : Nat} {a w : World} (h : Kp [g] a w) : But g a w := ⟨h.os, h.tape, h.output, h.size, fun k hk hn => h.block k hk (by simpa using hn)⟩
theorem But.grown {g : Nat} {w w' : World} (h : But g w w') : w.grownBy w' (some g) := ⟨h.os, h.tape, h.output, h.size, fun k hk hn => h.block k hk (fun e => hn (by rw [e]))⟩
/-- rows of other types lie in other blocks -/
theorem own_ne {w : World} {b1 b2 s1 s2 n1 n2 : Nat} {e1 e2 : TypeId} {v1 v2 : Value} {x1 x2 : List Value} (h1 : w.ownsRow b1 e1 s1 v1 n1 x1) (h2 : w.ownsRow b2 e2 s2 v2 n2 x2) (he : e1 ≠ e2) : v2.ownBlock = none ∨ v2.ownBlock ≠ v1.ownBlock := by
  rcases h2.2 with ⟨rfl, _⟩ | ⟨g, cap, cur, rfl, _, hg, _⟩
  · exact .inl rfl
  · refine .inr (fun e => ?_)
    rcases h1.2 with ⟨rfl, _⟩ | ⟨g', cap', cur', rfl, _, hg', _⟩
    · simp [Value.ownBlock] at e
    · simp [Value.ownBlock] at e
      subst e
      rw [hg'] at hg
      simp at hg
      exact he hg.2
def ClD.val (d : ClD) : Value := .slice d.a d.cs.length d.c
def intV (x : Int) : Value := .int .i64 x
def cfA (s : ShD) (v1 v2 v3 : Value) : Array Value := #[.int .i64 s.ins, .int .i64 s.outs, .int .i64 s.regs, .int .i64 s.rows, .int .i64 s.cols, v1, v2, v3]
/-- a configuration that is being made, in a box -/
structure CbAt (base : Nat) (w : World) (cb : Nat) (s : ShD) (v1 v2 v3 : Value) (cols : List ClD) (regs : List RgD) (outs : List Int) : Prop where
  lt : cb < base
  box : Blk w cb 36 (cfA s v1 v2 v3)
  o1 : w.ownsRow base 66 1 v1 cols.length (cols.map ClD.val)
  o2 : w.ownsRow base 72 2 v2 regs.length (regs.flatMap RgD.cells)
  o3 : w.ownsRow base 3 1 v3 outs.length (outs.map intV)
  cc : ∀ d, d ∈ cols → w.ownsRow base 69 5 d.val d.cs.length (flatC d.cs)
theorem own_but {g base n sz : Nat} {w w' : World} {e : TypeId} {v : Value} {xs : List Value} (h : w.ownsRow base e sz v n xs) (hb : But g w w') (hg : g < base) : w'.ownsRow base e sz v n xs :=
  h.kept hb.grown (.inr (fun e => by have := (h.lt g e).1; omega))
theorem CbAt.but {base : Nat} {w w' : World} {cb g : Nat} {s : ShD} {v1 v2 v3 : Value} {cols : List ClD} {regs : List RgD} {outs : List Int} (h : CbAt base w cb s v1 v2 v3 cols regs outs) (hb : But g w w') (hg : g < base) (hne : cb ≠ g) : CbAt base w' cb s v1 v2 v3 cols regs outs :=
  ⟨h.lt, hb.blk h.box hne, own_but h.o1 hb hg, own_but h.o2 hb hg, own_but h.o3 hb hg, fun d hd => own_but (h.cc d hd) hb hg⟩
theorem RowAt.take {α : Type} {f : α → List Value} {B : Nat} {w : World} {a : Option Addr} {sz : Nat} {l : List α} (h : RowAt B w a sz (l.map f)) (n : Nat) : RowAt B w a sz ((l.take n).map f) := fun hne => by
  have hl : l ≠ [] := fun e => by subst e; simp at hne
  obtain ⟨b, o, ha, hlt, hc⟩ := h (by simpa using hl)
  refine ⟨b, o, ha, hlt, fun i cs hi => hc i cs ?_⟩
  rw [List.getElem?_map] at hi ⊢
  rw [List.getElem?_take] at hi
  split at hi
  · exact hi
  · simp at hi
theorem RowAt.drop {α : Type} {f : α → List Value} {B : Nat} {w : World} {b o : Nat} {l : List α} (h : RowAt B w (some ⟨b, o, none⟩) 1 (l.map f)) (n : Nat) : RowAt B w (some ⟨b, o + n, none⟩) 1 ((l.drop n).map f) := fun hne => by
  have hl : l ≠ [] := fun e => by subst e; simp at hne
  obtain ⟨b', o', ha, hlt, hc⟩ := h (by simpa using hl)
  simp only [Option.some.injEq, Addr.mk.injEq, and_true] at ha
  obtain ⟨rfl, rfl⟩ := ha
  refine ⟨b, o + n, rfl, hlt, fun i cs hi j x hx => ?_⟩
  rw [List.getElem?_map, List.getElem?_drop, ← List.getElem?_map] at hi
  have := hc (n + i) cs hi j x hx
  rw [show o + n + i * 1 + j = o + (n + i) * 1 + j by omega]
  exact this
theorem But.drew {g : Nat} {a w : World} (h : But g a w) : But g a w.drew := ⟨h.os, h.tape, h.output, h.size, h.block⟩
theorem Blk.drew {w : World} {b : Nat} {t : TypeId} {arr : Array Value} (h : Blk w b t arr) : Blk w.drew b t arr := h
/-! What a fabric shows (pure) -/
def cellV (d : CeD) (v : List Bool) : Bool := bitAt d.bits (spell [sV v d.s0, sV v d.s1, sV v d.s2, sV v d.s3])
def colV (v : List Bool) (cs : List CeD) : List Bool := [false, true] ++ cs.map fun d => cellV d v
def inC (n : Nat) (row : List Bool) : List Bool := (List.range n).map fun i => row[i]?.getD false
def cycC (N : CnD) (row st : List Bool) : List Bool := N.cols.foldl (fun v d => colV v d.cs) ([false, true] ++ inC N.sh.ins.toNat row ++ st)
def outC (N : CnD) (v : List Bool) : List Bool := N.outs.map (sV v)
def nextC (N : CnD) (v : List Bool) : List Bool := N.regs.map fun d => sV v d.sel
def stC (N : CnD) (st : List Bool) (tr : List (List Bool)) : List Bool := tr.foldl (fun st r => nextC N (cycC N r st)) st
def runC (N : CnD) : List (List Bool) → List Bool → List (List Bool)
  | [], _ => []
  | r :: t, st => outC N (cycC N r st) :: runC N t (nextC N (cycC N r st))
theorem runC_snoc (N : CnD) (l : List (List Bool)) (r : List Bool) (st : List Bool) : runC N (l ++ [r]) st = runC N l st ++ [outC N (cycC N r (stC N st l))] := by
  induction l generalizing st with
  | nil => rfl
  | cons a t ih => simp only [List.cons_append, runC, ih]; rfl
theorem stC_snoc (N : CnD) (l : List (List Bool)) (r : List Bool) (st : List Bool) : stC N st (l ++ [r]) = nextC N (cycC N r (stC N st l)) := by
  unfold stC; rw [List.foldl_append]; rfl
theorem But.cell {g : Nat} {w w' : World} (h : But g w w') {p : Addr} {v : Value} (hv : w.cell? p = some v) (hne : p.block ≠ g) : w'.cell? p = some v :=
  h.grown.cell hv (by intro e; exact hne (Option.some.inj e))
/-- the columns one after the other, each told from the one before -/
def colsC (v : List Bool) (cs : List ClD) : List Bool := cs.foldl (fun v d => colV v d.cs) v
theorem inC_length (n : Nat) (row : List Bool) : (inC n row).length = n := by unfold inC; simp
theorem Kp.cell {gs : List Nat} {w w' : World} (h : Kp gs w w') {p : Addr} {v : Value} (hv : w.cell? p = some v) (hp : p.block < w.heap.size) (hne : p.block ∉ gs) : w'.cell? p = some v := by
  rw [← hv]; unfold World.cell?; rw [h.block p.block hp hne]
/-- a configuration that the bits tell, and that the loader takes, in numbers -/
structure FitN (N : CnD) (ni nr nw : Nat) : Prop where
  ins : N.sh.ins = (ni : Int)
  regs : N.sh.regs = (nr : Int)
  rows : N.sh.rows = (nw : Int)
  b0 : ni ≤ 500
  b1 : nr ≤ 500
  b2 : 1 ≤ nw ∧ nw ≤ 500
  nc : 1 ≤ N.cols.length
  rl : N.regs.length = nr
  ol : N.outs.length ≤ 500
  cl : ∀ d, d ∈ N.cols → 2 + d.cs.length = 2 + nw
  ok : ∀ (k : Nat) (d : ClD), N.cols[k]? = some d → ∀ e, e ∈ d.cs → (0 ≤ e.s0 ∧ 0 ≤ e.s1 ∧ 0 ≤ e.s2 ∧ 0 ≤ e.s3) ∧ (e.s0 < (if k = 0 then 2 + ni + nr else 2 + nw : Nat) ∧ e.s1 < (if k = 0 then 2 + ni + nr else 2 + nw : Nat) ∧ e.s2 < (if k = 0 then 2 + ni + nr else 2 + nw : Nat) ∧ e.s3 < (if k = 0 then 2 + ni + nr else 2 + nw : Nat))
  rg : ∀ d, d ∈ N.regs → 0 ≤ d.sel ∧ d.sel < ((2 + nw : Nat) : Int)
  ou : ∀ s, s ∈ N.outs → 0 ≤ s ∧ s < ((2 + nw : Nat) : Int)
theorem cyc_cols (N : CnD) (ni : Nat) (hni : N.sh.ins = (ni : Int)) (row st : List Bool) : colsC ([false, true] ++ (inC ni row ++ st)) N.cols = cycC N row st := by
  unfold colsC cycC
  rw [hni, Int.toNat_natCast, List.append_assoc]
theorem BS.kp {gs : List Nat} {w w' : World} {v : Value} {l : List Bool} (h : BS w v l) (hk : Kp gs w w') (hne : ∀ x, v.ownBlock = some x → x ∉ gs) : BS w' v l := by
  rcases h with h | ⟨b, o, c, rfl, hb, hc⟩
  · exact .inl h
  · exact .inr ⟨b, o, c, rfl, Nat.lt_of_lt_of_le hb hk.size, fun i x hx => hk.cell (hc i x hx) hb (hne b rfl)⟩
theorem Kp.more {gs hs : List Nat} {a w : World} (h : Kp gs a w) (hn : ∀ g, g ∈ gs → g ∈ hs) : Kp hs a w :=
  ⟨h.os, h.tape, h.output, h.size, fun k hk hg => h.block k hk (fun hx => hg (hn k hx))⟩
theorem cols_len (v : List Bool) (cs : List ClD) (nl : Nat) (h : ∀ d, d ∈ cs → 2 + d.cs.length = nl) (hv : cs = [] → v.length = nl) : (colsC v cs).length = nl := by
  induction cs generalizing v with
  | nil => exact hv rfl
  | cons d t ih =>
    refine ih (colV v d.cs) (fun x hx => h x (List.mem_cons_of_mem _ hx)) (fun _ => ?_)
    have := h d (List.mem_cons_self ..)
    unfold colV
    simp
    omega
theorem RowsAt.to {w w' : World} {a : Option Addr} {rows : List RD} (h : RowsAt w a rows) (hb : Below w.heap.size w w') : RowsAt w' a rows := fun i r hr => by
  obtain ⟨b, o, ha, hlt, hc, hbs⟩ := h i r hr
  exact ⟨b, o, ha, Nat.lt_of_lt_of_le hlt hb.size, (hb.cell (p := ⟨b, o + i, none⟩) hlt).trans hc, hbs.to hb⟩
/-! What two readers of the same bytes show is the same (pure) -/


end Go.Proofs.YtibjgoigdajkkaaDoor
