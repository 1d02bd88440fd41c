import Derived.Test.YtlkhmcajedjojaaJ01
import Derived.Deep.QuietTactic
import Derived.BigQuiet
namespace Go.Proofs.Ytlkhmcajedjojaa
open Go.RowKit

/-- elements of so many cells behind an address -/
def RowAt (B : Nat) (w : World) (a : Option Addr) (sz : Nat) (els : List (List Value)) : Prop :=
  els ≠ [] → ∃ b o, a = some ⟨b, o, none⟩ ∧ b < B ∧ ∀ (i : Nat) (cs : List Value), els[i]? = some cs → ∀ (j : Nat) (x : Value), cs[j]? = some x → w.cell? ⟨b, o + i * sz + j, none⟩ = some x
theorem RowAt.to {B : Nat} {w w' : World} {a : Option Addr} {sz : Nat} {els : List (List Value)} (h : RowAt B w a sz els) (hb : Below B w w') : RowAt B w' a sz els := fun he => by
  obtain ⟨b, o, ha, hlt, hc⟩ := h he
  exact ⟨b, o, ha, hlt, fun i cs h1 j x h2 => (hb.cell (p := ⟨b, o + i * sz + j, none⟩) hlt).trans (hc i cs h1 j x h2)⟩
theorem RowAt.mono {B B' : Nat} {w : World} {a : Option Addr} {sz : Nat} {els : List (List Value)} (h : RowAt B w a sz els) (hb : B ≤ B') : RowAt B' w a sz els := fun he => by
  obtain ⟨b, o, ha, hlt, hc⟩ := h he
  exact ⟨b, o, ha, Nat.lt_of_lt_of_le hlt hb, hc⟩
/-- an element of it -/
theorem RowAt.el {B : Nat} {w : World} {a : Option Addr} {sz : Nat} {α : Type} {f : α → List Value} {xs : List α} (h : RowAt B w a sz (xs.map f)) {i : Nat} {x : α} (hx : xs[i]? = some x) :
    ∃ b o, a = some ⟨b, o, none⟩ ∧ b < B ∧ ∀ (j : Nat) (v : Value), (f x)[j]? = some v → w.cell? ⟨b, o + i * sz + j, none⟩ = some v := by
  obtain ⟨b, o, ha, hlt, hc⟩ := h (by intro e; have : xs = [] := List.map_eq_nil_iff.1 e; rw [this] at hx; simp at hx)
  exact ⟨b, o, ha, hlt, hc i (f x) (by simp [hx])⟩
def intC (x : Int) : List Value := [.int .i64 x]

structure NodeD where
  kind : Int
  width : Int
  num : Int
  args : List Int
  aa : Option Addr
  ac : Nat
def NodeD.cells (d : NodeD) : List Value := [.int .i64 d.kind, .int .i64 d.width, .int .u64 d.num, .slice d.aa d.args.length d.ac]
structure RegD where
  width : Int
  init : Int
  next : Int
def RegD.cells (d : RegD) : List Value := [.int .i64 d.width, .int .u64 d.init, .int .i64 d.next]
structure MemD where
  width : Int
  words : Int
def MemD.cells (d : MemD) : List Value := [.int .i64 d.width, .int .i64 d.words]
structure WrD where
  mem : Int
  when_ : Int
  addr : Int
  data : Int
def WrD.cells (d : WrD) : List Value := [.int .i64 d.mem, .int .i64 d.when_, .int .i64 d.addr, .int .i64 d.data]
structure NetD where
  ins : List Int
  nodes : List NodeD
  regs : List RegD
  mems : List MemD
  wrs : List WrD
  outs : List Int
/-- the six slices -/
structure NetS where
  a0 : Option Addr
  c0 : Nat
  a1 : Option Addr
  c1 : Nat
  a2 : Option Addr
  c2 : Nat
  a3 : Option Addr
  c3 : Nat
  a4 : Option Addr
  c4 : Nat
  a5 : Option Addr
  c5 : Nat
def NetS.cells (S : NetS) (N : NetD) : Array Value := #[.slice S.a0 N.ins.length S.c0, .slice S.a1 N.nodes.length S.c1, .slice S.a2 N.regs.length S.c2, .slice S.a3 N.mems.length S.c3, .slice S.a4 N.wrs.length S.c4, .slice S.a5 N.outs.length S.c5]
/-- no list that is longer than memory is -/
def big : Nat := 17592186044416
structure NetAt (B : Nat) (w : World) (S : NetS) (N : NetD) : Prop where
  i : RowAt B w S.a0 1 (N.ins.map intC)
  n : RowAt B w S.a1 4 (N.nodes.map NodeD.cells)
  r : RowAt B w S.a2 3 (N.regs.map RegD.cells)
  m : RowAt B w S.a3 2 (N.mems.map MemD.cells)
  wr : RowAt B w S.a4 4 (N.wrs.map WrD.cells)
  o : RowAt B w S.a5 1 (N.outs.map intC)
  na : ∀ d, d ∈ N.nodes → RowAt B w d.aa 1 (d.args.map intC) ∧ 0 ≤ d.num ∧ d.num < 18446744073709551616 ∧ d.args.length < big
  ra : ∀ d, d ∈ N.regs → 0 ≤ d.init ∧ d.init < 18446744073709551616
  li : N.ins.length < big
  ln : N.nodes.length < big
  lr : N.regs.length < big
  lm : N.mems.length < big
  lw : N.wrs.length < big
  lo : N.outs.length < big
theorem NetAt.to {B : Nat} {w w' : World} {S : NetS} {N : NetD} (h : NetAt B w S N) (hb : Below B w w') : NetAt B w' S N :=
  ⟨h.i.to hb, h.n.to hb, h.r.to hb, h.m.to hb, h.wr.to hb, h.o.to hb, fun d hd => ⟨(h.na d hd).1.to hb, (h.na d hd).2⟩, h.ra, h.li, h.ln, h.lr, h.lm, h.lw, h.lo⟩
theorem NetAt.mono {B B' : Nat} {w : World} {S : NetS} {N : NetD} (h : NetAt B w S N) (hb : B ≤ B') : NetAt B' w S N :=
  ⟨h.i.mono hb, h.n.mono hb, h.r.mono hb, h.m.mono hb, h.wr.mono hb, h.o.mono hb, fun d hd => ⟨(h.na d hd).1.mono hb, (h.na d hd).2⟩, h.ra, h.li, h.ln, h.lr, h.lm, h.lw, h.lo⟩

/-- is there a node of that width? -/
def wideOf (N : NetD) (i x : Int) : Bool := decide (0 ≤ i ∧ ∃ d, N.nodes[i.toNat]? = some d ∧ d.width = x)

set_option maxHeartbeats 4000000 in
theorem wideNode_any (B : Nat) (w : World) (S : NetS) (N : NetD) (h : NetAt B w S N) (hB : B ≤ w.heap.size) (i x : Int) :
    Calls Try.prog 21 #[.agg (S.cells N), .int .i64 i, .int .i64 x] w fun e w' => e = .returned (.bool (wideOf N i x)) ∧ Below w.heap.size w w' := by
  unfold NetS.cells
  by_cases h0 : (0 : Int) ≤ i
  · by_cases h1 : i < (N.nodes.length : Int)
    · obtain ⟨d, hd⟩ : ∃ d, N.nodes[i.toNat]? = some d := ⟨N.nodes[i.toNat]'(by omega), List.getElem?_eq_getElem (by omega)⟩
      obtain ⟨b, o, ha, hlt, hc⟩ := h.n.el hd
      have c1 := hc 1 _ rfl
      have hb : b < w.heap.size := Nat.lt_of_lt_of_le hlt hB
      have e : wideOf N i x = decide (d.width = x) := by unfold wideOf; rw [hd]; simp [h0]
      rw [e, ha]
      clear e ha hc h hd
      by_cases h2 : d.width = x
      · rw [h2] at c1; simp only [h2]
        go_enter Try.func21, Try.ntmps21
        go_wp2
        go_ret
        exact ⟨rfl, (Below.refl _ _).alloc (Nat.le_refl _) _⟩
      · go_enter Try.func21, Try.ntmps21
        go_wp2
        go_ret
        exact ⟨by simp [h2], (Below.refl _ _).alloc (Nat.le_refl _) _⟩
    · have e : wideOf N i x = false := by unfold wideOf; rw [List.getElem?_eq_none (by omega)]; simp
      rw [e]; clear e
      go_enter Try.func21, Try.ntmps21
      go_wp2
      go_ret
      exact ⟨rfl, (Below.refl _ _).alloc (Nat.le_refl _) _⟩
  · have e : wideOf N i x = false := by unfold wideOf; simp [h0]
    rw [e]; clear e
    go_enter Try.func21, Try.ntmps21
    go_wp2
    go_ret
    exact ⟨rfl, (Below.refl _ _).alloc (Nat.le_refl _) _⟩

end Go.Proofs.Ytlkhmcajedjojaa

namespace Go.Proofs.Ytlkhmcajedjojaa
open Go.RowKit

theorem Below.drewN {B : Nat} {a w : World} (h : Below B a w) (n : Nat) : Below B a (w.drewN n) := ⟨h.os, h.tape, h.output, h.size, h.block⟩

theorem hidden {p : Prop} (h : p) : Hid p := h
def at0 (l : List Int) (k : Nat) : Int := l[k]?.getD 0
/-- have the arguments the widths that a node wants? -/
def fitsOf (kind width num : Int) (ws : List Int) : Bool :=
  if kind = 5 then decide (num < at0 ws 0 ∧ num + width ≤ at0 ws 0)
  else if kind = 7 then decide (ws.sum = width)
  else if kind = 8 then decide (at0 ws 0 = width)
  else if kind = 9 ∨ kind = 10 ∨ kind = 11 then decide (width = 1)
  else if 12 ≤ kind ∧ kind ≤ 17 then decide (at0 ws 0 = width ∧ at0 ws 1 = width)
  else if kind = 18 ∨ kind = 19 then decide (at0 ws 0 = width)
  else if kind = 20 ∨ kind = 21 then decide (at0 ws 0 = at0 ws 1 ∧ width = 1)
  else if kind = 22 then decide (at0 ws 0 = 1 ∧ at0 ws 1 = width ∧ at0 ws 2 = width)
  else if kind = 1 then decide (num ≤ ((2 ^ width.toNat : Nat) : Int) - 1)
  else true

theorem fits_cases (k : Int) : (k = 5 ∨ k = 7 ∨ k = 8 ∨ (k = 9 ∨ k = 10 ∨ k = 11) ∨ (k = 12 ∨ k = 13 ∨ k = 14 ∨ k = 15 ∨ k = 16 ∨ k = 17) ∨ (k = 18 ∨ k = 19) ∨ (k = 20 ∨ k = 21) ∨ k = 22 ∨ k = 1) ∨
    (k ≠ 5 ∧ k ≠ 7 ∧ k ≠ 8 ∧ k ≠ 9 ∧ k ≠ 10 ∧ k ≠ 11 ∧ k ≠ 12 ∧ k ≠ 13 ∧ k ≠ 14 ∧ k ≠ 15 ∧ k ≠ 16 ∧ k ≠ 17 ∧ k ≠ 18 ∧ k ≠ 19 ∧ k ≠ 20 ∧ k ≠ 21 ∧ k ≠ 22 ∧ k ≠ 1) := by omega

theorem RowAt.int {B : Nat} {w : World} {a : Option Addr} {xs : List Int} (h : RowAt B w a 1 (xs.map intC)) {i : Nat} (hi : i < xs.length) :
    ∃ b o, a = some ⟨b, o, none⟩ ∧ b < B ∧ ∀ (i : Nat), i < xs.length → w.cell? ⟨b, o + i, none⟩ = some (.int .i64 (at0 xs i)) := by
  obtain ⟨b, o, ha, hlt, hc⟩ := h (by intro e; have : xs = [] := List.map_eq_nil_iff.1 e; rw [this] at hi; simp at hi)
  refine ⟨b, o, ha, hlt, fun j hj => ?_⟩
  have := hc j [.int .i64 (at0 xs j)] (by simp [intC, at0, List.getElem?_eq_getElem hj]) 0 _ rfl
  simpa using this

set_option maxHeartbeats 4000000 in
theorem fits_one (w : World) (kind width num : Int) (aa : Option Addr) (al ac : Nat) (hk : kind = 8 ∨ kind = 18 ∨ kind = 19) (b o : Nat) (hb : b < w.heap.size) (x : Int) (n cw : Nat) (hn : (0 : Int) < (n : Int)) (c0 : w.cell? ⟨b, o, none⟩ = some (.int .i64 x)) :
    Calls Try.prog 31 #[.agg #[.int .i64 kind, .int .i64 width, .int .u64 num, .slice aa al ac], .slice (some ⟨b, o, none⟩) n cw] w fun e w' => e = .returned (.bool (decide (x = width))) ∧ Below w.heap.size w w' := by
  rcases hk with rfl | rfl | rfl
  all_goals
    go_enter Try.func31, Try.ntmps31
    go_wp2
    go_quiet (fail)
    go_wp2
    go_ret
    exact ⟨rfl, Below.drewN ((Below.refl _ _).alloc (Nat.le_refl _) _) _⟩

end Go.Proofs.Ytlkhmcajedjojaa
