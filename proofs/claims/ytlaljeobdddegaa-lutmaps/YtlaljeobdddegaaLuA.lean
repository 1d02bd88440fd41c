import Derived.Test.YtlaljeobdddegaaRows
import Derived.WalkKit
import Derived.WalkSpells
import Derived.WalkLawsBesides
import Derived.Deep.QuietTactic
import Derived.BigQuiet
import Derived.Deep.Cut
import Derived.Deep.CutBlock
import Derived.Deep.RegionHeld3
import Derived.Deep.RegionHeldLaw
namespace Go.Proofs.Ytlaljeobdddegaa.L
open Go.RowKit

theorem ret_bool {a b : Bool} (h : a = b) : Ending.returned (.bool a) = .returned (.bool b) := by rw [h]
theorem ret_int {k : IntKind} {a b : Int} (h : a = b) : Ending.returned (.int k a) = .returned (.int k b) := by rw [h]
theorem wrapI (x : Int) (h0 : -9223372036854775808 ≤ x) (h1 : x < 9223372036854775808) : IntKind.i64.wrap x = x := by
  rw [IntKind.wrap_i64]; omega
theorem hidden {p : Prop} (h : p) : Hid p := h
theorem Below.drewN {B : Nat} {a w : World} (h : Below B a w) (n : Nat) : Below B a (w.drewN n) := ⟨h.os, h.tape, h.output, h.size, h.block⟩
theorem take_next {α : Type} (l : List α) (k : Nat) (x : α) (h : l[k]? = some x) : l.take (k + 1) = l.take k ++ [x] := by
  rw [List.take_add_one, h]; rfl
theorem all_next {α : Type} (p : α → Bool) (l : List α) (k : Nat) (x : α) (h : l[k]? = some x) : (l.take (k + 1)).all p = ((l.take k).all p && p x) := by
  rw [take_next l k x h, List.all_append]; simp
theorem range_next (p : Nat → Bool) (k : Nat) : (List.range (k + 1)).all p = ((List.range k).all p && p k) := by
  rw [List.range_succ, List.all_append]; simp
theorem getElem_lt {α : Type} {l : List α} {k : Nat} (h : k < l.length) : ∃ d, l[k]? = some d := ⟨l[k], List.getElem?_eq_getElem h⟩
theorem range_false {p : Nat → Bool} {n k : Nat} (h : k < n) (hp : p k = false) : (List.range n).all p = false := by
  rw [List.all_eq_false]; exact ⟨k, List.mem_range.2 h, by simp [hp]⟩

/-- elements of so many cells behind an address -/
def RowAt (B : Nat) (w : World) (a : Option Addr) (sz : Nat) (els : List (List Value)) : Prop :=
  els ≠ [] → ∃ b o, a = some ⟨b, o, none⟩ ∧ b < B ∧ ∀ (i : Nat) (cs : List Value), els[i]? = some cs → ∀ (j : Nat) (x : Value), cs[j]? = some x → w.cell? ⟨b, o + i * sz + j, none⟩ = some x
theorem RowAt.to {B : Nat} {w w' : World} {a : Option Addr} {sz : Nat} {els : List (List Value)} (h : RowAt B w a sz els) (hb : Below B w w') : RowAt B w' a sz els := fun he => by
  obtain ⟨b, o, ha, hlt, hc⟩ := h he
  exact ⟨b, o, ha, hlt, fun i cs h1 j x h2 => (hb.cell (p := ⟨b, o + i * sz + j, none⟩) hlt).trans (hc i cs h1 j x h2)⟩
theorem RowAt.mono {B B' : Nat} {w : World} {a : Option Addr} {sz : Nat} {els : List (List Value)} (h : RowAt B w a sz els) (hb : B ≤ B') : RowAt B' w a sz els := fun he => by
  obtain ⟨b, o, ha, hlt, hc⟩ := h he
  exact ⟨b, o, ha, Nat.lt_of_lt_of_le hlt hb, hc⟩
/-- an element of it -/
theorem RowAt.el {B : Nat} {w : World} {a : Option Addr} {sz : Nat} {α : Type} {f : α → List Value} {xs : List α} (h : RowAt B w a sz (xs.map f)) {i : Nat} {x : α} (hx : xs[i]? = some x) :
    ∃ b o, a = some ⟨b, o, none⟩ ∧ b < B ∧ ∀ (j : Nat) (v : Value), (f x)[j]? = some v → w.cell? ⟨b, o + i * sz + j, none⟩ = some v := by
  obtain ⟨b, o, ha, hlt, hc⟩ := h (by intro e; have : xs = [] := List.map_eq_nil_iff.1 e; rw [this] at hx; simp at hx)
  exact ⟨b, o, ha, hlt, hc i (f x) (by simp [hx])⟩
def intC (x : Int) : List Value := [.int .i64 x]
def boolC (x : Bool) : List Value := [.bool x]
theorem RowAt.int {B : Nat} {w : World} {a : Option Addr} {xs : List Int} (h : RowAt B w a 1 (xs.map intC)) {i : Nat} {x : Int} (hx : xs[i]? = some x) :
    ∃ b o, a = some ⟨b, o, none⟩ ∧ b < B ∧ w.cell? ⟨b, o + i, none⟩ = some (.int .i64 x) := by
  obtain ⟨b, o, ha, hlt, hc⟩ := h.el hx
  exact ⟨b, o, ha, hlt, (congrArg (fun m => w.cell? ⟨b, o + m, none⟩) (Nat.mul_one i).symm).trans (hc 0 _ rfl)⟩
/-- a table: where its inputs lie, what they are, its bits -/
structure TbD where
  a : Option Addr
  c : Nat
  ins : List Int
  bits : Int
def TbD.cells (d : TbD) : List Value := [.slice d.a d.ins.length d.c, .int .i64 d.bits]
/-- a net of tables -/
structure NtD where
  ins : Int
  init : List Bool
  tabs : List TbD
  next : List Int
  outs : List Int
structure NtS where
  a1 : Option Addr
  c1 : Nat
  a2 : Option Addr
  c2 : Nat
  a3 : Option Addr
  c3 : Nat
  a4 : Option Addr
  c4 : Nat
def NtS.cells (S : NtS) (N : NtD) : Array Value := #[.int .i64 N.ins, .slice S.a1 N.init.length S.c1, .slice S.a2 N.tabs.length S.c2, .slice S.a3 N.next.length S.c3, .slice S.a4 N.outs.length S.c4]
def big : Nat := 17592186044416
def huge : Nat := 281474976710656
structure NtAt (B : Nat) (w : World) (S : NtS) (N : NtD) : Prop where
  i : RowAt B w S.a1 1 (N.init.map boolC)
  t : RowAt B w S.a2 2 (N.tabs.map TbD.cells)
  ti : ∀ d, d ∈ N.tabs → RowAt B w d.a 1 (d.ins.map intC)
  n : RowAt B w S.a3 1 (N.next.map intC)
  o : RowAt B w S.a4 1 (N.outs.map intC)
  li : N.init.length < huge
  lt : N.tabs.length < big
  lti : ∀ d, d ∈ N.tabs → d.ins.length < big
  ln : N.next.length < big
  lo : N.outs.length < big
theorem NtAt.to {B : Nat} {w w' : World} {S : NtS} {N : NtD} (h : NtAt B w S N) (hb : Below B w w') : NtAt B w' S N :=
  ⟨h.i.to hb, h.t.to hb, fun d hd => (h.ti d hd).to hb, h.n.to hb, h.o.to hb, h.li, h.lt, h.lti, h.ln, h.lo⟩
theorem NtAt.mono {B B' : Nat} {w : World} {S : NtS} {N : NtD} (h : NtAt B w S N) (hb : B ≤ B') : NtAt B' w S N :=
  ⟨h.i.mono hb, h.t.mono hb, fun d hd => (h.ti d hd).mono hb, h.n.mono hb, h.o.mono hb, h.li, h.lt, h.lti, h.ln, h.lo⟩
/-- a net in a box -/
structure BoxAt (w : World) (p : Nat) (S : NtS) (N : NtD) : Prop where
  lt : p < w.heap.size
  c0 : w.cell? ⟨p, 0, none⟩ = some (.int .i64 N.ins)
  c1 : w.cell? ⟨p, 1, none⟩ = some (.slice S.a1 N.init.length S.c1)
  c2 : w.cell? ⟨p, 2, none⟩ = some (.slice S.a2 N.tabs.length S.c2)
  c3 : w.cell? ⟨p, 3, none⟩ = some (.slice S.a3 N.next.length S.c3)
  c4 : w.cell? ⟨p, 4, none⟩ = some (.slice S.a4 N.outs.length S.c4)
theorem BoxAt.to {B : Nat} {w w' : World} {p : Nat} {S : NtS} {N : NtD} (h : BoxAt w p S N) (hp : p < B) (hb : Below B w w') : BoxAt w' p S N :=
  ⟨Nat.lt_of_lt_of_le h.lt hb.size, (hb.cell (p := ⟨p, 0, none⟩) hp).trans h.c0, (hb.cell (p := ⟨p, 1, none⟩) hp).trans h.c1, (hb.cell (p := ⟨p, 2, none⟩) hp).trans h.c2, (hb.cell (p := ⟨p, 3, none⟩) hp).trans h.c3, (hb.cell (p := ⟨p, 4, none⟩) hp).trans h.c4⟩
theorem BoxAt.new (w : World) (S : NtS) (N : NtD) : BoxAt (w.alloc (.cells #[.int .i64 N.ins, .slice S.a1 N.init.length S.c1, .slice S.a2 N.tabs.length S.c2, .slice S.a3 N.next.length S.c3, .slice S.a4 N.outs.length S.c4] 34)) w.heap.size S N :=
  ⟨by simp, by simp, by simp, by simp, by simp, by simp⟩
def NtD.first (N : NtD) : Int := 2 + N.ins + N.init.length
def NtD.sigs (N : NtD) : Int := N.first + N.tabs.length
def sigOk (n l : Int) : Bool := decide (0 ≤ l ∧ l < n)
def NtD.small (N : NtD) : Prop := 0 ≤ N.ins ∧ N.ins ≤ 60000 ∧ N.outs.length ≤ 60000 ∧ N.next.length = N.init.length
instance (N : NtD) : Decidable N.small := by unfold NtD.small; infer_instance
/-- how many spellings there are, by the number of inputs -/
def pw (n : Nat) : Int := (2 : Int) ^ (2 ^ n)
def TbD.ok (F : Int) (d : TbD) : Bool := decide (d.ins.length ≤ 4) && d.ins.all (sigOk F) && decide (0 ≤ d.bits ∧ d.bits < pw d.ins.length)
def tabOk (N : NtD) (i : Nat) : Bool := match N.tabs[i]? with | some d => d.ok (N.first + i) | none => true
theorem tabOk_of {N : NtD} {k : Nat} {d : TbD} (h : N.tabs[k]? = some d) : tabOk N k = d.ok (N.first + k) := by unfold tabOk; rw [h]
def NtOk (N : NtD) : Bool := decide N.small && (List.range N.tabs.length).all (tabOk N) && N.next.all (sigOk N.sigs) && N.outs.all (sigOk N.sigs)
/-- the shifts by which spellings are counted -/
theorem shifts (n : Nat) (h : n ≤ 4) : wrap64 (2 ^ min (IntKind.u64.wrap (2 ^ n)).toNat 64) = pw n := by
  rcases (show n = 0 ∨ n = 1 ∨ n = 2 ∨ n = 3 ∨ n = 4 by omega) with rfl | rfl | rfl | rfl | rfl <;> kernel_rfl

set_option maxHeartbeats 4000000 in
theorem signals_doc (w : World) (S : NtS) (N : NtD) (h0 : 0 ≤ N.ins) (h1 : N.ins ≤ 60000) (h2 : N.init.length < huge) (h3 : N.tabs.length < big) :
    Calls Try.prog 22 #[.agg (S.cells N)] w fun e w' => e = .returned (.int .i64 N.sigs) ∧ Below w.heap.size w w' := by
  unfold NtS.cells
  simp only [big, huge] at h2 h3
  go_enter Try.func22, Try.ntmps22
  go_wp2
  go_ret
  refine ⟨ret_int ?_, (Below.refl _ _).alloc (Nat.le_refl _) _⟩
  simp only [NtD.sigs, NtD.first]

end Go.Proofs.Ytlaljeobdddegaa.L
