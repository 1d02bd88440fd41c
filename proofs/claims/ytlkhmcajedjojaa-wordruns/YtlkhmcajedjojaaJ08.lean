import Derived.Test.YtlkhmcajedjojaaJ06
import Derived.Test.YtlkhmcajedjojaaJ07
import Derived.Deep.Cut
namespace Go.Proofs.Ytlkhmcajedjojaa
open Go.RowKit

theorem nodeValid_any (B : Nat) (w : World) (S : NetS) (N : NetD) (h : NetAt B w S N) (hB : B ≤ w.heap.size) (i : Nat) (d : NodeD) (hd : N.nodes[i]? = some d) (hp : Hid (∀ j y, j < i → N.nodes[j]? = some y → 1 ≤ y.width ∧ y.width ≤ 32)) :
    Calls Try.prog 20 #[.agg (S.cells N), .int .i64 i] w fun e w' => e = .returned (.bool (nodeOk N i d)) ∧ Below w.heap.size w w' := by
  by_cases ho : nodeOut d
  · have e : nodeOk N i d = false := by unfold nodeOk; rw [if_pos ho]
    rw [e]; exact nodeValid_early B w S N h hB i d hd ho
  · have e : nodeOk N i d = (if d.args.any (badArg i) then false else nodeEnd N d) := by unfold nodeOk; rw [if_neg ho]
    by_cases hA : 0 ≤ wantOf d.kind
    · exact nodeValid_restA B w S N h hB i d hd ho hp hA _ e
    · exact nodeValid_restB B w S N h hB i d hd ho hp (by omega) _ e

def maskN (x : Int) : Int := ((2 ^ x.toNat : Nat) : Int) - 1
def regOk (r : RegD) : Bool := widthOk r.width && decide (r.init ≤ maskN r.width)
def memOk (m : MemD) : Bool := widthOk m.width && decide (1 ≤ m.words ∧ m.words ≤ 256)
def okAt (N : NetD) (i : Nat) : Bool := match N.nodes[i]? with | some d => nodeOk N i d | none => true
def nextOk (N : NetD) (r : RegD) : Bool := wideOf N r.next r.width
def memW (N : NetD) (m : Int) : Int := (N.mems[m.toNat]?.map MemD.width).getD 0
def wrOk (N : NetD) (x : WrD) : Bool := decide (0 ≤ x.mem ∧ x.mem < (N.mems.length : Int) ∧ 0 ≤ x.addr ∧ x.addr < (N.nodes.length : Int)) && wideOf N x.when_ 1 && wideOf N x.data (memW N x.mem)
def outOk (N : NetD) (x : Int) : Bool := decide (0 ≤ x ∧ x < (N.nodes.length : Int))
def NetOk (N : NetD) : Bool := N.ins.all widthOk && N.regs.all regOk && N.mems.all memOk && (List.range N.nodes.length).all (okAt N) && N.regs.all (nextOk N) && N.wrs.all (wrOk N) && N.outs.all (outOk N)

theorem all_next {α : Type} (p : α → Bool) (l : List α) (k : Nat) (x : α) (h : l[k]? = some x) : (l.take (k + 1)).all p = ((l.take k).all p && p x) := by
  rw [take_next l k x h, List.all_append]; simp
theorem range_next (p : Nat → Bool) (k : Nat) : (List.range (k + 1)).all p = ((List.range k).all p && p k) := by
  rw [List.range_succ, List.all_append]; simp
theorem at0_of {l : List Int} {k : Nat} (h : k < l.length) : l[k]? = some (at0 l k) := by simp [at0, List.getElem?_eq_getElem h]

end Go.Proofs.Ytlkhmcajedjojaa

namespace Go.Proofs.Ytlkhmcajedjojaa
open Go.RowKit

set_option maxHeartbeats 400000 in
theorem isWidth_any (x : Int) (w : World) :
    Calls Try.prog 11 #[.int .i64 x] w fun e w' => e = .returned (.bool (widthOk x)) ∧ w' = w := by
  have e : widthOk x = decide (1 ≤ x ∧ x ≤ 32) := rfl
  by_cases h1 : (1 : Int) ≤ x
  · by_cases h2 : x ≤ 32
    · have hd : widthOk x = true := by rw [e]; simp; omega
      rw [hd]; clear hd e
      go_enter Try.func11, Try.ntmps11
      go_wp2
      go_ret
      exact ⟨rfl, rfl⟩
    · have hd : widthOk x = false := by rw [e]; simp; omega
      rw [hd]; clear hd e
      go_enter Try.func11, Try.ntmps11
      go_wp2
      go_ret
      exact ⟨rfl, rfl⟩
  · have hd : widthOk x = false := by rw [e]; simp; omega
    rw [hd]; clear hd e
    go_enter Try.func11, Try.ntmps11
    go_wp2
    go_ret
    exact ⟨rfl, rfl⟩

set_option maxHeartbeats 400000 in
theorem pmask_any (n : Nat) (h1 : 1 ≤ n) (h2 : n ≤ 32) (w : World) :
    Calls Try.prog 28 #[.int .i64 (n : Int)] w fun e w' => e = .returned (.int .u64 ((2 ^ n : Nat) - 1 : Int)) ∧ w' = w := by
  go_enter Try.func28, Try.ntmps28
  go_wp2
  go_ret
  refine ⟨ret_int ?_, rfl⟩
  have hp : (2 : Nat) ^ n ≤ 2 ^ 32 := Nat.pow_le_pow_right (by decide) h2
  have hq : 1 ≤ (2 : Nat) ^ n := Nat.one_le_two_pow
  have e : ((2 : Int) ^ n) = ((2 ^ n : Nat) : Int) := by push_cast; rfl
  have ea : IntKind.u64.wrap ((2 ^ n : Nat) : Int) = ((2 ^ n : Nat) : Int) := wrapU _ (by omega) (by omega)
  rw [e, ea, wrapU _ (by omega) (by omega)]
theorem pmask_int (x : Int) (h : widthOk x = true) (w : World) : Calls Try.prog 28 #[.int .i64 x] w fun e w' => e = .returned (.int .u64 (maskN x)) ∧ w' = w := by
  have hw : 1 ≤ x ∧ x ≤ 32 := by simpa [widthOk] using h
  have := pmask_any x.toNat (by omega) (by omega) w
  have ex : ((x.toNat : Nat) : Int) = x := by omega
  rw [ex] at this
  exact this

/-- may a kind have so many arguments? -/
def mayOf (k n : Int) : Bool := decide (wantOf k ≠ -2 ∧ (0 ≤ wantOf k → n = wantOf k) ∧ (wantOf k = -1 → 1 ≤ n))

set_option maxHeartbeats 400000 in
theorem mayHave_any (k n : Int) (w : World) :
    Calls Try.prog 25 #[.int .i64 k, .int .i64 n] w fun e w' => e = .returned (.bool (mayOf k n)) ∧ w' = w := by
  rcases want_cases k with h | ⟨h1, h2, h3, h4, h5, h6, h7, h8, h9, h10, h11, h12, h13, h14, h15, h16, h17, h18, h19, h20, h21, h22⟩
  · rcases h with rfl | rfl | rfl | rfl | rfl | rfl | rfl | rfl | rfl | rfl | rfl | rfl | rfl | rfl | rfl | rfl | rfl | rfl | rfl | rfl | rfl | rfl
    all_goals
      go_enter Try.func25, Try.ntmps25
      go_wp2
      go_ret
      exact ⟨ret_bool (by rw [Bool.eq_iff_iff]; simp [mayOf, wantOf]), rfl⟩
  · have hd : mayOf k n = false := by
      have : wantOf k = -2 := by unfold wantOf; simp only [*]; simp; omega
      unfold mayOf; rw [this]; simp
    rw [hd]; clear hd
    go_enter Try.func25, Try.ntmps25
    go_wp2
    go_ret
    exact ⟨rfl, rfl⟩

/-- a netlist, and a block that holds its slices -/
structure CkAt (B : Nat) (w : World) (cb : Nat) (S : NetS) (N : NetD) : Prop where
  net : NetAt B w S N
  lt : cb < B
  cells : ∀ j, w.cell? ⟨cb, j, none⟩ = (S.cells N)[j]?
theorem CkAt.to {B cb : Nat} {w w' : World} {S : NetS} {N : NetD} (h : CkAt B w cb S N) (hb : Below B w w') : CkAt B w' cb S N :=
  ⟨h.net.to hb, h.lt, fun j => (hb.cell (p := ⟨cb, j, none⟩) h.lt).trans (h.cells j)⟩
theorem CkAt.mono {B B' cb : Nat} {w : World} {S : NetS} {N : NetD} (h : CkAt B w cb S N) (hb : B ≤ B') : CkAt B' w cb S N :=
  ⟨h.net.mono hb, Nat.lt_of_lt_of_le h.lt hb, h.cells⟩
def ckV (cb : Nat) : Value := .agg #[.pointer (some ⟨cb, 0, none⟩)]

set_option maxHeartbeats 4000000 in
theorem isNode_any (B : Nat) (w : World) (cb : Nat) (S : NetS) (N : NetD) (h : CkAt B w cb S N) (hB : B ≤ w.heap.size) (i : Int) :
    Calls Try.prog 17 #[ckV cb, .int .i64 i] w fun e w' => e = .returned (.bool (outOk N i)) ∧ Below w.heap.size w w' := by
  unfold ckV
  have q1 : w.cell? ⟨cb, 1, none⟩ = some (.slice S.a1 N.nodes.length S.c1) := h.cells 1
  have hcb : cb < w.heap.size := Nat.lt_of_lt_of_le h.lt hB
  clear h
  have e : outOk N i = decide (0 ≤ i ∧ i < (N.nodes.length : Int)) := rfl
  by_cases h0 : (0 : Int) ≤ i
  · have hd : outOk N i = decide (i < (N.nodes.length : Int)) := by rw [e, Bool.eq_iff_iff]; simp [h0]
    rw [hd]; clear hd e
    go_enter Try.func17, Try.ntmps17
    go_wp2
    go_ret
    exact ⟨rfl, (Below.refl _ _).alloc (Nat.le_refl _) _⟩
  · have hd : outOk N i = false := by rw [e]; simp; omega
    rw [hd]; clear hd e
    go_enter Try.func17, Try.ntmps17
    go_wp2
    go_ret
    exact ⟨rfl, (Below.refl _ _).alloc (Nat.le_refl _) _⟩

end Go.Proofs.Ytlkhmcajedjojaa
