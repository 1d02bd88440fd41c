import Derived.Test.YtjbnejjjbdalaaaDoorFaT
namespace Go.Proofs.YtjbnejjjbdalaaaDoor
open Go.RowKit

/-! What a fabric shows (pure) -/
def cellV (d : CeD) (v : List Bool) : Bool := bitAt d.bits (spell [sV v d.s0, sV v d.s1, sV v d.s2, sV v d.s3])
def colV (v : List Bool) (cs : List CeD) : List Bool := [false, true] ++ cs.map fun d => cellV d v
def inC (n : Nat) (row : List Bool) : List Bool := (List.range n).map fun i => row[i]?.getD false
def cycC (N : CnD) (row st : List Bool) : List Bool := N.cols.foldl (fun v d => colV v d.cs) ([false, true] ++ inC N.sh.ins.toNat row ++ st)
def outC (N : CnD) (v : List Bool) : List Bool := N.outs.map (sV v)
def nextC (N : CnD) (v : List Bool) : List Bool := N.regs.map fun d => sV v d.sel
def stC (N : CnD) (st : List Bool) (tr : List (List Bool)) : List Bool := tr.foldl (fun st r => nextC N (cycC N r st)) st
def runC (N : CnD) : List (List Bool) → List Bool → List (List Bool)
  | [], _ => []
  | r :: t, st => outC N (cycC N r st) :: runC N t (nextC N (cycC N r st))
theorem runC_snoc (N : CnD) (l : List (List Bool)) (r : List Bool) (st : List Bool) : runC N (l ++ [r]) st = runC N l st ++ [outC N (cycC N r (stC N st l))] := by
  induction l generalizing st with
  | nil => rfl
  | cons a t ih => simp only [List.cons_append, runC, ih]; rfl
theorem stC_snoc (N : CnD) (l : List (List Bool)) (r : List Bool) (st : List Bool) : stC N st (l ++ [r]) = nextC N (cycC N r (stC N st l)) := by
  unfold stC; rw [List.foldl_append]; rfl
/-- a truth as a byte -/
def bN (b : Bool) : Nat := if b then 1 else 0
def b8 (b : Bool) : Value := .int .u8 ((bN b : Nat) : Int)
theorem bN_lt (b : Bool) : bN b < 2 := by cases b <;> decide

set_option maxHeartbeats 4000000 in
theorem valueOf_any (w : World) (b : Bool) : Calls Tryd.prog 32 #[.bool b] w fun e w' => e = .returned (b8 b) ∧ w' = w := by
  cases b
  · go_enter Tryd.func32, Tryd.ntmps32
    go_wp2
    go_ret
    exact ⟨rfl, rfl⟩
  · go_enter Tryd.func32, Tryd.ntmps32
    go_wp2
    go_ret
    exact ⟨rfl, rfl⟩
theorem or8 (x y k : Nat) (hx : x < 2 ^ k) (hy : y < 2) (hk : k ≤ 3) : bits BinOp.or IntKind.u8 (x : Int) ((y * 2 ^ k : Nat) : Int) = ((x + y * 2 ^ k : Nat) : Int) := by
  have h1 : 2 ^ k ≤ 8 := Nat.pow_le_pow_right (n := 2) (by decide) hk
  have h2 : y * 2 ^ k < 256 := by
    rcases (show y = 0 ∨ y = 1 by omega) with rfl | rfl
    · simp
    · omega
  rw [u8_or_nat x (y * 2 ^ k) (by omega) h2, Nat.or_comm, or_mul y x k hx, Nat.add_comm]
theorem and_one (n : Int) : bits BinOp.and IntKind.i64 n 1 = n % 2 := by
  have h1 : (BitVec.ofInt 64 1).toNat = 2 ^ 1 - 1 := by decide
  have key : (BitVec.ofInt 64 n &&& BitVec.ofInt 64 1).toNat = (n % ((2 ^ 64 : Nat) : Int)).toNat % 2 ^ 1 := by
    rw [BitVec.toNat_and, BitVec.toNat_ofInt, h1, Nat.and_two_pow_sub_one_eq_mod]
  show IntKind.i64.wrap ((BitVec.ofInt 64 n &&& BitVec.ofInt 64 1).toNat : Nat) = n % 2
  rw [key, IntKind.wrap_i64]
  omega

set_option maxRecDepth 100000 in
set_option maxHeartbeats 16000000 in
theorem told_any (w : World) (b o g go c m : Nat) (vs : List Bool) (n0 n1 n2 n3 : Nat) (bits : Int) (hm : vs.length = m)
    (k0 : w.cell? ⟨b, o, none⟩ = some (.int .i64 (n0 : Int))) (k1 : w.cell? ⟨b, o + 1, none⟩ = some (.int .i64 (n1 : Int))) (k2 : w.cell? ⟨b, o + 2, none⟩ = some (.int .i64 (n2 : Int))) (k3 : w.cell? ⟨b, o + 3, none⟩ = some (.int .i64 (n3 : Int))) (k4 : w.cell? ⟨b, o + 4, none⟩ = some (.int .i64 bits))
    (hv : ∀ (i : Nat) (x : Bool), vs[i]? = some x → w.cell? ⟨g, go + i, none⟩ = some (b8 x)) (h0 : n0 < m) (h1 : n1 < m) (h2 : n2 < m) (h3 : n3 < m) :
    Calls Tryd.prog 35 #[.pointer (some ⟨b, o, none⟩), .slice (some ⟨g, go, none⟩) m c] w fun e w' => e = .returned (b8 (cellV ⟨n0, n1, n2, n3, bits⟩ vs)) ∧ ∃ n, w' = w.drewN n := by
  obtain ⟨x0, y0⟩ := getElem_lt (show n0 < vs.length by omega)
  obtain ⟨x1, y1⟩ := getElem_lt (show n1 < vs.length by omega)
  obtain ⟨x2, y2⟩ := getElem_lt (show n2 < vs.length by omega)
  obtain ⟨x3, y3⟩ := getElem_lt (show n3 < vs.length by omega)
  have z0 := hv _ _ y0
  have z1 := hv _ _ y1
  have z2 := hv _ _ y2
  have z3 := hv _ _ y3
  unfold b8 at z0 z1 z2 z3
  have HCV : Hid (cellV ⟨n0, n1, n2, n3, bits⟩ vs = bitAt bits (bN x0 + bN x1 * 2 + bN x2 * 4 + bN x3 * 8)) := by
    show _ = _
    unfold cellV sV
    simp only [Int.toNat_natCast, y0, y1, y2, y3, Option.getD_some, spell]
    congr 1
    unfold bN
    omega
  rw [HCV.out]
  have a0 := bN_lt x0
  have a1 := bN_lt x1
  have a2 := bN_lt x2
  have a3 := bN_lt x3
  generalize bN x0 = p0 at *
  generalize bN x1 = p1 at *
  generalize bN x2 = p2 at *
  generalize bN x3 = p3 at *
  have l0 : (n0 : Int) < (m : Int) := by omega
  have l1 : (n1 : Int) < (m : Int) := by omega
  have l2 : (n2 : Int) < (m : Int) := by omega
  have l3 : (n3 : Int) < (m : Int) := by omega
  have w1 : IntKind.u8.wrap ((p1 : Int) * 2) = (p1 : Int) * 2 := by rw [IntKind.wrap_u8']; omega
  have w2 : IntKind.u8.wrap ((p2 : Int) * 4) = (p2 : Int) * 4 := by rw [IntKind.wrap_u8']; omega
  have w3 : IntKind.u8.wrap ((p3 : Int) * 8) = (p3 : Int) * 8 := by rw [IntKind.wrap_u8']; omega
  have e1 : Go.bits BinOp.or IntKind.u8 (p0 : Int) ((p1 : Int) * 2) = ((p0 + p1 * 2 : Nat) : Int) := or8 p0 p1 1 (by omega) a1 (by omega)
  have e2 : Go.bits BinOp.or IntKind.u8 ((p0 + p1 * 2 : Nat) : Int) ((p2 : Int) * 4) = ((p0 + p1 * 2 + p2 * 4 : Nat) : Int) := or8 (p0 + p1 * 2) p2 2 (by omega) a2 (by omega)
  have e3 : Go.bits BinOp.or IntKind.u8 ((p0 + p1 * 2 + p2 * 4 : Nat) : Int) ((p3 : Int) * 8) = ((p0 + p1 * 2 + p2 * 4 + p3 * 8 : Nat) : Int) := or8 (p0 + p1 * 2 + p2 * 4) p3 3 (by omega) a3 (by omega)
  obtain ⟨s1, hs1⟩ : ∃ s, p0 + p1 * 2 = s := ⟨_, rfl⟩
  rw [hs1] at e1 e2 e3 ⊢
  obtain ⟨s2, hs2⟩ : ∃ s, s1 + p2 * 4 = s := ⟨_, rfl⟩
  rw [hs2] at e2 e3 ⊢
  obtain ⟨s3, hs3⟩ : ∃ s, s2 + p3 * 8 = s := ⟨_, rfl⟩
  rw [hs3] at e3 ⊢
  have hs : s3 < 16 := by omega
  clear hv y0 y1 y2 y3 h0 h1 h2 h3 hm hs1 hs2 hs3 HCV a0 a1 a2 a3
  go_enter Tryd.func35, Tryd.ntmps35
  go_upto_region 1 with fail
  go_quiet (fail)
  go_wp2
  go_ret
  refine ⟨?_, _, rfl⟩
  show Ending.returned (Value.int IntKind.u8 (Go.bits BinOp.and IntKind.i64 (bits / 2 ^ s3) 1 % 256)) = _
  rw [and_one]
  unfold b8 bitAt bN
  generalize bits / 2 ^ s3 = y
  congr 2
  by_cases h : y % 2 = 1
  · simp only [h, decide_true, if_true]
    rfl
  · have h0 : y % 2 = 0 := by omega
    simp only [h0]
    rfl

end Go.Proofs.YtjbnejjjbdalaaaDoor
