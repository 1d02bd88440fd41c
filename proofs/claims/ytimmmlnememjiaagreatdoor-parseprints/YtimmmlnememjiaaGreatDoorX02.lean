import Derived.Test.YtimmmlnememjiaaGreatDoorX
import Derived.Test.YtimmmlnememjiaaGreatDoorX00
import Derived.Test.YtimmmlnememjiaaGreatDoorX01
import Derived.Deep.RegionHeld3
set_option maxRecDepth 100000
set_option maxHeartbeats 16000000
namespace Go.Proofs.YtimmmlnememjiaaGreatDoor
open Go.RowKit
def StrPost (t : List UInt8) (w : World) (e : Ending) (w' : World) : Prop := e = .returned (.string (bs t)) ∧ Below w.heap.size w w'
abbrev Sees (W w' : World) : Prop := Below W.heap.size W w' ∧ (∀ b o, b < W.heap.size → w'.cell? ⟨b, o, none⟩ = W.cell? ⟨b, o, none⟩)
theorem sees_drew (W : World) : Sees W W.drew := ⟨(Below.refl _ _).drew, fun b o h => ((Below.refl W.heap.size W).drew).cell (p := ⟨b, o, none⟩) h⟩
theorem sees_call {W w1 w2 : World} (hb : Below w1.heap.size w1 w2) (h : Sees W w1) : Sees W w2 :=
 have h' : Below W.heap.size W w2 := h.1.trans (hb.mono h.1.size)
 ⟨h', fun b o hh => h'.cell (p := ⟨b, o, none⟩) hh⟩
theorem add_bs (W : World) (x y : List UInt8) (h : x.length + y.length ≤ 4000000000000000) : (Op.stringOp .add (bs x) (bs y)).run Tryz.prog W = .ok (.string (bs (x ++ y))) W := by
 rw [run_string_add_sum W _ _ (by rw [bs_size, bs_size]; omega), bs_append]
theorem add_to (x y : ByteArray) (lx ly : List UInt8) (hx : x = bs lx) (hy : y = bs ly) (h : lx.length + ly.length ≤ 4000000000000000) :
  ∃ z : List UInt8, Hid (z = lx ++ ly) ∧ z.length = lx.length + ly.length ∧ ∀ W, (Op.stringOp .add x y).run Tryz.prog W = .ok (.string (bs z)) W :=
 ⟨lx ++ ly, rfl, by simp, fun W => by rw [hx, hy]; exact add_bs W lx ly h⟩
theorem elem_cells {S : Nat → Prop} {w w' : World} (hb : Below w.heap.size w w') {b i : Nat} (hlt : b < w.heap.size) {x : Int × List Value × List UInt8} (hp : PE S w x.1 x.2.1 x.2.2)
  (hce : ∀ (j : Nat) (v : Value), x.2.1[j]? = some v → w.cell? ⟨b, i * 7 + j, none⟩ = some v) :
  ∃ (a op wd n : Int) (nm : ByteArray) (sl : Value), x.2.1 = [.int .i64 x.1, .int .i64 a, .int .i64 op, .int .i64 wd, .int .u64 n, .string nm, sl] ∧
   w'.cell? ⟨b, i * 7 + 0, none⟩ = some (.int .i64 x.1) ∧ w'.cell? ⟨b, i * 7 + 1, none⟩ = some (.int .i64 a) ∧ w'.cell? ⟨b, i * 7 + 2, none⟩ = some (.int .i64 op) ∧ w'.cell? ⟨b, i * 7 + 3, none⟩ = some (.int .i64 wd) ∧
   w'.cell? ⟨b, i * 7 + 4, none⟩ = some (.int .u64 n) ∧ w'.cell? ⟨b, i * 7 + 5, none⟩ = some (.string nm) ∧ w'.cell? ⟨b, i * 7 + 6, none⟩ = some sl := by
 obtain ⟨a, op, wd, n, nm, sl, hx⟩ := hp.seven
 have hc : ∀ o, w'.cell? ⟨b, o, none⟩ = w.cell? ⟨b, o, none⟩ := fun o => hb.cell (p := ⟨b, o, none⟩) hlt
 refine ⟨a, op, wd, n, nm, sl, hx, ?_, ?_, ?_, ?_, ?_, ?_, ?_⟩ <;> rw [hc]
 ·exact hce 0 _ (by rw [hx]; rfl)
 ·exact hce 1 _ (by rw [hx]; rfl)
 ·exact hce 2 _ (by rw [hx]; rfl)
 ·exact hce 3 _ (by rw [hx]; rfl)
 ·exact hce 4 _ (by rw [hx]; rfl)
 ·exact hce 5 _ (by rw [hx]; rfl)
 ·exact hce 6 _ (by rw [hx]; rfl)
theorem box_facts {w W : World} {v0 v1 v2 v3 v4 v5 v6 : Value} {T : TypeId} (hW : w.alloc (.cells #[v0, v1, v2, v3, v4, v5, v6] T) = W) :
  W.cell? ⟨w.heap.size, 0, none⟩ = some v0 ∧ W.cell? ⟨w.heap.size, 1, none⟩ = some v1 ∧ W.cell? ⟨w.heap.size, 2, none⟩ = some v2 ∧ W.cell? ⟨w.heap.size, 3, none⟩ = some v3 ∧ W.cell? ⟨w.heap.size, 4, none⟩ = some v4 ∧ W.cell? ⟨w.heap.size, 5, none⟩ = some v5 ∧ W.cell? ⟨w.heap.size, 6, none⟩ = some v6 ∧
   Hid (Below w.heap.size w W) ∧ (∀ b o, b < w.heap.size → W.cell? ⟨b, o, none⟩ = w.cell? ⟨b, o, none⟩) ∧ w.heap.size < W.heap.size ∧ (∀ b, b < w.heap.size → b < W.heap.size) := by
 subst hW
 have hb : Below w.heap.size w (w.alloc (.cells #[v0, v1, v2, v3, v4, v5, v6] T)) := (Below.refl _ _).alloc (Nat.le_refl _) _
 refine ⟨by simp, by simp, by simp, by simp, by simp, by simp, by simp, hb, fun b o h => hb.cell (p := ⟨b, o, none⟩) h, by simp, fun b h => by simp; omega⟩
theorem hid {p : Prop} (h : p) : Hid p := h
theorem sign_len (op : Int) (_h1 : 1 ≤ op) (h2 : op ≤ 22) : (signTxt op).length ≤ 10 := by
 unfold signTxt
 have : ∀ k : Nat, k < 23 → (signs.getD k []).length ≤ 10 := by decide
 exact this op.toNat (by omega)
theorem pe_index (w : World) (a op wd n : Int) (nm : List UInt8) (b cap : Nat) (hb : b < w.heap.size) (zn : nm.length ≤ 1000000000000)
  (k0 a0 op0 wd0 n0 : Int) (nm0 : ByteArray) (sl0 : Value) (t0 : List UInt8) (z0 : t0.length ≤ 1000000000000) (c00 : w.cell? ⟨b, 0, none⟩ = some (.int .i64 k0)) (c01 : w.cell? ⟨b, 1, none⟩ = some (.int .i64 a0)) (c02 : w.cell? ⟨b, 2, none⟩ = some (.int .i64 op0)) (c03 : w.cell? ⟨b, 3, none⟩ = some (.int .i64 wd0)) (c04 : w.cell? ⟨b, 4, none⟩ = some (.int .u64 n0)) (c05 : w.cell? ⟨b, 5, none⟩ = some (.string nm0)) (c06 : w.cell? ⟨b, 6, none⟩ = some (sl0))
  (ih0 : Hid (∀ w', Below w.heap.size w w' → Calls Tryz.prog 29 #[.agg #[.int .i64 k0, .int .i64 a0, .int .i64 op0, .int .i64 wd0, .int .u64 n0, .string nm0, sl0]] w' (StrPost t0 w')))
  (tt : List UInt8) (HT : Hid (tt = nm ++ [91] ++ t0 ++ [93])) :
  Calls Tryz.prog 29 #[.agg #[.int .i64 3, .int .i64 a, .int .i64 op, .int .i64 wd, .int .u64 n, .string (bs nm), .slice (some ⟨b, 0, none⟩) 1 cap]] w (StrPost tt w) := by
 obtain ⟨x1, H1, l1, s1⟩ := add_to (bs nm) (⟨#[91]⟩) nm [91] rfl rfl (by (try simp only [lnC, lnN] at *); omega)
 obtain ⟨x2, H2, l2, s2⟩ := add_to (bs x1) (bs t0) x1 t0 rfl rfl (by (try simp only [lnC, lnN] at *); omega)
 obtain ⟨x3, H3, l3, s3⟩ := add_to (bs x2) (⟨#[93]⟩) x2 [93] rfl rfl (by (try simp only [lnC, lnN] at *); omega)
 have HF : Hid (x3 = tt) := by show x3 = _; rw [HT.out, H3.out, H2.out, H1.out]
 clear HT H1 l1 H2 l2 H3 l3
 go_enter Tryz.func29, Tryz.ntmps29
 go_wp2_with fail
 generalize hW : w.alloc (.cells #[.int .i64 3, .int .i64 a, .int .i64 op, .int .i64 wd, .int .u64 n, .string (bs nm), .slice (some ⟨b, 0, none⟩) 1 cap] 55) = W
 obtain ⟨x0, xx1, xx2, xx3, xx4, xx5, xx6, HB, hc, hlt, hle⟩ := box_facts hW
 have hbW := hle b hb
 rw [← hc b 0 hb] at c00; rw [← hc b 1 hb] at c01; rw [← hc b 2 hb] at c02; rw [← hc b 3 hb] at c03; rw [← hc b 4 hb] at c04; rw [← hc b 5 hb] at c05; rw [← hc b 6 hb] at c06
 clear hc hle hW
 go_region_held3 (fun w' => Below W.heap.size W w' ∧ (∀ b' o, b' < W.heap.size → w'.cell? ⟨b', o, none⟩ = W.cell? ⟨b', o, none⟩))
  (first | assumption | exact sees_drew _ | (refine sees_call (by assumption) (by assumption)))
  (first | (go_at_call_of 29 (Value.int IntKind.i64 a0); refine (ih0.out _ (HB.out.trans (Below.mono (And.left (by assumption)) (by exact HB.out.size)))).mono ?_; rintro e w2 ⟨rfl, hb2⟩))
 all_goals
  go_wp2_with fail
  go_ret
  exact ⟨ret_str (congrArg bs HF.out), HB.out.trans (Below.mono (And.left (by assumption)) HB.out.size)⟩
theorem pe_part (w : World) (a op wd n : Int) (nm : List UInt8) (b cap : Nat) (hb : b < w.heap.size) (zn : nm.length ≤ 1000000000000)
  (k0 a0 op0 wd0 n0 : Int) (nm0 : ByteArray) (sl0 : Value) (t0 : List UInt8) (z0 : t0.length ≤ 1000000000000) (c00 : w.cell? ⟨b, 0, none⟩ = some (.int .i64 k0)) (c01 : w.cell? ⟨b, 1, none⟩ = some (.int .i64 a0)) (c02 : w.cell? ⟨b, 2, none⟩ = some (.int .i64 op0)) (c03 : w.cell? ⟨b, 3, none⟩ = some (.int .i64 wd0)) (c04 : w.cell? ⟨b, 4, none⟩ = some (.int .u64 n0)) (c05 : w.cell? ⟨b, 5, none⟩ = some (.string nm0)) (c06 : w.cell? ⟨b, 6, none⟩ = some (sl0))
  (ih0 : Hid (∀ w', Below w.heap.size w w' → Calls Tryz.prog 29 #[.agg #[.int .i64 k0, .int .i64 a0, .int .i64 op0, .int .i64 wd0, .int .u64 n0, .string nm0, sl0]] w' (StrPost t0 w')))
  (k1 a1 op1 wd1 n1 : Int) (nm1 : ByteArray) (sl1 : Value) (t1 : List UInt8) (z1 : t1.length ≤ 1000000000000) (c10 : w.cell? ⟨b, 7, none⟩ = some (.int .i64 k1)) (c11 : w.cell? ⟨b, 8, none⟩ = some (.int .i64 a1)) (c12 : w.cell? ⟨b, 9, none⟩ = some (.int .i64 op1)) (c13 : w.cell? ⟨b, 10, none⟩ = some (.int .i64 wd1)) (c14 : w.cell? ⟨b, 11, none⟩ = some (.int .u64 n1)) (c15 : w.cell? ⟨b, 12, none⟩ = some (.string nm1)) (c16 : w.cell? ⟨b, 13, none⟩ = some (sl1))
  (ih1 : Hid (∀ w', Below w.heap.size w w' → Calls Tryz.prog 29 #[.agg #[.int .i64 k1, .int .i64 a1, .int .i64 op1, .int .i64 wd1, .int .u64 n1, .string nm1, sl1]] w' (StrPost t1 w')))
  (tt : List UInt8) (HT : Hid (tt = nm ++ [91] ++ t0 ++ [58] ++ t1 ++ [93])) :
  Calls Tryz.prog 29 #[.agg #[.int .i64 4, .int .i64 a, .int .i64 op, .int .i64 wd, .int .u64 n, .string (bs nm), .slice (some ⟨b, 0, none⟩) 2 cap]] w (StrPost tt w) := by
 obtain ⟨x1, H1, l1, s1⟩ := add_to (bs nm) (⟨#[91]⟩) nm [91] rfl rfl (by (try simp only [lnC, lnN] at *); omega)
 obtain ⟨x2, H2, l2, s2⟩ := add_to (bs x1) (bs t0) x1 t0 rfl rfl (by (try simp only [lnC, lnN] at *); omega)
 obtain ⟨x3, H3, l3, s3⟩ := add_to (bs x2) (⟨#[58]⟩) x2 [58] rfl rfl (by (try simp only [lnC, lnN] at *); omega)
 obtain ⟨x4, H4, l4, s4⟩ := add_to (bs x3) (bs t1) x3 t1 rfl rfl (by (try simp only [lnC, lnN] at *); omega)
 obtain ⟨x5, H5, l5, s5⟩ := add_to (bs x4) (⟨#[93]⟩) x4 [93] rfl rfl (by (try simp only [lnC, lnN] at *); omega)
 have HF : Hid (x5 = tt) := by show x5 = _; rw [HT.out, H5.out, H4.out, H3.out, H2.out, H1.out]
 clear HT H1 l1 H2 l2 H3 l3 H4 l4 H5 l5
 go_enter Tryz.func29, Tryz.ntmps29
 go_wp2_with fail
 generalize hW : w.alloc (.cells #[.int .i64 4, .int .i64 a, .int .i64 op, .int .i64 wd, .int .u64 n, .string (bs nm), .slice (some ⟨b, 0, none⟩) 2 cap] 55) = W
 obtain ⟨x0, xx1, xx2, xx3, xx4, xx5, xx6, HB, hc, hlt, hle⟩ := box_facts hW
 have hbW := hle b hb
 rw [← hc b 0 hb] at c00; rw [← hc b 1 hb] at c01; rw [← hc b 2 hb] at c02; rw [← hc b 3 hb] at c03; rw [← hc b 4 hb] at c04; rw [← hc b 5 hb] at c05; rw [← hc b 6 hb] at c06; rw [← hc b 7 hb] at c10; rw [← hc b 8 hb] at c11; rw [← hc b 9 hb] at c12; rw [← hc b 10 hb] at c13; rw [← hc b 11 hb] at c14; rw [← hc b 12 hb] at c15; rw [← hc b 13 hb] at c16
 clear hc hle hW
 go_region_held3 (fun w' => Below W.heap.size W w' ∧ (∀ b' o, b' < W.heap.size → w'.cell? ⟨b', o, none⟩ = W.cell? ⟨b', o, none⟩))
  (first | assumption | exact sees_drew _ | (refine sees_call (by assumption) (by assumption)))
  (first | (go_at_call_of 29 (Value.int IntKind.i64 a0); refine (ih0.out _ (HB.out.trans (Below.mono (And.left (by assumption)) (by exact HB.out.size)))).mono ?_; rintro e w2 ⟨rfl, hb2⟩) | (go_at_call_of 29 (Value.int IntKind.i64 a1); refine (ih1.out _ (HB.out.trans (Below.mono (And.left (by assumption)) (by exact HB.out.size)))).mono ?_; rintro e w2 ⟨rfl, hb2⟩))
 all_goals
  go_wp2_with fail
  go_ret
  exact ⟨ret_str (congrArg bs HF.out), HB.out.trans (Below.mono (And.left (by assumption)) HB.out.size)⟩
theorem pe_unary (w : World) (a op wd n : Int) (nm : List UInt8) (b cap : Nat) (hb : b < w.heap.size) (o1 : 1 ≤ op) (o2 : op ≤ 6)
  (k0 a0 op0 wd0 n0 : Int) (nm0 : ByteArray) (sl0 : Value) (t0 : List UInt8) (z0 : t0.length ≤ 1000000000000) (c00 : w.cell? ⟨b, 0, none⟩ = some (.int .i64 k0)) (c01 : w.cell? ⟨b, 1, none⟩ = some (.int .i64 a0)) (c02 : w.cell? ⟨b, 2, none⟩ = some (.int .i64 op0)) (c03 : w.cell? ⟨b, 3, none⟩ = some (.int .i64 wd0)) (c04 : w.cell? ⟨b, 4, none⟩ = some (.int .u64 n0)) (c05 : w.cell? ⟨b, 5, none⟩ = some (.string nm0)) (c06 : w.cell? ⟨b, 6, none⟩ = some (sl0))
  (ih0 : Hid (∀ w', Below w.heap.size w w' → Calls Tryz.prog 49 #[.agg #[.int .i64 k0, .int .i64 a0, .int .i64 op0, .int .i64 wd0, .int .u64 n0, .string nm0, sl0]] w' (StrPost t0 w')))
  (tt : List UInt8) (HT : Hid (tt = signTxt op ++ t0)) :
  Calls Tryz.prog 29 #[.agg #[.int .i64 5, .int .i64 a, .int .i64 op, .int .i64 wd, .int .u64 n, .string (bs nm), .slice (some ⟨b, 0, none⟩) 1 cap]] w (StrPost tt w) := by
 obtain ⟨sg, HSg, zs⟩ : ∃ sg : List UInt8, Hid (sg = signTxt op) ∧ sg.length ≤ 10 := ⟨_, rfl, sign_len op (by omega) (by omega)⟩
 have hsg : ∀ w', Calls Tryz.prog 48 #[.int .i64 op] w' (StrPost sg w') := fun w' => by rw [HSg.out]; exact sign_any op (by omega) (by omega) w'
 have HSG := hid hsg
 clear hsg o1 o2
 obtain ⟨x1, H1, l1, s1⟩ := add_to (bs sg) (bs t0) sg t0 rfl rfl (by (try simp only [lnC, lnN] at *); omega)
 have HF : Hid (x1 = tt) := by show x1 = _; rw [HT.out, H1.out, HSg.out]
 clear HT H1 l1
 go_enter Tryz.func29, Tryz.ntmps29
 go_wp2_with fail
 generalize hW : w.alloc (.cells #[.int .i64 5, .int .i64 a, .int .i64 op, .int .i64 wd, .int .u64 n, .string (bs nm), .slice (some ⟨b, 0, none⟩) 1 cap] 55) = W
 obtain ⟨x0, xx1, xx2, xx3, xx4, xx5, xx6, HB, hc, hlt, hle⟩ := box_facts hW
 have hbW := hle b hb
 rw [← hc b 0 hb] at c00; rw [← hc b 1 hb] at c01; rw [← hc b 2 hb] at c02; rw [← hc b 3 hb] at c03; rw [← hc b 4 hb] at c04; rw [← hc b 5 hb] at c05; rw [← hc b 6 hb] at c06
 clear hc hle hW
 go_region_held3 (fun w' => Below W.heap.size W w' ∧ (∀ b' o, b' < W.heap.size → w'.cell? ⟨b', o, none⟩ = W.cell? ⟨b', o, none⟩))
  (first | assumption | exact sees_drew _ | (refine sees_call (by assumption) (by assumption)))
  (first | (go_at_call_of 49 (Value.int IntKind.i64 a0); refine (ih0.out _ (HB.out.trans (Below.mono (And.left (by assumption)) (by exact HB.out.size)))).mono ?_; rintro e w2 ⟨rfl, hb2⟩) | (go_at_call 48; refine (HSG.out _).mono ?_; rintro e w2 ⟨rfl, hb2⟩))
 all_goals
  go_wp2_with fail
  go_ret
  exact ⟨ret_str (congrArg bs HF.out), HB.out.trans (Below.mono (And.left (by assumption)) HB.out.size)⟩
theorem pe_binary (w : World) (a op wd n : Int) (nm : List UInt8) (b cap : Nat) (hb : b < w.heap.size) (o1 : 7 ≤ op) (o2 : op ≤ 22)
  (k0 a0 op0 wd0 n0 : Int) (nm0 : ByteArray) (sl0 : Value) (t0 : List UInt8) (z0 : t0.length ≤ 1000000000000) (c00 : w.cell? ⟨b, 0, none⟩ = some (.int .i64 k0)) (c01 : w.cell? ⟨b, 1, none⟩ = some (.int .i64 a0)) (c02 : w.cell? ⟨b, 2, none⟩ = some (.int .i64 op0)) (c03 : w.cell? ⟨b, 3, none⟩ = some (.int .i64 wd0)) (c04 : w.cell? ⟨b, 4, none⟩ = some (.int .u64 n0)) (c05 : w.cell? ⟨b, 5, none⟩ = some (.string nm0)) (c06 : w.cell? ⟨b, 6, none⟩ = some (sl0))
  (ih0 : Hid (∀ w', Below w.heap.size w w' → Calls Tryz.prog 49 #[.agg #[.int .i64 k0, .int .i64 a0, .int .i64 op0, .int .i64 wd0, .int .u64 n0, .string nm0, sl0]] w' (StrPost t0 w')))
  (k1 a1 op1 wd1 n1 : Int) (nm1 : ByteArray) (sl1 : Value) (t1 : List UInt8) (z1 : t1.length ≤ 1000000000000) (c10 : w.cell? ⟨b, 7, none⟩ = some (.int .i64 k1)) (c11 : w.cell? ⟨b, 8, none⟩ = some (.int .i64 a1)) (c12 : w.cell? ⟨b, 9, none⟩ = some (.int .i64 op1)) (c13 : w.cell? ⟨b, 10, none⟩ = some (.int .i64 wd1)) (c14 : w.cell? ⟨b, 11, none⟩ = some (.int .u64 n1)) (c15 : w.cell? ⟨b, 12, none⟩ = some (.string nm1)) (c16 : w.cell? ⟨b, 13, none⟩ = some (sl1))
  (ih1 : Hid (∀ w', Below w.heap.size w w' → Calls Tryz.prog 49 #[.agg #[.int .i64 k1, .int .i64 a1, .int .i64 op1, .int .i64 wd1, .int .u64 n1, .string nm1, sl1]] w' (StrPost t1 w')))
  (tt : List UInt8) (HT : Hid (tt = t0 ++ [32] ++ signTxt op ++ [32] ++ t1)) :
  Calls Tryz.prog 29 #[.agg #[.int .i64 6, .int .i64 a, .int .i64 op, .int .i64 wd, .int .u64 n, .string (bs nm), .slice (some ⟨b, 0, none⟩) 2 cap]] w (StrPost tt w) := by
 obtain ⟨sg, HSg, zs⟩ : ∃ sg : List UInt8, Hid (sg = signTxt op) ∧ sg.length ≤ 10 := ⟨_, rfl, sign_len op (by omega) (by omega)⟩
 have hsg : ∀ w', Calls Tryz.prog 48 #[.int .i64 op] w' (StrPost sg w') := fun w' => by rw [HSg.out]; exact sign_any op (by omega) (by omega) w'
 have HSG := hid hsg
 clear hsg o1 o2
 obtain ⟨x1, H1, l1, s1⟩ := add_to (bs t0) (⟨#[32]⟩) t0 [32] rfl rfl (by (try simp only [lnC, lnN] at *); omega)
 obtain ⟨x2, H2, l2, s2⟩ := add_to (bs x1) (bs sg) x1 sg rfl rfl (by (try simp only [lnC, lnN] at *); omega)
 obtain ⟨x3, H3, l3, s3⟩ := add_to (bs x2) (⟨#[32]⟩) x2 [32] rfl rfl (by (try simp only [lnC, lnN] at *); omega)
 obtain ⟨x4, H4, l4, s4⟩ := add_to (bs x3) (bs t1) x3 t1 rfl rfl (by (try simp only [lnC, lnN] at *); omega)
 have HF : Hid (x4 = tt) := by show x4 = _; rw [HT.out, H4.out, H3.out, H2.out, H1.out, HSg.out]
 clear HT H1 l1 H2 l2 H3 l3 H4 l4
 go_enter Tryz.func29, Tryz.ntmps29
 go_wp2_with fail
 generalize hW : w.alloc (.cells #[.int .i64 6, .int .i64 a, .int .i64 op, .int .i64 wd, .int .u64 n, .string (bs nm), .slice (some ⟨b, 0, none⟩) 2 cap] 55) = W
 obtain ⟨x0, xx1, xx2, xx3, xx4, xx5, xx6, HB, hc, hlt, hle⟩ := box_facts hW
 have hbW := hle b hb
 rw [← hc b 0 hb] at c00; rw [← hc b 1 hb] at c01; rw [← hc b 2 hb] at c02; rw [← hc b 3 hb] at c03; rw [← hc b 4 hb] at c04; rw [← hc b 5 hb] at c05; rw [← hc b 6 hb] at c06; rw [← hc b 7 hb] at c10; rw [← hc b 8 hb] at c11; rw [← hc b 9 hb] at c12; rw [← hc b 10 hb] at c13; rw [← hc b 11 hb] at c14; rw [← hc b 12 hb] at c15; rw [← hc b 13 hb] at c16
 clear hc hle hW
 go_region_held3 (fun w' => Below W.heap.size W w' ∧ (∀ b' o, b' < W.heap.size → w'.cell? ⟨b', o, none⟩ = W.cell? ⟨b', o, none⟩))
  (first | assumption | exact sees_drew _ | (refine sees_call (by assumption) (by assumption)))
  (first | (go_at_call_of 49 (Value.int IntKind.i64 a0); refine (ih0.out _ (HB.out.trans (Below.mono (And.left (by assumption)) (by exact HB.out.size)))).mono ?_; rintro e w2 ⟨rfl, hb2⟩) | (go_at_call_of 49 (Value.int IntKind.i64 a1); refine (ih1.out _ (HB.out.trans (Below.mono (And.left (by assumption)) (by exact HB.out.size)))).mono ?_; rintro e w2 ⟨rfl, hb2⟩) | (go_at_call 48; refine (HSG.out _).mono ?_; rintro e w2 ⟨rfl, hb2⟩))
 all_goals
  go_wp2_with fail
  go_ret
  exact ⟨ret_str (congrArg bs HF.out), HB.out.trans (Below.mono (And.left (by assumption)) HB.out.size)⟩
theorem pe_repeat (w : World) (a op wd n : Int) (nm : List UInt8) (b cap : Nat) (hb : b < w.heap.size)
  (k0 a0 op0 wd0 n0 : Int) (nm0 : ByteArray) (sl0 : Value) (t0 : List UInt8) (z0 : t0.length ≤ 1000000000000) (c00 : w.cell? ⟨b, 0, none⟩ = some (.int .i64 k0)) (c01 : w.cell? ⟨b, 1, none⟩ = some (.int .i64 a0)) (c02 : w.cell? ⟨b, 2, none⟩ = some (.int .i64 op0)) (c03 : w.cell? ⟨b, 3, none⟩ = some (.int .i64 wd0)) (c04 : w.cell? ⟨b, 4, none⟩ = some (.int .u64 n0)) (c05 : w.cell? ⟨b, 5, none⟩ = some (.string nm0)) (c06 : w.cell? ⟨b, 6, none⟩ = some (sl0))
  (ih0 : Hid (∀ w', Below w.heap.size w w' → Calls Tryz.prog 29 #[.agg #[.int .i64 k0, .int .i64 a0, .int .i64 op0, .int .i64 wd0, .int .u64 n0, .string nm0, sl0]] w' (StrPost t0 w')))
  (k1 a1 op1 wd1 n1 : Int) (nm1 : ByteArray) (sl1 : Value) (t1 : List UInt8) (z1 : t1.length ≤ 1000000000000) (c10 : w.cell? ⟨b, 7, none⟩ = some (.int .i64 k1)) (c11 : w.cell? ⟨b, 8, none⟩ = some (.int .i64 a1)) (c12 : w.cell? ⟨b, 9, none⟩ = some (.int .i64 op1)) (c13 : w.cell? ⟨b, 10, none⟩ = some (.int .i64 wd1)) (c14 : w.cell? ⟨b, 11, none⟩ = some (.int .u64 n1)) (c15 : w.cell? ⟨b, 12, none⟩ = some (.string nm1)) (c16 : w.cell? ⟨b, 13, none⟩ = some (sl1))
  (ih1 : Hid (∀ w', Below w.heap.size w w' → Calls Tryz.prog 29 #[.agg #[.int .i64 k1, .int .i64 a1, .int .i64 op1, .int .i64 wd1, .int .u64 n1, .string nm1, sl1]] w' (StrPost t1 w')))
  (tt : List UInt8) (HT : Hid (tt = [123] ++ t0 ++ t1 ++ [125])) :
  Calls Tryz.prog 29 #[.agg #[.int .i64 9, .int .i64 a, .int .i64 op, .int .i64 wd, .int .u64 n, .string (bs nm), .slice (some ⟨b, 0, none⟩) 2 cap]] w (StrPost tt w) := by
 obtain ⟨x1, H1, l1, s1⟩ := add_to (⟨#[123]⟩) (bs t0) [123] t0 rfl rfl (by (try simp only [lnC, lnN] at *); omega)
 obtain ⟨x2, H2, l2, s2⟩ := add_to (bs x1) (bs t1) x1 t1 rfl rfl (by (try simp only [lnC, lnN] at *); omega)
 obtain ⟨x3, H3, l3, s3⟩ := add_to (bs x2) (⟨#[125]⟩) x2 [125] rfl rfl (by (try simp only [lnC, lnN] at *); omega)
 have HF : Hid (x3 = tt) := by show x3 = _; rw [HT.out, H3.out, H2.out, H1.out]
 clear HT H1 l1 H2 l2 H3 l3
 go_enter Tryz.func29, Tryz.ntmps29
 go_wp2_with fail
 generalize hW : w.alloc (.cells #[.int .i64 9, .int .i64 a, .int .i64 op, .int .i64 wd, .int .u64 n, .string (bs nm), .slice (some ⟨b, 0, none⟩) 2 cap] 55) = W
 obtain ⟨x0, xx1, xx2, xx3, xx4, xx5, xx6, HB, hc, hlt, hle⟩ := box_facts hW
 have hbW := hle b hb
 rw [← hc b 0 hb] at c00; rw [← hc b 1 hb] at c01; rw [← hc b 2 hb] at c02; rw [← hc b 3 hb] at c03; rw [← hc b 4 hb] at c04; rw [← hc b 5 hb] at c05; rw [← hc b 6 hb] at c06; rw [← hc b 7 hb] at c10; rw [← hc b 8 hb] at c11; rw [← hc b 9 hb] at c12; rw [← hc b 10 hb] at c13; rw [← hc b 11 hb] at c14; rw [← hc b 12 hb] at c15; rw [← hc b 13 hb] at c16
 clear hc hle hW
 go_region_held3 (fun w' => Below W.heap.size W w' ∧ (∀ b' o, b' < W.heap.size → w'.cell? ⟨b', o, none⟩ = W.cell? ⟨b', o, none⟩))
  (first | assumption | exact sees_drew _ | (refine sees_call (by assumption) (by assumption)))
  (first | (go_at_call_of 29 (Value.int IntKind.i64 a0); refine (ih0.out _ (HB.out.trans (Below.mono (And.left (by assumption)) (by exact HB.out.size)))).mono ?_; rintro e w2 ⟨rfl, hb2⟩) | (go_at_call_of 29 (Value.int IntKind.i64 a1); refine (ih1.out _ (HB.out.trans (Below.mono (And.left (by assumption)) (by exact HB.out.size)))).mono ?_; rintro e w2 ⟨rfl, hb2⟩))
 all_goals
  go_wp2_with fail
  go_ret
  exact ⟨ret_str (congrArg bs HF.out), HB.out.trans (Below.mono (And.left (by assumption)) HB.out.size)⟩
theorem pe_cond (w : World) (a op wd n : Int) (nm : List UInt8) (b cap : Nat) (hb : b < w.heap.size)
  (k0 a0 op0 wd0 n0 : Int) (nm0 : ByteArray) (sl0 : Value) (t0 : List UInt8) (z0 : t0.length ≤ 1000000000000) (c00 : w.cell? ⟨b, 0, none⟩ = some (.int .i64 k0)) (c01 : w.cell? ⟨b, 1, none⟩ = some (.int .i64 a0)) (c02 : w.cell? ⟨b, 2, none⟩ = some (.int .i64 op0)) (c03 : w.cell? ⟨b, 3, none⟩ = some (.int .i64 wd0)) (c04 : w.cell? ⟨b, 4, none⟩ = some (.int .u64 n0)) (c05 : w.cell? ⟨b, 5, none⟩ = some (.string nm0)) (c06 : w.cell? ⟨b, 6, none⟩ = some (sl0))
  (ih0 : Hid (∀ w', Below w.heap.size w w' → Calls Tryz.prog 49 #[.agg #[.int .i64 k0, .int .i64 a0, .int .i64 op0, .int .i64 wd0, .int .u64 n0, .string nm0, sl0]] w' (StrPost t0 w')))
  (k1 a1 op1 wd1 n1 : Int) (nm1 : ByteArray) (sl1 : Value) (t1 : List UInt8) (z1 : t1.length ≤ 1000000000000) (c10 : w.cell? ⟨b, 7, none⟩ = some (.int .i64 k1)) (c11 : w.cell? ⟨b, 8, none⟩ = some (.int .i64 a1)) (c12 : w.cell? ⟨b, 9, none⟩ = some (.int .i64 op1)) (c13 : w.cell? ⟨b, 10, none⟩ = some (.int .i64 wd1)) (c14 : w.cell? ⟨b, 11, none⟩ = some (.int .u64 n1)) (c15 : w.cell? ⟨b, 12, none⟩ = some (.string nm1)) (c16 : w.cell? ⟨b, 13, none⟩ = some (sl1))
  (ih1 : Hid (∀ w', Below w.heap.size w w' → Calls Tryz.prog 49 #[.agg #[.int .i64 k1, .int .i64 a1, .int .i64 op1, .int .i64 wd1, .int .u64 n1, .string nm1, sl1]] w' (StrPost t1 w')))
  (k2 a2 op2 wd2 n2 : Int) (nm2 : ByteArray) (sl2 : Value) (t2 : List UInt8) (z2 : t2.length ≤ 1000000000000) (c20 : w.cell? ⟨b, 14, none⟩ = some (.int .i64 k2)) (c21 : w.cell? ⟨b, 15, none⟩ = some (.int .i64 a2)) (c22 : w.cell? ⟨b, 16, none⟩ = some (.int .i64 op2)) (c23 : w.cell? ⟨b, 17, none⟩ = some (.int .i64 wd2)) (c24 : w.cell? ⟨b, 18, none⟩ = some (.int .u64 n2)) (c25 : w.cell? ⟨b, 19, none⟩ = some (.string nm2)) (c26 : w.cell? ⟨b, 20, none⟩ = some (sl2))
  (ih2 : Hid (∀ w', Below w.heap.size w w' → Calls Tryz.prog 49 #[.agg #[.int .i64 k2, .int .i64 a2, .int .i64 op2, .int .i64 wd2, .int .u64 n2, .string nm2, sl2]] w' (StrPost t2 w')))
  (tt : List UInt8) (HT : Hid (tt = t0 ++ [32, 63, 32] ++ t1 ++ [32, 58, 32] ++ t2)) :
  Calls Tryz.prog 29 #[.agg #[.int .i64 7, .int .i64 a, .int .i64 op, .int .i64 wd, .int .u64 n, .string (bs nm), .slice (some ⟨b, 0, none⟩) 3 cap]] w (StrPost tt w) := by
 obtain ⟨x1, H1, l1, s1⟩ := add_to (bs t0) (⟨#[32, 63, 32]⟩) t0 [32, 63, 32] rfl rfl (by (try simp only [lnC, lnN] at *); omega)
 obtain ⟨x2, H2, l2, s2⟩ := add_to (bs x1) (bs t1) x1 t1 rfl rfl (by (try simp only [lnC, lnN] at *); omega)
 obtain ⟨x3, H3, l3, s3⟩ := add_to (bs x2) (⟨#[32, 58, 32]⟩) x2 [32, 58, 32] rfl rfl (by (try simp only [lnC, lnN] at *); omega)
 obtain ⟨x4, H4, l4, s4⟩ := add_to (bs x3) (bs t2) x3 t2 rfl rfl (by (try simp only [lnC, lnN] at *); omega)
 have HF : Hid (x4 = tt) := by show x4 = _; rw [HT.out, H4.out, H3.out, H2.out, H1.out]
 clear HT H1 l1 H2 l2 H3 l3 H4 l4
 go_enter Tryz.func29, Tryz.ntmps29
 go_wp2_with fail
 generalize hW : w.alloc (.cells #[.int .i64 7, .int .i64 a, .int .i64 op, .int .i64 wd, .int .u64 n, .string (bs nm), .slice (some ⟨b, 0, none⟩) 3 cap] 55) = W
 obtain ⟨x0, xx1, xx2, xx3, xx4, xx5, xx6, HB, hc, hlt, hle⟩ := box_facts hW
 have hbW := hle b hb
 rw [← hc b 0 hb] at c00; rw [← hc b 1 hb] at c01; rw [← hc b 2 hb] at c02; rw [← hc b 3 hb] at c03; rw [← hc b 4 hb] at c04; rw [← hc b 5 hb] at c05; rw [← hc b 6 hb] at c06; rw [← hc b 7 hb] at c10; rw [← hc b 8 hb] at c11; rw [← hc b 9 hb] at c12; rw [← hc b 10 hb] at c13; rw [← hc b 11 hb] at c14; rw [← hc b 12 hb] at c15; rw [← hc b 13 hb] at c16; rw [← hc b 14 hb] at c20; rw [← hc b 15 hb] at c21; rw [← hc b 16 hb] at c22; rw [← hc b 17 hb] at c23; rw [← hc b 18 hb] at c24; rw [← hc b 19 hb] at c25; rw [← hc b 20 hb] at c26
 clear hc hle hW
 go_region_held3 (fun w' => Below W.heap.size W w' ∧ (∀ b' o, b' < W.heap.size → w'.cell? ⟨b', o, none⟩ = W.cell? ⟨b', o, none⟩))
  (first | assumption | exact sees_drew _ | (refine sees_call (by assumption) (by assumption)))
  (first | (go_at_call_of 49 (Value.int IntKind.i64 a0); refine (ih0.out _ (HB.out.trans (Below.mono (And.left (by assumption)) (by exact HB.out.size)))).mono ?_; rintro e w2 ⟨rfl, hb2⟩) | (go_at_call_of 49 (Value.int IntKind.i64 a1); refine (ih1.out _ (HB.out.trans (Below.mono (And.left (by assumption)) (by exact HB.out.size)))).mono ?_; rintro e w2 ⟨rfl, hb2⟩) | (go_at_call_of 49 (Value.int IntKind.i64 a2); refine (ih2.out _ (HB.out.trans (Below.mono (And.left (by assumption)) (by exact HB.out.size)))).mono ?_; rintro e w2 ⟨rfl, hb2⟩))
 all_goals
  go_wp2_with fail
  go_ret
  exact ⟨ret_str (congrArg bs HF.out), HB.out.trans (Below.mono (And.left (by assumption)) HB.out.size)⟩
theorem inner_any (w : World) (k a op wd n : Int) (nm : ByteArray) (sl : Value) (t : List UInt8) (z : t.length ≤ 1000000000000)
  (ih : Hid (∀ w', Below w.heap.size w w' → Calls Tryz.prog 29 #[.agg #[.int .i64 k, .int .i64 a, .int .i64 op, .int .i64 wd, .int .u64 n, .string nm, sl]] w' (StrPost t w')))
  (tt : List UInt8) (HT : Hid (tt = inTxt k t)) (w1 : World) (hw : Below w.heap.size w w1) :
  Calls Tryz.prog 49 #[.agg #[.int .i64 k, .int .i64 a, .int .i64 op, .int .i64 wd, .int .u64 n, .string nm, sl]] w1 (StrPost tt w1) := by
 have HW := hid hw
 clear hw
 obtain ⟨x1, H1, l1, s1⟩ := add_to ⟨#[40]⟩ (bs t) [40] t rfl rfl (by simp; omega)
 obtain ⟨x2, H2, l2, s2⟩ := add_to (bs x1) ⟨#[41]⟩ x1 [41] rfl rfl (by simp at *; omega)
 have HF : Hid (x2 = [40] ++ t ++ [41]) := by show x2 = _; rw [H2.out, H1.out]
 clear H1 H2 l1 l2
 go_enter Tryz.func49, Tryz.ntmps49
 go_wp2_with fail
 refine (ih.out _ (HW.out.trans (Below.mono ((Below.refl _ _).alloc (Nat.le_refl _) _) HW.out.size))).mono ?_
 rintro e w2 ⟨rfl, hb2⟩
 have hB : Hid (Below w1.heap.size w1 w2) := ((Below.refl _ _).alloc (Nat.le_refl _) _).trans (hb2.mono (by simp))
 have hk : w2.cell? ⟨w1.heap.size, 0, none⟩ = some (.int .i64 k) := by
  rw [hb2.cell (p := ⟨w1.heap.size, 0, none⟩) (by simp)]; simp
 clear hb2
 by_cases h5 : k = 5
 ·subst h5
  go_wp2_with fail
  go_ret
  exact ⟨ret_str (congrArg bs (by rw [HF.out, HT.out]; rfl)), hB.out⟩
 ·by_cases h6 : k = 6
  ·subst h6
   go_wp2_with fail
   go_ret
   exact ⟨ret_str (congrArg bs (by rw [HF.out, HT.out]; rfl)), hB.out⟩
  ·by_cases h7 : k = 7
   ·subst h7
    go_wp2_with fail
    go_ret
    exact ⟨ret_str (congrArg bs (by rw [HF.out, HT.out]; rfl)), hB.out⟩
   ·have e : inTxt k t = t := by unfold inTxt; rw [if_neg (by omega)]
    have HE := hid e
    have b5 : (k == 5) = false := beq_eq_false_iff_ne.2 h5
    have b6 : (k == 6) = false := beq_eq_false_iff_ne.2 h6
    have b7 : (k == 7) = false := beq_eq_false_iff_ne.2 h7
    clear e h5 h6 h7
    go_wp2_with fail
    go_ret
    exact ⟨ret_str (congrArg bs (by rw [HT.out, HE.out])), hB.out⟩
theorem commaTxt_cons (t y : List UInt8) (r : List (List UInt8)) : commaTxt (t :: y :: r) = t ++ [44, 32] ++ commaTxt (y :: r) := rfl
theorem commaTxt_snoc (l : List (List UInt8)) (t : List UInt8) (h : l ≠ []) : commaTxt (l ++ [t]) = commaTxt l ++ [44, 32] ++ t := by
 induction l with
 | nil => exact absurd rfl h
 | cons x r ih =>
  cases r with
  | nil => rfl
  | cons y r' =>
   have h' := ih (by simp)
   have e : (x :: y :: r') ++ [t] = x :: y :: (r' ++ [t]) := rfl
   have e' : (y :: r') ++ [t] = y :: (r' ++ [t]) := rfl
   rw [e, commaTxt_cons, ← e', h', commaTxt_cons]
   simp
theorem commaTxt_take (l : List (List UInt8)) (k : Nat) : (commaTxt (l.take k)).length ≤ (commaTxt l).length := by
 induction l generalizing k with
 | nil => simp
 | cons x r ih =>
  cases k with
  | zero => simp [commaTxt]
  | succ k =>
   cases r with
   | nil => simp
   | cons y r' =>
    cases k with
    | zero => simp [commaTxt]
    | succ k =>
     have h' := ih (k + 1)
     have e : (x :: y :: r').take (k + 1 + 1) = x :: y :: r'.take k := rfl
     have e' : (y :: r').take (k + 1) = y :: r'.take k := rfl
     rw [e'] at h'
     rw [e, commaTxt_cons, commaTxt_cons]
     simp at h' ⊢
     exact h'
theorem commaTxt_next (l : List (List UInt8)) (k : Nat) (h : k < l.length) : commaTxt (l.take (k + 1)) = if k = 0 then l[k] else commaTxt (l.take k) ++ [44, 32] ++ l[k] := by
 rw [List.take_succ_eq_append_getElem h]
 by_cases hk : k = 0
 ·subst hk; simp [commaTxt]
 ·rw [if_neg hk, commaTxt_snoc]
  intro e
  have hl := congrArg List.length e
  rw [List.length_take, lnN] at hl
  omega
theorem comma_any (w : World) (b cap : Nat) (hb : b < w.heap.size) (es : List (Int × List Value × List UInt8)) (hlen : es.length ≤ 2000000000000) (z : (commaTxt (es.map (·.2.2))).length ≤ 1000000000000)
  (hel : Hid (∀ (i : Nat) (x : Int × List Value × List UInt8), es[i]? = some x → ∃ (a op wd n : Int) (nm : ByteArray) (sl : Value), x.2.1 = [.int .i64 x.1, .int .i64 a, .int .i64 op, .int .i64 wd, .int .u64 n, .string nm, sl]))
  (hce : Hid (∀ (i : Nat) (x : Int × List Value × List UInt8), es[i]? = some x → ∀ (j : Nat) (v : Value), x.2.1[j]? = some v → w.cell? ⟨b, i * 7 + j, none⟩ = some v))
  (ih : Hid (∀ (i : Nat) (x : Int × List Value × List UInt8), es[i]? = some x → ∀ w', Below w.heap.size w w' → Calls Tryz.prog 29 #[.agg x.2.1.toArray] w' (StrPost x.2.2 w')))
  (w1 : World) (hw : Below w.heap.size w w1) :
  Calls Tryz.prog 50 #[.slice (some ⟨b, 0, none⟩) es.length cap] w1 (StrPost (commaTxt (es.map (·.2.2))) w1) := by
 have HW := hid hw
 clear hw
 go_enter Tryz.func50, Tryz.ntmps50
 go_wp2_with fail
 go_loopw [3, 4] (fun s i w' => ∃ (k : Nat) (l : List UInt8), k ≤ es.length ∧ i = .int .i64 k ∧ s = .string (bs l) ∧ Hid (l = commaTxt ((es.map (·.2.2)).take k)) ∧ Hid (Below w1.heap.size w1 w')) (fun _ i _ => es.length - (intOf i).toNat)
 case atStart => exact ⟨0, [], Nat.zero_le _, rfl, rfl, rfl, Below.refl _ _⟩
 case round =>
  obtain ⟨k, l, hk, rfl, rfl, HL, HB⟩ := hrel
  by_cases hlt : k < es.length
  ·obtain ⟨x, hx⟩ : ∃ x, es[k]? = some x := ⟨es[k], List.getElem?_eq_getElem hlt⟩
   have hxt : (es.map (·.2.2))[k]'(by simpa using hlt) = x.2.2 := by
    have : es[k] = x := by rw [List.getElem?_eq_getElem hlt] at hx; exact Option.some.inj hx
    simp [this]
   have hnx := commaTxt_next (es.map (·.2.2)) k (by simpa using hlt)
   have hz1 := commaTxt_take (es.map (·.2.2)) (k + 1)
   rw [hxt] at hnx
   obtain ⟨k0, cs0, t0⟩ := x
   obtain ⟨a0, op0, wd0, n0, nm0, sl0, hcs⟩ := hel.out k _ hx
   simp only at hcs hnx
   subst hcs
   have hwr : Hid (Below w.heap.size w wr) := HW.out.trans (HB.out.mono HW.out.size)
   have ce : ∀ (j : Nat) (v : Value), [Value.int .i64 k0, .int .i64 a0, .int .i64 op0, .int .i64 wd0, .int .u64 n0, .string nm0, sl0][j]? = some v → wr.cell? ⟨b, k * 7 + j, none⟩ = some v := fun j v hv => by
    rw [hwr.out.cell (p := ⟨b, k * 7 + j, none⟩) hb]; exact hce.out k _ hx j v hv
   have c0 : wr.cell? ⟨b, k * 7, none⟩ = _ := ce 0 _ rfl
   have c1 := ce 1 _ rfl
   have c2 := ce 2 _ rfl
   have c3 := ce 3 _ rfl
   have c4 := ce 4 _ rfl
   have c5 := ce 5 _ rfl
   have c6 := ce 6 _ rfl
   have IH : Hid (∀ w', Below w.heap.size w w' → Calls Tryz.prog 29 #[.agg #[.int .i64 k0, .int .i64 a0, .int .i64 op0, .int .i64 wd0, .int .u64 n0, .string nm0, sl0]] w' (StrPost t0 w')) := ih.out k _ hx
   clear ce hx hxt
   have hl : l.length ≤ 1000000000000 := by rw [HL.out]; exact Nat.le_trans (commaTxt_take _ k) z
   by_cases h0 : k = 0
   ·have hl0 : l = [] := by rw [HL.out, h0]; rfl
    rw [if_pos h0] at hnx
    obtain ⟨x1, H1, l1, s1⟩ := add_to (bs l) (bs t0) l t0 rfl rfl (by rw [hnx] at hz1; omega)
    have HN : Hid (x1 = commaTxt ((es.map (·.2.2)).take (k + 1))) := by show x1 = _; rw [H1.out, hnx, hl0]; rfl
    have h0' : ¬ (0 : Int) < (k : Int) := by omega
    clear h0 hnx hz1 H1 l1 hl0 hl
    go_wp2_with fail
    refine (IH.out _ hwr.out).mono ?_
    rintro e w2 ⟨rfl, hb2⟩
    have hB2 : Hid (Below w1.heap.size w1 w2) := HB.out.trans (hb2.mono HB.out.size)
    clear hb2
    go_wp2_with fail
    exact ⟨⟨k + 1, x1, by omega, by go_num, rfl, HN, hB2.out⟩, by simp [intOf]; omega⟩
   ·rw [if_neg h0] at hnx
    obtain ⟨x1, H1, l1, s1⟩ := add_to (bs l) ⟨#[44, 32]⟩ l [44, 32] rfl rfl (by simp; omega)
    obtain ⟨x2, H2, l2, s2⟩ := add_to (bs x1) (bs t0) x1 t0 rfl rfl (by rw [hnx] at hz1; simp at hz1 l1; omega)
    have HN : Hid (x2 = commaTxt ((es.map (·.2.2)).take (k + 1))) := by show x2 = _; rw [H2.out, H1.out, hnx, HL.out]
    have h0' : (0 : Int) < (k : Int) := by omega
    clear h0 hnx hz1 H1 l1 H2 l2 hl
    go_wp2_with fail
    refine (IH.out _ hwr.out).mono ?_
    rintro e w2 ⟨rfl, hb2⟩
    have hB2 : Hid (Below w1.heap.size w1 w2) := HB.out.trans (hb2.mono HB.out.size)
    clear hb2
    go_wp2_with fail
    exact ⟨⟨k + 1, x2, by omega, by go_num, rfl, HN, hB2.out⟩, by simp [intOf]; omega⟩
  ·go_wp2_with fail
   go_ret
   refine ⟨ret_str (congrArg bs ?_), HB.out⟩
   rw [HL.out, List.take_of_length_le (by simp; omega)]
theorem pe_name (w : World) (a op wd n : Int) (nm : List UInt8) (sl : Value) :
  Calls Tryz.prog 29 #[.agg #[.int .i64 2, .int .i64 a, .int .i64 op, .int .i64 wd, .int .u64 n, .string (bs nm), sl]] w (StrPost nm w) := by
 go_enter Tryz.func29, Tryz.ntmps29
 go_wp2_with fail
 go_ret
 exact ⟨rfl, (Below.refl _ _).alloc (Nat.le_refl _) _⟩
theorem pe_num0 (w : World) (a op n : Int) (nm : ByteArray) (sl : Value) (h0 : 0 ≤ n) (h1 : n < 4294967296) :
  Calls Tryz.prog 29 #[.agg #[.int .i64 1, .int .i64 a, .int .i64 op, .int .i64 0, .int .u64 n, .string nm, sl]] w (StrPost (decTxt n.toNat) w) := by
 go_enter Tryz.func29, Tryz.ntmps29
 go_wp2_with fail
 refine (decimal_any n h0 h1 _).mono ?_
 rintro e w2 ⟨rfl, hb2⟩
 have hB : Hid (Below w.heap.size w w2) := ((Below.refl _ _).alloc (Nat.le_refl _) _).trans (hb2.mono (by simp))
 clear hb2
 go_wp2_with fail
 go_ret
 exact ⟨rfl, hB.out⟩
theorem wrap_u64_id (x : Int) (h0 : 0 ≤ x) (h1 : x < 4294967296) : IntKind.u64.wrap x = x := by
 simp [IntKind.wrap, IntKind.signed, IntKind.bits]; omega
theorem pe_num1 (w : World) (a op wd n : Int) (nm : ByteArray) (sl : Value) (h0 : 0 ≤ n) (h1 : n < 4294967296) (w0 : 1 ≤ wd) (w1 : wd ≤ 32) (tt : List UInt8) (HT : Hid (tt = decTxt wd.toNat ++ [39, 100] ++ decTxt n.toNat)) :
  Calls Tryz.prog 29 #[.agg #[.int .i64 1, .int .i64 a, .int .i64 op, .int .i64 wd, .int .u64 n, .string nm, sl]] w (StrPost tt w) := by
 have HA : Hid (∀ w', Calls Tryz.prog 47 #[.int .u64 wd] w' (StrPost (decTxt wd.toNat) w')) := fun w' => decimal_any wd (by omega) (by omega) w'
 have HC : Hid (∀ w', Calls Tryz.prog 47 #[.int .u64 n] w' (StrPost (decTxt n.toNat) w')) := fun w' => decimal_any n h0 h1 w'
 have z1 := decTxt_len 9 wd.toNat (by omega)
 have z2 := decTxt_len 9 n.toNat (by omega)
 generalize decTxt wd.toNat = ta at *
 generalize decTxt n.toNat = tb at *
 obtain ⟨x1, H1, l1, s1⟩ := add_to (bs ta) ⟨#[39, 100]⟩ ta [39, 100] rfl rfl (by simp; omega)
 obtain ⟨x2, H2, l2, s2⟩ := add_to (bs x1) (bs tb) x1 tb rfl rfl (by simp at l1; omega)
 have HF : Hid (x2 = tt) := by show x2 = _; rw [HT.out, H2.out, H1.out]
 have hne : (wd == 0) = false := beq_eq_false_iff_ne.2 (by omega)
 have hwp := wrap_u64_id wd (by omega) (by omega)
 clear HT H1 H2 l1 l2 z1 z2
 go_enter Tryz.func29, Tryz.ntmps29
 go_wp2_with fail
 generalize hW : w.alloc (.cells #[.int .i64 1, .int .i64 a, .int .i64 op, .int .i64 wd, .int .u64 n, .string nm, sl] 55) = W
 obtain ⟨x0, xx1, xx2, xx3, xx4, xx5, xx6, HB, hc, hlt, hle⟩ := box_facts hW
 clear hc hle hW
 go_region_held3 (fun w' => Below W.heap.size W w' ∧ (∀ b' o, b' < W.heap.size → w'.cell? ⟨b', o, none⟩ = W.cell? ⟨b', o, none⟩))
  (first | assumption | exact sees_drew _ | (refine sees_call (by assumption) (by assumption)))
  (first | (go_at_call_of 47 (Value.int IntKind.u64 wd); refine (HA.out _).mono ?_; rintro e w2 ⟨rfl, hb2⟩) | (go_at_call_of 47 (Value.int IntKind.u64 n); refine (HC.out _).mono ?_; rintro e w2 ⟨rfl, hb2⟩))
 all_goals
  go_wp2_with fail
  go_ret
  exact ⟨ret_str (congrArg bs HF.out), HB.out.trans (Below.mono (And.left (by assumption)) HB.out.size)⟩
theorem pe_cat (w : World) (a op wd n : Int) (nm : List UInt8) (b cap len : Nat) (tc : List UInt8) (z : tc.length ≤ 1000000000000)
  (ih : Hid (∀ w', Below w.heap.size w w' → Calls Tryz.prog 50 #[.slice (some ⟨b, 0, none⟩) len cap] w' (StrPost tc w'))) (tt : List UInt8) (HT : Hid (tt = [123] ++ tc ++ [125])) :
  Calls Tryz.prog 29 #[.agg #[.int .i64 8, .int .i64 a, .int .i64 op, .int .i64 wd, .int .u64 n, .string (bs nm), .slice (some ⟨b, 0, none⟩) len cap]] w (StrPost tt w) := by
 obtain ⟨x1, H1, l1, s1⟩ := add_to ⟨#[123]⟩ (bs tc) [123] tc rfl rfl (by simp; omega)
 obtain ⟨x2, H2, l2, s2⟩ := add_to (bs x1) ⟨#[125]⟩ x1 [125] rfl rfl (by simp at *; omega)
 have HF : Hid (x2 = tt) := by show x2 = _; rw [HT.out, H2.out, H1.out]
 clear HT H1 H2 l1 l2
 go_enter Tryz.func29, Tryz.ntmps29
 go_wp2_with fail
 refine (ih.out _ ((Below.refl _ _).alloc (Nat.le_refl _) _)).mono ?_
 rintro e w2 ⟨rfl, hb2⟩
 have hB : Hid (Below w.heap.size w w2) := ((Below.refl _ _).alloc (Nat.le_refl _) _).trans (hb2.mono (by simp))
 clear hb2
 go_wp2_with fail
 go_ret
 exact ⟨ret_str (congrArg bs HF.out), hB.out⟩
theorem commaTxt_count (l : List (List UInt8)) : l.length ≤ (commaTxt l).length + 1 := by
 induction l with
 | nil => simp
 | cons x r ih =>
  cases r with
  | nil => simp
  | cons y r' => rw [commaTxt_cons]; simp at ih ⊢; omega
theorem commaTxt_mem (l : List (List UInt8)) (t : List UInt8) (h : t ∈ l) : t.length ≤ (commaTxt l).length := by
 induction l with
 | nil => cases h
 | cons x r ih =>
  cases r with
  | nil => rw [List.mem_singleton] at h; subst h; exact Nat.le_refl _
  | cons y r' =>
   rw [commaTxt_cons]
   rcases List.mem_cons.1 h with rfl | h
   ·simp
   ·have := ih h; simp at this ⊢; omega
theorem inTxt_len (k : Int) (t : List UInt8) : t.length ≤ (inTxt k t).length ∧ (inTxt k t).length ≤ t.length + 2 := by
 unfold inTxt; split
 ·simp; omega
 ·simp
theorem len_two {α : Type} {l : List α} (h : l.length = 2) : ∃ x y, l = [x, y] := by
 match l, h with
 | [x, y], _ => exact ⟨x, y, rfl⟩
theorem len_three {α : Type} {l : List α} (h : l.length = 3) : ∃ x y z, l = [x, y, z] := by
 match l, h with
 | [x, y, z], _ => exact ⟨x, y, z, rfl⟩
theorem printExpr_any {S : Nat → Prop} {w : World} (hS : ∀ b, S b → b < w.heap.size) {k : Int} {cs : List Value} {t : List UInt8} (h : PE S w k cs t) (ht : t.length ≤ 500000000000) :
  ∀ w1, Below w.heap.size w w1 → Calls Tryz.prog 29 #[.agg cs.toArray] w1 (StrPost t w1) := by
 induction h with
 | num a op wd n nm sa sl sc h1 h2 h3 h4 =>
  intro w1 _
  by_cases hw : wd = 0
  ·subst hw; exact pe_num0 w1 a op n nm _ h3 h4
  ·exact pe_num1 w1 a op wd n nm _ h3 h4 (by omega) h2 _ (by
    show numTxt wd.toNat n.toNat = _
    unfold numTxt; rw [if_neg (by omega)])
 | name a op wd n nm sa sl sc => intro w1 _; exact pe_name w1 a op wd n nm _
 | node k a op wd n nm b cap es hk hSb hcap hel hce ih =>
  intro w1 hw
  have hb := hS b hSb
  have hb1 : b < w1.heap.size := Nat.lt_of_lt_of_le hb hw.size
  have L : ∀ w', Below w1.heap.size w1 w' → Below w.heap.size w w' := fun w' h => hw.trans (h.mono hw.size)
  rcases hk with ⟨rfl, hl⟩ | ⟨rfl, hl⟩ | ⟨rfl, hl, o1, o2⟩ | ⟨rfl, hl, o1, o2⟩ | ⟨rfl, hl⟩ | ⟨rfl, hl⟩ | ⟨rfl, hl⟩
  ·obtain ⟨x, rfl⟩ := List.length_eq_one_iff.1 hl
   have e : nodeTxt 3 op nm [x] = nm ++ [91] ++ x.2.2 ++ [93] := rfl
   rw [e] at ht ⊢
   simp only [lnA] at ht
   obtain ⟨a0, op0, wd0, n0, nm0, sl0, hx0, c00, c01, c02, c03, c04, c05, c06⟩ := elem_cells hw hb (hel 0 x rfl) (hce 0 x rfl)
   have ih0 := ih 0 x rfl (by omega)
   rw [hx0] at ih0
   exact pe_index w1 a op wd n nm b cap hb1 (by omega) x.1 a0 op0 wd0 n0 nm0 sl0 x.2.2 (by omega) c00 c01 c02 c03 c04 c05 c06 (fun w' h => ih0 w' (L w' h)) _ rfl
  ·obtain ⟨x, y, rfl⟩ := len_two hl
   have e : nodeTxt 4 op nm [x, y] = nm ++ [91] ++ x.2.2 ++ [58] ++ y.2.2 ++ [93] := rfl
   rw [e] at ht ⊢
   simp only [lnA] at ht
   obtain ⟨a0, op0, wd0, n0, nm0, sl0, hx0, c00, c01, c02, c03, c04, c05, c06⟩ := elem_cells hw hb (hel 0 x rfl) (hce 0 x rfl)
   have ih0 := ih 0 x rfl (by omega)
   rw [hx0] at ih0
   obtain ⟨a1, op1, wd1, n1, nm1, sl1, hx1, c10, c11, c12, c13, c14, c15, c16⟩ := elem_cells hw hb (hel 1 y rfl) (hce 1 y rfl)
   have ih1 := ih 1 y rfl (by omega)
   rw [hx1] at ih1
   exact pe_part w1 a op wd n nm b cap hb1 (by omega) x.1 a0 op0 wd0 n0 nm0 sl0 x.2.2 (by omega) c00 c01 c02 c03 c04 c05 c06 (fun w' h => ih0 w' (L w' h)) y.1 a1 op1 wd1 n1 nm1 sl1 y.2.2 (by omega) c10 c11 c12 c13 c14 c15 c16 (fun w' h => ih1 w' (L w' h)) _ rfl
  ·obtain ⟨x, rfl⟩ := List.length_eq_one_iff.1 hl
   have e : nodeTxt 5 op nm [x] = signTxt op ++ inTxt x.1 x.2.2 := rfl
   rw [e] at ht ⊢
   simp only [lnA] at ht
   have li0 := inTxt_len x.1 x.2.2
   obtain ⟨a0, op0, wd0, n0, nm0, sl0, hx0, c00, c01, c02, c03, c04, c05, c06⟩ := elem_cells hw hb (hel 0 x rfl) (hce 0 x rfl)
   have ih0 := ih 0 x rfl (by omega)
   rw [hx0] at ih0
   exact pe_unary w1 a op wd n nm b cap hb1 o1 o2 x.1 a0 op0 wd0 n0 nm0 sl0 (inTxt x.1 x.2.2) (by have := inTxt_len x.1 x.2.2; omega) c00 c01 c02 c03 c04 c05 c06 (fun w' h => inner_any w1 x.1 a0 op0 wd0 n0 nm0 sl0 x.2.2 (by omega) (fun w' h => ih0 w' (L w' h)) _ rfl w' h) _ rfl
  ·obtain ⟨x, y, rfl⟩ := len_two hl
   have e : nodeTxt 6 op nm [x, y] = inTxt x.1 x.2.2 ++ [32] ++ signTxt op ++ [32] ++ inTxt y.1 y.2.2 := rfl
   rw [e] at ht ⊢
   simp only [lnA] at ht
   have li0 := inTxt_len x.1 x.2.2
   have li1 := inTxt_len y.1 y.2.2
   obtain ⟨a0, op0, wd0, n0, nm0, sl0, hx0, c00, c01, c02, c03, c04, c05, c06⟩ := elem_cells hw hb (hel 0 x rfl) (hce 0 x rfl)
   have ih0 := ih 0 x rfl (by omega)
   rw [hx0] at ih0
   obtain ⟨a1, op1, wd1, n1, nm1, sl1, hx1, c10, c11, c12, c13, c14, c15, c16⟩ := elem_cells hw hb (hel 1 y rfl) (hce 1 y rfl)
   have ih1 := ih 1 y rfl (by omega)
   rw [hx1] at ih1
   exact pe_binary w1 a op wd n nm b cap hb1 o1 o2 x.1 a0 op0 wd0 n0 nm0 sl0 (inTxt x.1 x.2.2) (by have := inTxt_len x.1 x.2.2; omega) c00 c01 c02 c03 c04 c05 c06 (fun w' h => inner_any w1 x.1 a0 op0 wd0 n0 nm0 sl0 x.2.2 (by omega) (fun w' h => ih0 w' (L w' h)) _ rfl w' h) y.1 a1 op1 wd1 n1 nm1 sl1 (inTxt y.1 y.2.2) (by have := inTxt_len y.1 y.2.2; omega) c10 c11 c12 c13 c14 c15 c16 (fun w' h => inner_any w1 y.1 a1 op1 wd1 n1 nm1 sl1 y.2.2 (by omega) (fun w' h => ih1 w' (L w' h)) _ rfl w' h) _ rfl
  ·obtain ⟨x, y, z, rfl⟩ := len_three hl
   have e : nodeTxt 7 op nm [x, y, z] = inTxt x.1 x.2.2 ++ [32, 63, 32] ++ inTxt y.1 y.2.2 ++ [32, 58, 32] ++ inTxt z.1 z.2.2 := rfl
   rw [e] at ht ⊢
   simp only [lnA] at ht
   have li0 := inTxt_len x.1 x.2.2
   have li1 := inTxt_len y.1 y.2.2
   have li2 := inTxt_len z.1 z.2.2
   obtain ⟨a0, op0, wd0, n0, nm0, sl0, hx0, c00, c01, c02, c03, c04, c05, c06⟩ := elem_cells hw hb (hel 0 x rfl) (hce 0 x rfl)
   have ih0 := ih 0 x rfl (by omega)
   rw [hx0] at ih0
   obtain ⟨a1, op1, wd1, n1, nm1, sl1, hx1, c10, c11, c12, c13, c14, c15, c16⟩ := elem_cells hw hb (hel 1 y rfl) (hce 1 y rfl)
   have ih1 := ih 1 y rfl (by omega)
   rw [hx1] at ih1
   obtain ⟨a2, op2, wd2, n2, nm2, sl2, hx2, c20, c21, c22, c23, c24, c25, c26⟩ := elem_cells hw hb (hel 2 z rfl) (hce 2 z rfl)
   have ih2 := ih 2 z rfl (by omega)
   rw [hx2] at ih2
   exact pe_cond w1 a op wd n nm b cap hb1 x.1 a0 op0 wd0 n0 nm0 sl0 (inTxt x.1 x.2.2) (by have := inTxt_len x.1 x.2.2; omega) c00 c01 c02 c03 c04 c05 c06 (fun w' h => inner_any w1 x.1 a0 op0 wd0 n0 nm0 sl0 x.2.2 (by omega) (fun w' h => ih0 w' (L w' h)) _ rfl w' h) y.1 a1 op1 wd1 n1 nm1 sl1 (inTxt y.1 y.2.2) (by have := inTxt_len y.1 y.2.2; omega) c10 c11 c12 c13 c14 c15 c16 (fun w' h => inner_any w1 y.1 a1 op1 wd1 n1 nm1 sl1 y.2.2 (by omega) (fun w' h => ih1 w' (L w' h)) _ rfl w' h) z.1 a2 op2 wd2 n2 nm2 sl2 (inTxt z.1 z.2.2) (by have := inTxt_len z.1 z.2.2; omega) c20 c21 c22 c23 c24 c25 c26 (fun w' h => inner_any w1 z.1 a2 op2 wd2 n2 nm2 sl2 z.2.2 (by omega) (fun w' h => ih2 w' (L w' h)) _ rfl w' h) _ rfl
  ·have e : nodeTxt 8 op nm es = [123] ++ commaTxt (es.map (·.2.2)) ++ [125] := rfl
   rw [e] at ht ⊢
   simp only [lnA] at ht
   have hcnt := commaTxt_count (es.map (·.2.2))
   rw [List.length_map] at hcnt
   refine pe_cat w1 a op wd n nm b cap es.length (commaTxt (List.map (fun x : Int × List Value × List UInt8 => x.2.2) es)) (by omega) (fun w' h => ?_) _ rfl
   refine comma_any w b cap hb es (by omega) (by omega) (fun i x hx => (hel i x hx).seven) hce (fun i x hx w' h => ?_) w' (L w' h)
   have hm : x.2.2 ∈ es.map (·.2.2) := List.mem_map_of_mem (List.mem_of_getElem? hx)
   have := commaTxt_mem _ _ hm
   exact ih i x hx (by omega) w' h
  ·obtain ⟨x, y, rfl⟩ := len_two hl
   have e : nodeTxt 9 op nm [x, y] = [123] ++ x.2.2 ++ y.2.2 ++ [125] := rfl
   rw [e] at ht ⊢
   simp only [lnA] at ht
   obtain ⟨a0, op0, wd0, n0, nm0, sl0, hx0, c00, c01, c02, c03, c04, c05, c06⟩ := elem_cells hw hb (hel 0 x rfl) (hce 0 x rfl)
   have ih0 := ih 0 x rfl (by omega)
   rw [hx0] at ih0
   obtain ⟨a1, op1, wd1, n1, nm1, sl1, hx1, c10, c11, c12, c13, c14, c15, c16⟩ := elem_cells hw hb (hel 1 y rfl) (hce 1 y rfl)
   have ih1 := ih 1 y rfl (by omega)
   rw [hx1] at ih1
   exact pe_repeat w1 a op wd n nm b cap hb1 x.1 a0 op0 wd0 n0 nm0 sl0 x.2.2 (by omega) c00 c01 c02 c03 c04 c05 c06 (fun w' h => ih0 w' (L w' h)) y.1 a1 op1 wd1 n1 nm1 sl1 y.2.2 (by omega) c10 c11 c12 c13 c14 c15 c16 (fun w' h => ih1 w' (L w' h)) _ rfl
theorem pr_loop (w : World) (nm : List UInt8) (b cap : Nat) (hb : b < w.heap.size) (zn : nm.length ≤ 1000000000000)
  (k0 a0 op0 wd0 n0 : Int) (nm0 : ByteArray) (sl0 : Value) (t0 : List UInt8) (z0 : t0.length ≤ 1000000000000) (c00 : w.cell? ⟨b, 0, none⟩ = some (.int .i64 k0)) (c01 : w.cell? ⟨b, 1, none⟩ = some (.int .i64 a0)) (c02 : w.cell? ⟨b, 2, none⟩ = some (.int .i64 op0)) (c03 : w.cell? ⟨b, 3, none⟩ = some (.int .i64 wd0)) (c04 : w.cell? ⟨b, 4, none⟩ = some (.int .u64 n0)) (c05 : w.cell? ⟨b, 5, none⟩ = some (.string nm0)) (c06 : w.cell? ⟨b, 6, none⟩ = some (sl0))
  (ih0 : Hid (∀ w', Below w.heap.size w w' → Calls Tryz.prog 29 #[.agg #[.int .i64 k0, .int .i64 a0, .int .i64 op0, .int .i64 wd0, .int .u64 n0, .string nm0, sl0]] w' (StrPost t0 w')))
  (k1 a1 op1 wd1 n1 : Int) (nm1 : ByteArray) (sl1 : Value) (t1 : List UInt8) (z1 : t1.length ≤ 1000000000000) (c10 : w.cell? ⟨b, 7, none⟩ = some (.int .i64 k1)) (c11 : w.cell? ⟨b, 8, none⟩ = some (.int .i64 a1)) (c12 : w.cell? ⟨b, 9, none⟩ = some (.int .i64 op1)) (c13 : w.cell? ⟨b, 10, none⟩ = some (.int .i64 wd1)) (c14 : w.cell? ⟨b, 11, none⟩ = some (.int .u64 n1)) (c15 : w.cell? ⟨b, 12, none⟩ = some (.string nm1)) (c16 : w.cell? ⟨b, 13, none⟩ = some (sl1))
  (ih1 : Hid (∀ w', Below w.heap.size w w' → Calls Tryz.prog 29 #[.agg #[.int .i64 k1, .int .i64 a1, .int .i64 op1, .int .i64 wd1, .int .u64 n1, .string nm1, sl1]] w' (StrPost t1 w')))
  (k2 a2 op2 wd2 n2 : Int) (nm2 : ByteArray) (sl2 : Value) (t2 : List UInt8) (z2 : t2.length ≤ 1000000000000) (c20 : w.cell? ⟨b, 14, none⟩ = some (.int .i64 k2)) (c21 : w.cell? ⟨b, 15, none⟩ = some (.int .i64 a2)) (c22 : w.cell? ⟨b, 16, none⟩ = some (.int .i64 op2)) (c23 : w.cell? ⟨b, 17, none⟩ = some (.int .i64 wd2)) (c24 : w.cell? ⟨b, 18, none⟩ = some (.int .u64 n2)) (c25 : w.cell? ⟨b, 19, none⟩ = some (.string nm2)) (c26 : w.cell? ⟨b, 20, none⟩ = some (sl2))
  (ih2 : Hid (∀ w', Below w.heap.size w w' → Calls Tryz.prog 29 #[.agg #[.int .i64 k2, .int .i64 a2, .int .i64 op2, .int .i64 wd2, .int .u64 n2, .string nm2, sl2]] w' (StrPost t2 w')))
  (tt : List UInt8) (HT : Hid (tt = [102, 111, 114, 32, 40] ++ nm ++ [32, 61, 32] ++ t0 ++ [59, 32] ++ t1 ++ [59, 32] ++ nm ++ [32, 61, 32] ++ t2 ++ [41, 32])) :
  Calls Tryz.prog 72 #[.string (bs nm), .slice (some ⟨b, 0, none⟩) 3 cap] w (StrPost tt w) := by
 obtain ⟨x1, H1, l1, s1⟩ := add_to (⟨#[102, 111, 114, 32, 40]⟩) (bs nm) [102, 111, 114, 32, 40] nm rfl rfl (by (try simp only [lnC, lnN] at *); omega)
 obtain ⟨x2, H2, l2, s2⟩ := add_to (bs x1) (⟨#[32, 61, 32]⟩) x1 [32, 61, 32] rfl rfl (by (try simp only [lnC, lnN] at *); omega)
 obtain ⟨x3, H3, l3, s3⟩ := add_to (bs x2) (bs t0) x2 t0 rfl rfl (by (try simp only [lnC, lnN] at *); omega)
 obtain ⟨x4, H4, l4, s4⟩ := add_to (bs x3) (⟨#[59, 32]⟩) x3 [59, 32] rfl rfl (by (try simp only [lnC, lnN] at *); omega)
 obtain ⟨x5, H5, l5, s5⟩ := add_to (bs x4) (bs t1) x4 t1 rfl rfl (by (try simp only [lnC, lnN] at *); omega)
 obtain ⟨x6, H6, l6, s6⟩ := add_to (bs x5) (⟨#[59, 32]⟩) x5 [59, 32] rfl rfl (by (try simp only [lnC, lnN] at *); omega)
 obtain ⟨x7, H7, l7, s7⟩ := add_to (bs x6) (bs nm) x6 nm rfl rfl (by (try simp only [lnC, lnN] at *); omega)
 obtain ⟨x8, H8, l8, s8⟩ := add_to (bs x7) (⟨#[32, 61, 32]⟩) x7 [32, 61, 32] rfl rfl (by (try simp only [lnC, lnN] at *); omega)
 obtain ⟨x9, H9, l9, s9⟩ := add_to (bs x8) (bs t2) x8 t2 rfl rfl (by (try simp only [lnC, lnN] at *); omega)
 obtain ⟨x10, H10, l10, s10⟩ := add_to (bs x9) (⟨#[41, 32]⟩) x9 [41, 32] rfl rfl (by (try simp only [lnC, lnN] at *); omega)
 have HF : Hid (x10 = tt) := by show x10 = _; rw [HT.out, H10.out, H9.out, H8.out, H7.out, H6.out, H5.out, H4.out, H3.out, H2.out, H1.out]
 clear HT H1 l1 H2 l2 H3 l3 H4 l4 H5 l5 H6 l6 H7 l7 H8 l8 H9 l9 H10 l10
 go_enter Tryz.func72, Tryz.ntmps72
 go_wp2_with fail
 go_region_held3 (fun w' => Below w.heap.size w w' ∧ (∀ b' o, b' < w.heap.size → w'.cell? ⟨b', o, none⟩ = w.cell? ⟨b', o, none⟩))
  (first | assumption | exact sees_drew _ | (refine sees_call (by assumption) (by assumption)))
  (first | (go_at_call_of 29 (Value.int IntKind.i64 a0); refine (ih0.out _ (And.left (by assumption))).mono ?_; rintro e w2 ⟨rfl, hb2⟩) | (go_at_call_of 29 (Value.int IntKind.i64 a1); refine (ih1.out _ (And.left (by assumption))).mono ?_; rintro e w2 ⟨rfl, hb2⟩) | (go_at_call_of 29 (Value.int IntKind.i64 a2); refine (ih2.out _ (And.left (by assumption))).mono ?_; rintro e w2 ⟨rfl, hb2⟩))
 all_goals
  go_wp2_with fail
  go_ret
  exact ⟨ret_str (congrArg bs HF.out), And.left (by assumption)⟩
theorem pr_span (w : World)
  (k0 a0 op0 wd0 n0 : Int) (nm0 : ByteArray) (sl0 : Value) (t0 : List UInt8) (z0 : t0.length ≤ 1000000000000)
  (ih0 : Hid (∀ w', Below w.heap.size w w' → Calls Tryz.prog 29 #[.agg #[.int .i64 k0, .int .i64 a0, .int .i64 op0, .int .i64 wd0, .int .u64 n0, .string nm0, sl0]] w' (StrPost t0 w')))
  (k1 a1 op1 wd1 n1 : Int) (nm1 : ByteArray) (sl1 : Value) (t1 : List UInt8) (z1 : t1.length ≤ 1000000000000)
  (ih1 : Hid (∀ w', Below w.heap.size w w' → Calls Tryz.prog 29 #[.agg #[.int .i64 k1, .int .i64 a1, .int .i64 op1, .int .i64 wd1, .int .u64 n1, .string nm1, sl1]] w' (StrPost t1 w')))
  (tt : List UInt8) (HT : Hid (tt = [91] ++ t0 ++ [58] ++ t1 ++ [93, 32])) :
  Calls Tryz.prog 30 #[.agg #[.bool true, .int .i64 k0, .int .i64 a0, .int .i64 op0, .int .i64 wd0, .int .u64 n0, .string nm0, sl0, .int .i64 k1, .int .i64 a1, .int .i64 op1, .int .i64 wd1, .int .u64 n1, .string nm1, sl1]] w (StrPost tt w) := by
 obtain ⟨x1, H1, l1, s1⟩ := add_to (⟨#[91]⟩) (bs t0) [91] t0 rfl rfl (by (try simp only [lnC, lnN] at *); omega)
 obtain ⟨x2, H2, l2, s2⟩ := add_to (bs x1) (⟨#[58]⟩) x1 [58] rfl rfl (by (try simp only [lnC, lnN] at *); omega)
 obtain ⟨x3, H3, l3, s3⟩ := add_to (bs x2) (bs t1) x2 t1 rfl rfl (by (try simp only [lnC, lnN] at *); omega)
 obtain ⟨x4, H4, l4, s4⟩ := add_to (bs x3) (⟨#[93, 32]⟩) x3 [93, 32] rfl rfl (by (try simp only [lnC, lnN] at *); omega)
 have HF : Hid (x4 = tt) := by show x4 = _; rw [HT.out, H4.out, H3.out, H2.out, H1.out]
 clear HT H1 l1 H2 l2 H3 l3 H4 l4
 go_enter Tryz.func30, Tryz.ntmps30
 go_wp2_with fail
 generalize hW : w.alloc (.cells #[.bool true, .int .i64 k0, .int .i64 a0, .int .i64 op0, .int .i64 wd0, .int .u64 n0, .string nm0, sl0, .int .i64 k1, .int .i64 a1, .int .i64 op1, .int .i64 wd1, .int .u64 n1, .string nm1, sl1] 60) = W
 obtain ⟨bxc, HB, hlt⟩ : (∀ o, W.cell? ⟨w.heap.size, o, none⟩ = (#[.bool true, .int .i64 k0, .int .i64 a0, .int .i64 op0, .int .i64 wd0, .int .u64 n0, .string nm0, sl0, .int .i64 k1, .int .i64 a1, .int .i64 op1, .int .i64 wd1, .int .u64 n1, .string nm1, sl1] : Array Value)[o]?) ∧ Hid (Below w.heap.size w W) ∧ w.heap.size < W.heap.size := by
  subst hW; exact ⟨fun o => by simp, (Below.refl _ _).alloc (Nat.le_refl _) _, by simp⟩
 clear hW
 go_region_held3 (fun w' => Below W.heap.size W w' ∧ (∀ b' o, b' < W.heap.size → w'.cell? ⟨b', o, none⟩ = W.cell? ⟨b', o, none⟩))
  (first | assumption | exact sees_drew _ | (refine sees_call (by assumption) (by assumption)))
  (first | (go_at_call_of 29 (Value.int IntKind.i64 a0); refine (ih0.out _ (HB.out.trans (Below.mono (And.left (by assumption)) (by exact HB.out.size)))).mono ?_; rintro e w2 ⟨rfl, hb2⟩) | (go_at_call_of 29 (Value.int IntKind.i64 a1); refine (ih1.out _ (HB.out.trans (Below.mono (And.left (by assumption)) (by exact HB.out.size)))).mono ?_; rintro e w2 ⟨rfl, hb2⟩))
 all_goals
  go_wp2_with fail
  go_ret
  exact ⟨ret_str (congrArg bs HF.out), HB.out.trans (Below.mono (And.left (by assumption)) HB.out.size)⟩
theorem pr_none (w : World) (cs : List Value) (hc : cs.length = 15) (h0 : cs[0]? = some (.bool false)) :
  Calls Tryz.prog 30 #[.agg cs.toArray] w (StrPost [] w) := by
 match cs, hc with
 | [v0, v1, v2, v3, v4, v5, v6, v7, v8, v9, v10, v11, v12, v13, v14], _ =>
  have e : v0 = .bool false := by simpa using h0
  subst e
  clear h0
  go_enter Tryz.func30, Tryz.ntmps30
  go_wp2_with fail
  go_ret
  exact ⟨rfl, (Below.refl _ _).alloc (Nat.le_refl _) _⟩
end Go.Proofs.YtimmmlnememjiaaGreatDoor
