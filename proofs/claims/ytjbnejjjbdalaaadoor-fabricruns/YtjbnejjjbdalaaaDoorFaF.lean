import Derived.Test.YtjbnejjjbdalaaaDoorFaE
namespace Go.Proofs.YtjbnejjjbdalaaaDoor
open Go.RowKit

/-- a block's cells -/
def Blk (w : World) (b : Nat) (t : TypeId) (arr : Array Value) : Prop := w.heap[b]? = some (.cells arr t (0, 0))
theorem Blk.lt {w : World} {b : Nat} {t : TypeId} {arr : Array Value} (h : Blk w b t arr) : b < w.heap.size := (Array.getElem?_eq_some_iff.1 h).1
theorem Blk.cell {w : World} {b : Nat} {t : TypeId} {arr : Array Value} (h : Blk w b t arr) {i : Nat} {v : Value} (hv : arr[i]? = some v) : w.cell? ⟨b, i, none⟩ = some v := by
  simp [World.cell?, show w.heap[b]? = _ from h, hv]
theorem Blk.frozen {w : World} {b : Nat} {t : TypeId} {arr : Array Value} (h : Blk w b t arr) (i : Nat) : w.frozen? ⟨b, i, none⟩ = false := by
  simp [World.frozen?, show w.heap[b]? = _ from h]
theorem Blk.set {w : World} {b : Nat} {t : TypeId} {arr : Array Value} (h : Blk w b t arr) (i : Nat) (v : Value) : Blk (w.setCell ⟨b, i, none⟩ v) b t (arr.setIfInBounds i v) := by
  obtain ⟨hlt, hk⟩ := Array.getElem?_eq_some_iff.1 h
  show (w.heap.modify b _)[b]? = _
  rw [Array.getElem?_eq_getElem (by rw [Array.size_modify]; exact hlt), Array.getElem_modify_self, hk]
  rfl
theorem Blk.new (w : World) (t : TypeId) (arr : Array Value) : Blk (w.alloc (.cells arr t)) w.heap.size t arr := by
  show (w.heap.push _)[w.heap.size]? = _
  simp
/-- all blocks but one are as they were -/
structure But (g : Nat) (w w' : World) : Prop where
  os : w'.os = w.os
  tape : w'.tape = w.tape
  output : w'.output = w.output
  size : w.heap.size ≤ w'.heap.size
  block : ∀ k, k < w.heap.size → k ≠ g → w'.heap[k]? = w.heap[k]?
theorem But.refl (g : Nat) (w : World) : But g w w := ⟨rfl, rfl, rfl, Nat.le_refl _, fun _ _ _ => rfl⟩
theorem But.trans {g : Nat} {a b c : World} (h : But g a b) (k : But g b c) : But g a c :=
  ⟨k.os.trans h.os, k.tape.trans h.tape, k.output.trans h.output, Nat.le_trans h.size k.size, fun i hi hg => (k.block i (Nat.lt_of_lt_of_le hi h.size) hg).trans (h.block i hi hg)⟩
theorem But.set (g i : Nat) (w : World) (v : Value) : But g w (w.setCell ⟨g, i, none⟩ v) := ⟨rfl, rfl, rfl, by simp [World.setCell], fun k _ hk => Below.heap_setCell _ _ _ k hk⟩
theorem But.drewN {g : Nat} {a w : World} (h : But g a w) (n : Nat) : But g a (w.drewN n) := ⟨h.os, h.tape, h.output, h.size, h.block⟩
theorem But.below {B g : Nat} {a w : World} (h : But g a w) (hB : B ≤ g) (hs : B ≤ a.heap.size) : Below B a w := ⟨h.os, h.tape, h.output, h.size, fun k hk => h.block k (by omega) (by omega)⟩
theorem Below.but {g : Nat} {a w : World} (h : Below a.heap.size a w) : But g a w := ⟨h.os, h.tape, h.output, h.size, fun k hk _ => h.block k hk⟩
theorem But.blk {g b : Nat} {a w : World} {t : TypeId} {arr : Array Value} (h : But g a w) (hb : Blk a b t arr) (hne : b ≠ g) : Blk w b t arr := (h.block b hb.lt hne).trans hb
theorem Blk.below {b : Nat} {a w : World} {t : TypeId} {arr : Array Value} (hb : Blk a b t arr) (h : Below a.heap.size a w) : Blk w b t arr := (h.block b hb.lt).trans hb
theorem Blk.drewN {b : Nat} {w : World} {t : TypeId} {arr : Array Value} (hb : Blk w b t arr) (n : Nat) : Blk (w.drewN n) b t arr := hb
theorem getD_of {α : Type} {l : List α} {k : Nat} {x d : α} (h : l[k]? = some x) : l.getD k d = x := by rw [List.getD_eq_getElem?_getD, h]; rfl
theorem shr8 (x k : Nat) : ((x : Int) / 2 ^ k) % 2 = ((x / 2 ^ k % 2 : Nat) : Int) := by
  rw [show ((2 : Int) ^ k) = ((2 ^ k : Nat) : Int) by simp]
  omega

theorem and1_u8 (x k : Nat) (hx : x < 256) : bits BinOp.and IntKind.u8 ((x : Int) / 2 ^ k) 1 = ((x / 2 ^ k % 2 : Nat) : Int) := by
  rw [show ((x : Int) / 2 ^ k) = ((x / 2 ^ k : Nat) : Int) by simp, show (1 : Int) = ((1 : Nat) : Int) from rfl, u8_and_nat _ 1 (Nat.lt_of_le_of_lt (Nat.div_le_self _ _) hx) (by decide), Nat.and_one_is_mod]

/-- a reader of the fabric: its bytes, where it stands, whether something was wrong -/
def ldA (a : Option Addr) (len c : Nat) (at_ : Int) (wr : Bool) : Array Value := #[.slice a len c, .int .i64 at_, .bool wr]

set_option maxRecDepth 100000 in
set_option maxHeartbeats 8000000 in
theorem bit_any (B : Nat) (w : World) (lb : Nat) (hB : B ≤ lb) (a : Option Addr) (c : Nat) (bs : List Nat) (p : Nat) (wrong : Bool) (hb : Blk w lb 79 (ldA a bs.length c p wrong)) (R : RowAt B w a 1 (bs.map byteC)) (hl : bs.length < 281474976710656) (hby : ∀ x, x ∈ bs → x < 256) (hp : p ≤ 8 * bs.length) :
    Calls Tryd.prog 45 #[.pointer (some ⟨lb, 0, none⟩)] w fun e w' => e = .returned (.int .i64 ((bitN bs p : Nat) : Int)) ∧ But lb w w' ∧ Blk w' lb 79 (ldA a bs.length c (min (p + 1) (8 * bs.length) : Nat) (wrong || decide (8 * bs.length < p + 1))) := by
  have HBK := hidden hb
  have q0 : w.cell? ⟨lb, 0, none⟩ = some (.slice a bs.length c) := hb.cell rfl
  have q1 : w.cell? ⟨lb, 1, none⟩ = some (.int .i64 (p : Int)) := hb.cell rfl
  have q2 : w.cell? ⟨lb, 2, none⟩ = some (.bool wrong) := hb.cell rfl
  have f1 := hb.frozen 1
  have f2 := hb.frozen 2
  have HM8 : Hid (IntKind.i64.wrap (8 * (bs.length : Int)) = 8 * (bs.length : Int)) := wrapI _ (by omega) (by omega)
  clear hb
  by_cases hlt : p < 8 * bs.length
  · obtain ⟨x, hx⟩ := getElem_lt (show p / 8 < bs.length by omega)
    obtain ⟨b, o, ea, hlb, hc⟩ := R.byte hx
    have hx2 := hby x (List.mem_of_getElem? hx)
    have HBV : Hid (bitN bs p = x / 2 ^ (7 - p % 8) % 2) := by show _ = _; unfold bitN; rw [getD_of hx]
    have HMN : Hid (min (p + 1) (8 * bs.length) = p + 1 ∧ (wrong || decide (8 * bs.length < p + 1)) = wrong) := ⟨by omega, by rw [decide_eq_false (by omega), Bool.or_false]⟩
    rw [HMN.out.1, HMN.out.2, HBV.out]
    have hne : b ≠ lb := by omega
    rw [ea] at q0
    obtain ⟨d, hd⟩ : ∃ d, d = p / 8 := ⟨_, rfl⟩
    obtain ⟨r, hr⟩ : ∃ r, r = p % 8 := ⟨_, rfl⟩
    rw [← hd] at hc
    rw [← hr]
    have hr7 : r ≤ 7 := by omega
    have hdl : (d : Int) < (bs.length : Int) := by omega
    have z1 : (p : Int).tdiv 8 = (d : Int) := by rw [hd, Int.tdiv_eq_ediv_of_nonneg (by omega)]; omega
    have z2 : (p : Int).tmod 8 = (r : Int) := by rw [hr, Int.tmod_eq_emod_of_nonneg (by omega)]; omega
    have z3 : (p : Int) / 8 = (d : Int) := by rw [hd]; omega
    have z4 : (p : Int) % 8 = (r : Int) := by rw [hr]; omega
    have z5 : IntKind.i64.wrap (7 - (r : Int)) = ((7 - r : Nat) : Int) := by rw [wrapI _ (by omega) (by omega)]; omega
    clear R hby hx ea hlb hd hr HBV HMN
    have e8 := HM8.out
    go_enter Tryd.func45, Tryd.ntmps45
    go_upto_region 1 with fail
    go_quiet (fail)
    go_wp2
    go_quiet (fail)
    go_wp2
    go_ret
    refine ⟨ret_int ?_, (But.drewN (But.refl _ _) _).trans (But.set _ _ _ _), ?_⟩
    · rw [and1_u8 x (7 - r) hx2]
      have := Nat.mod_lt (x / 2 ^ (7 - r)) (show 0 < 2 by decide)
      unfold wrap64
      omega
    · exact (Blk.drewN HBK.out _).set 1 _
  · have hpe : p = 8 * bs.length := by omega
    have HBV : Hid (bitN bs p = 0) := by
      show _ = _
      unfold bitN
      rw [show bs.getD (p / 8) 0 = 0 by rw [List.getD_eq_getElem?_getD, List.getElem?_eq_none (by omega)]; rfl]
      simp
    have HMN : Hid (min (p + 1) (8 * bs.length) = p ∧ (wrong || decide (8 * bs.length < p + 1)) = true) := ⟨by omega, by rw [decide_eq_true (by omega), Bool.or_true]⟩
    rw [HMN.out.1, HMN.out.2, HBV.out]
    have hge : (8 * (bs.length : Int)) ≤ (p : Int) := by omega
    clear R hby hpe hlt
    have e8 := HM8.out
    go_enter Tryd.func45, Tryd.ntmps45
    go_upto_region 1 with fail
    go_quiet (fail)
    go_wp2
    go_ret
    refine ⟨ret_int rfl, (But.drewN (But.refl _ _) _).trans (But.set _ _ _ _), ?_⟩
    exact (Blk.drewN HBK.out _).set 2 _

end Go.Proofs.YtjbnejjjbdalaaaDoor
