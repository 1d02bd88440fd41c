import Derived.Test.YtdiahnommkhkiaaDoorJ03
import Derived.Deep.RegionHeld3
import Derived.Deep.RegionHeldLaw
import Derived.Test.YtdiahnommkhkiaaDoorJ02
import Derived.Laws.IdiomStrings
namespace Go.Proofs.YtdiahnommkhkiaaDoor
open Go.RowKit Go.Stop

/-- the variables that are read: errors.errorType, bytealg.MaxLen -/
structure Vars (w : World) : Prop where
  et : w.cell? ⟨0, 0, none⟩ = some (.iface 117 (.agg #[.pointer (some ⟨4, 34, none⟩)]))
  ml : ∃ m, w.cell? ⟨1, 0, none⟩ = some (.int .i64 m)
theorem Vars.to {B : Nat} {w w' : World} (h : Vars w) (hb : Below B w w') (hB : 2 ≤ B) : Vars w' :=
  ⟨(hb.cell (p := ⟨0, 0, none⟩) (by show 0 < B; omega)).trans h.et, by obtain ⟨m, hm⟩ := h.ml; exact ⟨m, (hb.cell (p := ⟨1, 0, none⟩) (by show 1 < B; omega)).trans hm⟩⟩
/-- a fault in memory -/
structure FtAt (w : World) (p : Nat) (c a : Int) : Prop where
  lt : p < w.heap.size
  c0 : w.cell? ⟨p, 0, none⟩ = some (.int .i64 c)
  c1 : w.cell? ⟨p, 1, none⟩ = some (.int .i64 a)
theorem FtAt.to {w w' : World} {p : Nat} {c a : Int} (h : FtAt w p c a) (hb : Below w.heap.size w w') : FtAt w' p c a :=
  ⟨Nat.lt_of_lt_of_le h.lt hb.size, (hb.cell (p := ⟨p, 0, none⟩) h.lt).trans h.c0, (hb.cell (p := ⟨p, 1, none⟩) h.lt).trans h.c1⟩
/-- what Throw throws -/
def thrown (p : Nat) : Ending := .panicked [{ v := .iface 85 (.pointer (some ⟨p, 0, none⟩)), recovered := false }]
set_option maxRecDepth 100000 in
theorem throw_any (c a : Int) (w : World) :
    Calls Tryd.prog 68 #[.int .i64 c, .int .i64 a] w fun e w' => e = thrown w.heap.size ∧ FtAt w' w.heap.size c a ∧ Below w.heap.size w w' := by
  go_enter Tryd.func68, Tryd.ntmps68
  go_wp2
  exact ⟨rfl, rfl, ⟨by simp, by simp, by simp⟩, (Below.refl _ _).alloc (Nat.le_refl _) _⟩
/-- a world with one block that is set in a place -/
theorem set_below {w W : World} {B b : Nat} (h : Below w.heap.size w W) (hB : B ≤ b) (hBw : B ≤ w.heap.size) (v : Value) : Below B w (W.setCell ⟨b, 0, none⟩ v) := (h.mono hBw).setCell (p := ⟨b, 0, none⟩) hB v
set_option maxRecDepth 100000 in
set_option maxHeartbeats 1000000 in
theorem code_any (p : Nat) (c a : Int) (w : World) (h : FtAt w p c a) (hv : Vars w) (h2 : 2 ≤ w.heap.size) :
    Calls Tryd.prog 27 #[.iface 85 (.pointer (some ⟨p, 0, none⟩))] w fun e w' => e = .returned (.tuple #[.int .i64 c, .int .i64 a]) ∧ Below w.heap.size w w' := by
  have HF := hidden h
  have HV := hidden hv
  clear h hv
  go_enter Tryd.func27, Tryd.ntmps27
  go_upto_region 4 with fail
  generalize hW : World.alloc w _ = V
  obtain ⟨fx, hfx⟩ : ∃ x, x = w.heap.size := ⟨_, rfl⟩
  have HBV : Hid (Below w.heap.size w V) := by rw [← hW]; exact (Below.refl _ _).alloc (Nat.le_refl _) _
  have hfl : fx < V.heap.size := by rw [← hW, hfx]; simp
  have m0 : V.cell? ⟨fx, 0, none⟩ = some (.pointer none) := by rw [← hW, hfx]; simp
  have f0 : V.frozen? ⟨fx, 0, none⟩ = false := by rw [← hW, hfx]; exact World.frozen?_alloc_at _ _ _ _ (by simp)
  have hfw : w.heap.size ≤ fx := by omega
  rw [← hfx]
  clear hW hfx
  have AS := hidden (as_fault ⟨p, 0, none⟩ ⟨fx, 0, none⟩ (.pointer none) V (HV.out.to HBV.out h2).et m0 f0)
  have M0 := hidden m0
  clear m0 f0
  go_wp2_with fail
  go_at_call 38
  refine AS.out.mono ?_
  rintro e w1 ⟨rfl, W4, hb4, hw1⟩
  have m1 : w1.cell? ⟨fx, 0, none⟩ = some (.pointer (some ⟨p, 0, none⟩)) := by
    rw [hw1]
    exact World.cell?_setCell_same' _ _ _ (by rw [(hb4.cell (p := ⟨fx, 0, none⟩) hfl).trans M0.out]; rfl)
  have HB1 : Hid (Below w.heap.size w w1) := by rw [hw1]; exact set_below (HBV.out.trans (hb4.mono HBV.out.size)) hfw (Nat.le_refl _) _
  clear hb4 hw1 AS
  go_wp2_with fail
  have c0 := (HB1.out.cell (p := ⟨p, 0, none⟩) HF.out.lt).trans HF.out.c0
  have c1 := (HB1.out.cell (p := ⟨p, 1, none⟩) HF.out.lt).trans HF.out.c1
  go_quiet (fail)
  go_wp2
  go_ret2
  exact ⟨rfl, Below.drewN HB1.out _⟩
theorem code_nil (w : World) : Calls Tryd.prog 27 #[.nilIface] w fun e w' => e = .returned (.tuple #[.int .i64 0, .int .i64 0]) ∧ w' = w := by
  go_enter Tryd.func27, Tryd.ntmps27
  go_wp2
  go_ret2
  exact ⟨rfl, rfl⟩
/-- what a layer tells: no fault, or one -/
def ErrAt (w : World) (v : Value) (c a : Int) : Prop := (v = .nilIface ∧ c = 0 ∧ a = 0) ∨ ∃ p, v = .iface 85 (.pointer (some ⟨p, 0, none⟩)) ∧ FtAt w p c a
theorem ErrAt.to {w w' : World} {v : Value} {c a : Int} (h : ErrAt w v c a) (hb : Below w.heap.size w w') : ErrAt w' v c a := by
  rcases h with h | ⟨p, hp, h⟩
  · exact .inl h
  · exact .inr ⟨p, hp, h.to hb⟩
theorem code_err (v : Value) (c a : Int) (w : World) (h : ErrAt w v c a) (hv : Vars w) (h2 : 2 ≤ w.heap.size) :
    Calls Tryd.prog 27 #[v] w fun e w' => e = .returned (.tuple #[.int .i64 c, .int .i64 a]) ∧ Below w.heap.size w w' := by
  rcases h with ⟨rfl, rfl, rfl⟩ | ⟨p, rfl, h⟩
  · refine (code_nil w).mono ?_
    rintro e w' ⟨rfl, rfl⟩
    exact ⟨rfl, Below.refl _ _⟩
  · exact code_any p c a w h hv h2
set_option maxRecDepth 100000 in
set_option maxHeartbeats 1000000 in
theorem faulty_any (v : Value) (c a : Int) (w : World) (h : ErrAt w v c a) (hv : Vars w) (h2 : 2 ≤ w.heap.size) :
    Calls Tryd.prog 12 #[v, .agg #[.int .i64 c, .int .i64 a]] w fun e w' => e = .returned (.bool true) ∧ Below w.heap.size w w' := by
  have CE : Hid (∀ w', Below w.heap.size w w' → Calls Tryd.prog 27 #[v] w' fun e w'' => e = .returned (.tuple #[.int .i64 c, .int .i64 a]) ∧ Below w'.heap.size w' w'') := fun w' hw' => code_err v c a w' (h.to hw') (hv.to hw' h2) (Nat.le_trans h2 hw'.size)
  clear h hv
  go_enter Tryd.func12, Tryd.ntmps12
  go_upto_region 1 with fail
  generalize hW : World.alloc w _ = V
  obtain ⟨gx, hgx⟩ : ∃ x, x = w.heap.size := ⟨_, rfl⟩
  have HBV : Hid (Below w.heap.size w V) := by rw [← hW]; exact (Below.refl _ _).alloc (Nat.le_refl _) _
  have hgl : gx < V.heap.size := by rw [← hW, hgx]; simp
  have HG : Hid (∀ j, V.cell? ⟨gx, j, none⟩ = (#[.int .i64 c, .int .i64 a] : Array Value)[j]?) := by
    rw [← hW, hgx]; intro j; exact cell_new rfl
  rw [← hgx]
  clear hW hgx
  go_wp2_with fail
  go_at_call 27
  refine (CE.out _ HBV.out).mono ?_
  rintro e w1 ⟨rfl, hb1⟩
  have q0 := (hb1.cell (p := ⟨gx, 0, none⟩) hgl).trans (HG.out 0)
  have q1 := (hb1.cell (p := ⟨gx, 1, none⟩) hgl).trans (HG.out 1)
  simp at q0 q1
  have HB1 : Hid (Below w.heap.size w w1) := HBV.out.trans (hb1.mono HBV.out.size)
  clear hb1 CE
  go_wp2
  go_ret
  exact ⟨rfl, HB1.out⟩
theorem is_error (v : Value) (x : TypeId) (w : World) : (Instr.typeAssert (.iface 85 v) x 34 true).run Tryd.prog w = .ok (.tuple #[.iface 85 v, .bool true]) w :=
  run_typeAssert_hasB Tryd.underlying34 (by kernel_rfl) v x w
set_option maxRecDepth 100000 in
set_option maxHeartbeats 1000000 in
/-- fault.Of of what was thrown -/
theorem of_any (p : Nat) (c : Int) (w : World) (hv : Vars w) (h2 : 2 ≤ w.heap.size) :
    Calls Tryd.prog 34 #[.iface 85 (.pointer (some ⟨p, 0, none⟩)), .int .i64 c] w fun e w' => e = .returned (.iface 85 (.pointer (some ⟨p, 0, none⟩))) ∧ Below w.heap.size w w' := by
  have HV := hidden hv
  have hie := is_error
  clear hv
  go_enter Tryd.func34, Tryd.ntmps34
  go_upto_region 4 with fail
  generalize hW : World.alloc w _ = V
  obtain ⟨fx, hfx⟩ : ∃ x, x = w.heap.size := ⟨_, rfl⟩
  have HBV : Hid (Below w.heap.size w V) := by rw [← hW]; exact (Below.refl _ _).alloc (Nat.le_refl _) _
  have hfl : fx < V.heap.size := by rw [← hW, hfx]; simp
  have m0 : V.cell? ⟨fx, 0, none⟩ = some (.pointer none) := by rw [← hW, hfx]; simp
  have f0 : V.frozen? ⟨fx, 0, none⟩ = false := by rw [← hW, hfx]; exact World.frozen?_alloc_at _ _ _ _ (by simp)
  have hfw : w.heap.size ≤ fx := by omega
  rw [← hfx]
  clear hW hfx
  have AS := hidden (as_fault ⟨p, 0, none⟩ ⟨fx, 0, none⟩ (.pointer none) V (HV.out.to HBV.out h2).et m0 f0)
  have M0 := hidden m0
  clear m0 f0
  go_wp2_with fail
  go_at_call 38
  refine AS.out.mono ?_
  rintro e w1 ⟨rfl, W4, hb4, hw1⟩
  have m1 : w1.cell? ⟨fx, 0, none⟩ = some (.pointer (some ⟨p, 0, none⟩)) := by
    rw [hw1]
    exact World.cell?_setCell_same' _ _ _ (by rw [(hb4.cell (p := ⟨fx, 0, none⟩) hfl).trans M0.out]; rfl)
  have HB1 : Hid (Below w.heap.size w w1) := by rw [hw1]; exact set_below (HBV.out.trans (hb4.mono HBV.out.size)) hfw (Nat.le_refl _) _
  clear hb4 hw1 AS
  go_wp2
  go_ret
  exact ⟨rfl, HB1.out⟩


end Go.Proofs.YtdiahnommkhkiaaDoor

namespace Go.Proofs.YtdiahnommkhkiaaDoor
open Go.RowKit

/-- the bytes of a text as the model has them -/
def bs (l : List UInt8) : ByteArray := ⟨l.toArray⟩
theorem bs_append (a b : List UInt8) : bs a ++ bs b = bs (a ++ b) := by
  apply ByteArray.ext; simp [bs, ByteArray.data_append]
theorem bs_size (a : List UInt8) : (bs a).size = a.length := by simp [bs, ByteArray.size]
def decTxt (n : Nat) : List UInt8 := if n ≤ 9 then [UInt8.ofNat (48 + n)] else decTxt (n / 10) ++ [UInt8.ofNat (48 + n % 10)]
termination_by n
decreasing_by omega
theorem decTxt_big (k : Nat) (h : 9 < k) : decTxt k = decTxt (k / 10) ++ [UInt8.ofNat (48 + k % 10)] := by
  rw [decTxt, if_neg (by omega)]
theorem decTxt_small (k : Nat) (h : k ≤ 9) : decTxt k = [UInt8.ofNat (48 + k)] := by
  rw [decTxt, if_pos h]
theorem decTxt_len (d n : Nat) (h : n < 10 ^ (d + 1)) : (decTxt n).length ≤ d + 1 := by
  induction d generalizing n with
  | zero => rw [decTxt_small n (by omega)]; simp
  | succ d ih =>
    by_cases h9 : n ≤ 9
    · rw [decTxt_small n h9]; simp
    · rw [decTxt_big n (by omega)]
      have := ih (n / 10) (by rw [Nat.div_lt_iff_lt_mul (by decide)]; rw [Nat.pow_succ] at h; exact h)
      simp; omega
theorem dec_len (n : Nat) (h : n < 4294967296) : (decTxt n).length ≤ 10 := decTxt_len 9 n (by omega)
theorem conv_one (w : World) (v : Int) (h0 : 0 ≤ v) (h1 : v ≤ 255) :
    (convert 30 9 (.slice (some ⟨w.heap.size, 0, none⟩) 1 1)).run Tryd.prog (w.alloc (.cells #[.int .u8 v] 5)) = .ok (.string (bs [UInt8.ofNat v.toNat])) (w.alloc (.cells #[.int .u8 v] 5)) := by
  refine run_convert_bytes_back (w.alloc (.cells #[.int .u8 v] 5)) 30 9 5 ⟨w.heap.size, 0, none⟩ 1 [UInt8.ofNat v.toNat] Tryd.underlying30 Tryd.underlying5 Tryd.underlying9 ?_
  intro j hj
  have e : j = 0 := by simp at hj; omega
  subst e
  have hv : v = max v 0 % 256 := by omega
  simp [Addr.add]
  exact hv
theorem ret_str {a b : ByteArray} (h : a = b) : Ending.returned (.string a) = .returned (.string b) := by rw [h]
theorem dec_room {n k : Int} {l : List UInt8} (h1 : n < 4294967296) (h : decTxt n.toNat = decTxt k.toNat ++ l) : (bs l).size ≤ 20 := by
  have := decTxt_len 9 n.toNat (by omega)
  rw [h] at this
  rw [bs_size]; simp at this; omega
theorem bs_cons (c : UInt8) (l : List UInt8) : bs [c] ++ bs l = bs (c :: l) := by rw [bs_append]; rfl
set_option maxRecDepth 100000 in
set_option maxHeartbeats 1000000 in
theorem decimal_any (n : Int) (h0 : 0 ≤ n) (h1 : n < 4294967296) (w : World) :
    Calls Tryd.prog 29 #[.int .u64 n] w fun e w' => e = .returned (.string (bs (decTxt n.toNat))) ∧ Below w.heap.size w w' := by
  go_enter Tryd.func29, Tryd.ntmps29
  go_wp2
  go_loopw [0, 3] (fun x t w' => ∃ (k : Int) (l : List UInt8), 0 ≤ k ∧ k < 4294967296 ∧ x = .int .u64 k ∧ t = .string (bs l) ∧ Hid (decTxt n.toNat = decTxt k.toNat ++ l) ∧ Hid (Below w.heap.size w w')) (fun x _ _ => (intOf x).toNat)
  case atStart => exact ⟨n, [], h0, h1, rfl, rfl, by simp [Hid], Below.refl _ _⟩
  case round =>
    obtain ⟨k, l, hk0, hk, rfl, rfl, HD, HB⟩ := hrel
    by_cases h9 : 9 < k
    · have hcv := conv_one wr (48 + k % 10) (by omega) (by omega)
      have z1 := bs_size [UInt8.ofNat (48 + k % 10).toNat]
      have zl : (bs l).size ≤ 20 := dec_room h1 HD.out
      go_wp2
      have hk' : 9 < k.toNat := by omega
      exact ⟨⟨k / 10, UInt8.ofNat (48 + k % 10).toNat :: l, by omega, by omega, rfl, congrArg Value.string (bs_cons _ _), by
        show decTxt n.toNat = _
        rw [HD.out, decTxt_big _ hk', show (48 + k % 10).toNat = 48 + k.toNat % 10 from by omega, show (k / 10).toNat = k.toNat / 10 from by omega]; simp, HB.out.alloc HB.out.size _⟩, by simp [intOf]; omega⟩
    · have hcv := conv_one wr (48 + k) (by omega) (by omega)
      have z1 := bs_size [UInt8.ofNat (48 + k).toNat]
      have zl : (bs l).size ≤ 20 := dec_room h1 HD.out
      go_wp2
      go_ret
      refine ⟨?_, HB.out.alloc HB.out.size _⟩
      have e : bs [UInt8.ofNat (48 + k).toNat] ++ bs l = bs (decTxt n.toNat) := by
        rw [bs_cons, HD.out, decTxt_small _ (by omega), show (48 + k).toNat = 48 + k.toNat from by omega]; rfl
      exact ret_str e
/-- a number's figures -/
def decI (x : Int) : List UInt8 := decTxt x.toNat
theorem decI_len {x : Int} (h : x < 4294967296) : (decI x).length ≤ 10 := dec_len _ (by omega)
theorem whole_any (n : Int) (h0 : 0 ≤ n) (h1 : n < 4294967296) (w : World) :
    Calls Tryd.prog 15 #[.int .i64 n] w fun e w' => e = .returned (.string (bs (decI n))) ∧ Below w.heap.size w w' := by
  have DC := hidden (decimal_any n h0 h1 w)
  go_enter Tryd.func15, Tryd.ntmps15
  have e : IntKind.u64.wrap n = n := by rw [IntKind.wrap_u64]; omega
  go_wp2_with fail
  go_at_call 29
  refine DC.out.mono ?_
  rintro e w1 ⟨rfl, hb⟩
  go_wp2
  go_ret
  exact ⟨rfl, hb⟩
theorem add_bs (W : World) (x y : List UInt8) (h : x.length + y.length ≤ 4000000000000) : (Op.stringOp .add (bs x) (bs y)).run Tryd.prog W = .ok (.string (bs (x ++ y))) W := by
  rw [run_string_add_sum W _ _ (by rw [bs_size, bs_size]; omega), bs_append]
theorem add_to (x y : ByteArray) (lx ly : List UInt8) (hx : x = bs lx) (hy : y = bs ly) (h : lx.length + ly.length ≤ 4000000000000) :
    ∃ z : List UInt8, Hid (z = lx ++ ly) ∧ z.length = lx.length + ly.length ∧ ∀ W, (Op.stringOp .add x y).run Tryd.prog W = .ok (.string (bs z)) W :=
  ⟨lx ++ ly, rfl, by simp, fun W => by rw [hx, hy]; exact add_bs W lx ly h⟩
/-- what a latch's line ends with -/
def firstT (l : LatD) : List UInt8 := decI l.next ++ (if l.init then [32, 49, 10] else [10])
set_option maxRecDepth 100000 in
theorem first_any (l : LatD) (h0 : 0 ≤ l.next) (h1 : l.next < 4294967296) (w : World) :
    Calls Tryd.prog 16 #[.agg #[.int .i64 l.next, .bool l.init]] w fun e w' => e = .returned (.string (bs (firstT l))) ∧ Below w.heap.size w w' := by
  obtain ⟨nx, ini⟩ := l
  simp only at h0 h1
  have WH : Hid (∀ w' : World, Calls Tryd.prog 15 #[.int .i64 nx] w' fun e w'' => e = .returned (.string (bs (decI nx))) ∧ Below w'.heap.size w' w'') := fun w' => whole_any nx h0 h1 w'
  have hl := decI_len h1
  obtain ⟨z1, HZ1, _, a1⟩ := add_to _ ⟨#[32, 49, 10]⟩ (decI nx) [32, 49, 10] rfl rfl (by simp; omega)
  obtain ⟨z2, HZ2, _, a2⟩ := add_to _ ⟨#[10]⟩ (decI nx) [10] rfl rfl (by simp; omega)
  go_enter Tryd.func16, Tryd.ntmps16
  cases ini
  · go_wp2_with fail
    go_at_call 15
    refine (WH.out _).mono ?_
    rintro e w1 ⟨rfl, hb⟩
    go_wp2
    go_ret
    refine ⟨ret_str ?_, ((Below.refl _ _).alloc (Nat.le_refl _) _).trans (hb.mono (by simp))⟩
    rw [HZ2.out]; rfl
  · go_wp2_with fail
    go_at_call 15
    refine (WH.out _).mono ?_
    rintro e w1 ⟨rfl, hb⟩
    go_wp2
    go_ret
    refine ⟨ret_str ?_, ((Below.refl _ _).alloc (Nat.le_refl _) _).trans (hb.mono (by simp))⟩
    rw [HZ1.out]; rfl


end Go.Proofs.YtdiahnommkhkiaaDoor
