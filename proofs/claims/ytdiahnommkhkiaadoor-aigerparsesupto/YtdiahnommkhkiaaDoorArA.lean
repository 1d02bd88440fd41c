import Derived.Test.YtdiahnommkhkiaaDoorAgL
import Derived.Deep.RegionHeld3
import Derived.Laws.IdiomStrings
namespace Go.Proofs.YtdiahnommkhkiaaDoor
open Go.RowKit

/-- the bytes of a text as the model has them -/
def bs (l : List UInt8) : ByteArray := ⟨l.toArray⟩
theorem bs_append (a b : List UInt8) : bs a ++ bs b = bs (a ++ b) := by
  apply ByteArray.ext; simp [bs, ByteArray.data_append]
theorem bs_size (a : List UInt8) : (bs a).size = a.length := by simp [bs, ByteArray.size]
def decTxt (n : Nat) : List UInt8 := if n ≤ 9 then [UInt8.ofNat (48 + n)] else decTxt (n / 10) ++ [UInt8.ofNat (48 + n % 10)]
termination_by n
decreasing_by omega
theorem decTxt_big (k : Nat) (h : 9 < k) : decTxt k = decTxt (k / 10) ++ [UInt8.ofNat (48 + k % 10)] := by
  rw [decTxt, if_neg (by omega)]
theorem decTxt_small (k : Nat) (h : k ≤ 9) : decTxt k = [UInt8.ofNat (48 + k)] := by
  rw [decTxt, if_pos h]
theorem decTxt_len (d n : Nat) (h : n < 10 ^ (d + 1)) : (decTxt n).length ≤ d + 1 := by
  induction d generalizing n with
  | zero => rw [decTxt_small n (by omega)]; simp
  | succ d ih =>
    by_cases h9 : n ≤ 9
    · rw [decTxt_small n h9]; simp
    · rw [decTxt_big n (by omega)]
      have := ih (n / 10) (by rw [Nat.div_lt_iff_lt_mul (by decide)]; rw [Nat.pow_succ] at h; exact h)
      simp; omega
theorem dec_len (n : Nat) (h : n < 4294967296) : (decTxt n).length ≤ 10 := decTxt_len 9 n (by omega)
theorem conv_one (w : World) (v : Int) (h0 : 0 ≤ v) (h1 : v ≤ 255) :
    (convert 30 9 (.slice (some ⟨w.heap.size, 0, none⟩) 1 1)).run Tryd.prog (w.alloc (.cells #[.int .u8 v] 5)) = .ok (.string (bs [UInt8.ofNat v.toNat])) (w.alloc (.cells #[.int .u8 v] 5)) := by
  refine run_convert_bytes_back (w.alloc (.cells #[.int .u8 v] 5)) 30 9 5 ⟨w.heap.size, 0, none⟩ 1 [UInt8.ofNat v.toNat] Tryd.underlying30 Tryd.underlying5 Tryd.underlying9 ?_
  intro j hj
  have e : j = 0 := by simp at hj; omega
  subst e
  have hv : v = max v 0 % 256 := by omega
  simp [Addr.add]
  exact hv
theorem ret_str {a b : ByteArray} (h : a = b) : Ending.returned (.string a) = .returned (.string b) := by rw [h]
theorem dec_room {n k : Int} {l : List UInt8} (h1 : n < 4294967296) (h : decTxt n.toNat = decTxt k.toNat ++ l) : (bs l).size ≤ 20 := by
  have := decTxt_len 9 n.toNat (by omega)
  rw [h] at this
  rw [bs_size]; simp at this; omega
theorem bs_cons (c : UInt8) (l : List UInt8) : bs [c] ++ bs l = bs (c :: l) := by rw [bs_append]; rfl

set_option maxRecDepth 100000 in
set_option maxHeartbeats 1000000 in
theorem decimal_any (n : Int) (h0 : 0 ≤ n) (h1 : n < 4294967296) (w : World) :
    Calls Tryd.prog 29 #[.int .u64 n] w fun e w' => e = .returned (.string (bs (decTxt n.toNat))) ∧ Below w.heap.size w w' := by
  go_enter Tryd.func29, Tryd.ntmps29
  go_wp2
  go_loopw [0, 3] (fun x t w' => ∃ (k : Int) (l : List UInt8), 0 ≤ k ∧ k < 4294967296 ∧ x = .int .u64 k ∧ t = .string (bs l) ∧ Hid (decTxt n.toNat = decTxt k.toNat ++ l) ∧ Hid (Below w.heap.size w w')) (fun x _ _ => (intOf x).toNat)
  case atStart => exact ⟨n, [], h0, h1, rfl, rfl, by simp [Hid], Below.refl _ _⟩
  case round =>
    obtain ⟨k, l, hk0, hk, rfl, rfl, HD, HB⟩ := hrel
    by_cases h9 : 9 < k
    · have hcv := conv_one wr (48 + k % 10) (by omega) (by omega)
      have z1 := bs_size [UInt8.ofNat (48 + k % 10).toNat]
      have zl : (bs l).size ≤ 20 := dec_room h1 HD.out
      go_wp2
      have hk' : 9 < k.toNat := by omega
      exact ⟨⟨k / 10, UInt8.ofNat (48 + k % 10).toNat :: l, by omega, by omega, rfl, congrArg Value.string (bs_cons _ _), by
        show decTxt n.toNat = _
        rw [HD.out, decTxt_big _ hk', show (48 + k % 10).toNat = 48 + k.toNat % 10 from by omega, show (k / 10).toNat = k.toNat / 10 from by omega]; simp, HB.out.alloc HB.out.size _⟩, by simp [intOf]; omega⟩
    · have hcv := conv_one wr (48 + k) (by omega) (by omega)
      have z1 := bs_size [UInt8.ofNat (48 + k).toNat]
      have zl : (bs l).size ≤ 20 := dec_room h1 HD.out
      go_wp2
      go_ret
      refine ⟨?_, HB.out.alloc HB.out.size _⟩
      have e : bs [UInt8.ofNat (48 + k).toNat] ++ bs l = bs (decTxt n.toNat) := by
        rw [bs_cons, HD.out, decTxt_small _ (by omega), show (48 + k).toNat = 48 + k.toNat from by omega]; rfl
      exact ret_str e

/-- a number's figures -/
def decI (x : Int) : List UInt8 := decTxt x.toNat
theorem decI_len {x : Int} (h : x < 4294967296) : (decI x).length ≤ 10 := dec_len _ (by omega)
theorem whole_any (n : Int) (h0 : 0 ≤ n) (h1 : n < 4294967296) (w : World) :
    Calls Tryd.prog 15 #[.int .i64 n] w fun e w' => e = .returned (.string (bs (decI n))) ∧ Below w.heap.size w w' := by
  have DC := hidden (decimal_any n h0 h1 w)
  go_enter Tryd.func15, Tryd.ntmps15
  have e : IntKind.u64.wrap n = n := by rw [IntKind.wrap_u64]; omega
  go_wp2_with fail
  go_at_call 29
  refine DC.out.mono ?_
  rintro e w1 ⟨rfl, hb⟩
  go_wp2
  go_ret
  exact ⟨rfl, hb⟩
theorem add_bs (W : World) (x y : List UInt8) (h : x.length + y.length ≤ 4000000000000) : (Op.stringOp .add (bs x) (bs y)).run Tryd.prog W = .ok (.string (bs (x ++ y))) W := by
  rw [run_string_add_sum W _ _ (by rw [bs_size, bs_size]; omega), bs_append]
theorem add_to (x y : ByteArray) (lx ly : List UInt8) (hx : x = bs lx) (hy : y = bs ly) (h : lx.length + ly.length ≤ 4000000000000) :
    ∃ z : List UInt8, Hid (z = lx ++ ly) ∧ z.length = lx.length + ly.length ∧ ∀ W, (Op.stringOp .add x y).run Tryd.prog W = .ok (.string (bs z)) W :=
  ⟨lx ++ ly, rfl, by simp, fun W => by rw [hx, hy]; exact add_bs W lx ly h⟩

/-- what a latch's line ends with -/
def firstT (l : LatD) : List UInt8 := decI l.next ++ (if l.init then [32, 49, 10] else [10])
set_option maxRecDepth 100000 in
theorem first_any (l : LatD) (h0 : 0 ≤ l.next) (h1 : l.next < 4294967296) (w : World) :
    Calls Tryd.prog 16 #[.agg #[.int .i64 l.next, .bool l.init]] w fun e w' => e = .returned (.string (bs (firstT l))) ∧ Below w.heap.size w w' := by
  obtain ⟨nx, ini⟩ := l
  simp only at h0 h1
  have WH : Hid (∀ w' : World, Calls Tryd.prog 15 #[.int .i64 nx] w' fun e w'' => e = .returned (.string (bs (decI nx))) ∧ Below w'.heap.size w' w'') := fun w' => whole_any nx h0 h1 w'
  have hl := decI_len h1
  obtain ⟨z1, HZ1, _, a1⟩ := add_to _ ⟨#[32, 49, 10]⟩ (decI nx) [32, 49, 10] rfl rfl (by simp; omega)
  obtain ⟨z2, HZ2, _, a2⟩ := add_to _ ⟨#[10]⟩ (decI nx) [10] rfl rfl (by simp; omega)
  go_enter Tryd.func16, Tryd.ntmps16
  cases ini
  · go_wp2_with fail
    go_at_call 15
    refine (WH.out _).mono ?_
    rintro e w1 ⟨rfl, hb⟩
    go_wp2
    go_ret
    refine ⟨ret_str ?_, ((Below.refl _ _).alloc (Nat.le_refl _) _).trans (hb.mono (by simp))⟩
    rw [HZ2.out]; rfl
  · go_wp2_with fail
    go_at_call 15
    refine (WH.out _).mono ?_
    rintro e w1 ⟨rfl, hb⟩
    go_wp2
    go_ret
    refine ⟨ret_str ?_, ((Below.refl _ _).alloc (Nat.le_refl _) _).trans (hb.mono (by simp))⟩
    rw [HZ1.out]; rfl

end Go.Proofs.YtdiahnommkhkiaaDoor
