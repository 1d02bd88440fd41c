import Derived.Test.YtjbnejjjbdalaaaDoorFaC
import Derived.Laws.BitsAllLaws
import Derived.Laws.BitsLemmas
namespace Go.Proofs.YtjbnejjjbdalaaaDoor
open Go.RowKit

/-! The check sum -/
def byV (x : Nat) : Value := .int .u8 (x : Int)
def byteC (x : Nat) : List Value := [.int .u8 (x : Int)]
def crcB (c : Nat) : Nat := if c % 2 = 1 then (c / 2) ^^^ 3988292384 else c / 2
def crcK : Nat → Nat → Nat
  | 0, c => c
  | k + 1, c => crcB (crcK k c)
def crc1 (c x : Nat) : Nat := crcK 8 (c ^^^ x)
def crcL (bs : List Nat) : Nat := bs.foldl crc1 4294967295
def crcV (bs : List Nat) : Nat := crcL bs ^^^ 4294967295
theorem xor_lt {a b : Nat} (ha : a < 4294967296) (hb : b < 4294967296) : a ^^^ b < 4294967296 := Nat.xor_lt_two_pow (n := 32) ha hb
theorem crcB_lt {c : Nat} (h : c < 4294967296) : crcB c < 4294967296 := by
  unfold crcB
  split
  · exact xor_lt (by omega) (by decide)
  · omega
theorem crcK_lt {k c : Nat} (h : c < 4294967296) : crcK k c < 4294967296 := by
  induction k with
  | zero => exact h
  | succ k ih => exact crcB_lt ih
theorem crcL_lt {bs : List Nat} (hb : ∀ x, x ∈ bs → x < 256) : crcL bs < 4294967296 := by
  unfold crcL
  suffices ∀ (c : Nat), c < 4294967296 → bs.foldl crc1 c < 4294967296 from this _ (by decide)
  induction bs with
  | nil => exact fun c hc => hc
  | cons x l ih =>
    intro c hc
    exact ih (fun y hy => hb y (List.mem_cons_of_mem _ hy)) _ (crcK_lt (xor_lt hc (by have := hb x List.mem_cons_self; omega)))
theorem crcL_next {bs : List Nat} {k x : Nat} (h : bs[k]? = some x) : crcL (bs.take (k + 1)) = crc1 (crcL (bs.take k)) x := by
  unfold crcL
  rw [take_next _ _ _ h, List.foldl_append]; rfl
theorem RowAt.byte {B : Nat} {w : World} {a : Option Addr} {xs : List Nat} (h : RowAt B w a 1 (xs.map byteC)) {i : Nat} {x : Nat} (hx : xs[i]? = some x) :
    ∃ b o, a = some ⟨b, o, none⟩ ∧ b < B ∧ w.cell? ⟨b, o + i, none⟩ = some (.int .u8 (x : Int)) := by
  obtain ⟨b, o, ha, hlt, hc⟩ := h.el hx
  exact ⟨b, o, ha, hlt, (congrArg (fun m => w.cell? ⟨b, o + m, none⟩) (Nat.mul_one i).symm).trans (hc 0 _ rfl)⟩

set_option maxRecDepth 100000 in
set_option maxHeartbeats 8000000 in
theorem crc_doc (B : Nat) (w : World) (a : Option Addr) (c0 : Nat) (bs : List Nat) (R : RowAt B w a 1 (bs.map byteC)) (hl : bs.length < 281474976710656) (hb : ∀ x, x ∈ bs → x < 256) :
    Calls Tryd.prog 27 #[.slice a bs.length c0] w fun e w' => e = .returned (.int .u32 (crcV bs : Nat)) ∧ w' = w := by
  have HR := hidden R
  have HBY := hidden hb
  obtain ⟨m, HM⟩ : ∃ m, Hid (m = bs.length) := ⟨_, rfl⟩
  rw [← HM.out] at hl ⊢
  obtain ⟨rv, HRV⟩ : ∃ r, Hid (crcV bs = r) := ⟨_, rfl⟩
  rw [HRV.out]
  clear R hb
  go_enter Tryd.func27, Tryd.ntmps27
  go_wp2_with fail
  go_loopw [4, 3] (fun i' c' w' => ∃ (k c : Nat), k ≤ m ∧ i' = .int .i64 k ∧ c' = .int .u32 c ∧ c < 4294967296 ∧ Hid (c = crcL (bs.take k)) ∧ Hid (w' = w)) (fun i' _ _ => m - (intOf i').toNat)
  case atStart => exact ⟨0, 4294967295, Nat.zero_le _, rfl, rfl, by decide, rfl, rfl⟩
  case round =>
    obtain ⟨k, c, hk, rfl, rfl, hc, HC, HW⟩ := hrel
    by_cases hlt : k < m
    · have hltI : (k : Int) < (m : Int) := by omega
      obtain ⟨x, hd⟩ := getElem_lt (show k < bs.length by rw [← HM.out]; exact hlt)
      obtain ⟨b, o, ea, hlb, hcl⟩ := HR.out.byte hd
      have hx := HBY.out x (List.mem_of_getElem? hd)
      have q0 : wr.cell? ⟨b, o + k, none⟩ = some (.int .u8 (x : Int)) := by rw [HW.out]; exact hcl
      have e2 : IntKind.i64.wrap ((k : Int) + 1) = (k : Int) + 1 := wrapI _ (by omega) (by omega)
      have HD := hidden hd
      rw [ea]
      clear hd hcl hlb ea
      have e3 : IntKind.u32.wrap (x : Int) = (x : Int) := by rw [IntKind.wrap_u32']; omega
      have e4 : bits BinOp.xor IntKind.u32 (c : Int) (x : Int) = ((c ^^^ x : Nat) : Int) := u32_xor_nat c x hc (by omega)
      obtain ⟨c1, HC1⟩ : ∃ c1, Hid (c1 = c ^^^ x) := ⟨_, rfl⟩
      rw [← HC1.out] at e4
      have hc1 : c1 < 4294967296 := by rw [HC1.out]; exact xor_lt hc (by omega)
      go_wp2_with fail
      clear q0 e3 e4
      go_loopw [5, 3] (fun j' c' w' => ∃ (j d : Nat), j ≤ 8 ∧ j' = .int .i64 j ∧ c' = .int .u32 d ∧ d < 4294967296 ∧ Hid (d = crcK j c1) ∧ Hid (w' = w)) (fun j' _ _ => 8 - (intOf j').toNat)
      case atStart => exact ⟨0, c1, Nat.zero_le _, rfl, rfl, hc1, rfl, HW.out⟩
      case round =>
        clear HW
        obtain ⟨j, d, hj, rfl, rfl, hd, HDK, HW⟩ := hrel
        by_cases hjl : j < 8
        · have hjI : (j : Int) < 8 := by omega
          have ej : IntKind.i64.wrap ((j : Int) + 1) = (j : Int) + 1 := wrapI _ (by omega) (by omega)
          have HN1 : Hid (crcB d = crcK (j + 1) c1) := by show _ = _; rw [HDK.out]; rfl
          have hlt1 := crcB_lt hd
          by_cases ho : d % 2 = 1
          · have h1 : ((d : Int) % 2 == 1) = true := by simp; omega
            have HE : Hid (bits BinOp.xor IntKind.u32 ((d : Int) / 2) 3988292384 = ((crcB d : Nat) : Int)) := by
              show _ = _
              rw [show crcB d = (d / 2) ^^^ 3988292384 by unfold crcB; rw [if_pos ho]]
              exact u32_xor_nat (d / 2) 3988292384 (by omega) (by decide)
            go_wp2
            go_roundw
            case measure => simp [intOf]; omega
            case rel => exact ⟨j + 1, crcB d, by omega, by simp, by rw [HE.out], hlt1, HN1.out, HW.out⟩
          · have h1 : ((d : Int) % 2 == 1) = false := by simp; omega
            have HE : Hid (((d : Int) / 2) = ((crcB d : Nat) : Int)) := by
              show _ = _
              rw [show crcB d = d / 2 by unfold crcB; rw [if_neg ho]]
              omega
            go_wp2
            go_roundw
            case measure => simp [intOf]; omega
            case rel => exact ⟨j + 1, crcB d, by omega, by simp, by rw [HE.out], hlt1, HN1.out, HW.out⟩
        · have hjI : ¬ ((j : Int) < 8) := by omega
          have HN1 : Hid (d = crcL (bs.take (k + 1))) := by
            show _ = _
            rw [crcL_next HD.out, ← HC.out, HDK.out, HC1.out, show j = 8 by omega]; rfl
          go_wp2
          go_roundw
          case measure => simp [intOf]; omega
          case rel => exact ⟨k + 1, d, by omega, by simp, rfl, hd, HN1.out, HW.out⟩
    · have hge : ¬ ((k : Int) < (m : Int)) := by omega
      have HF : Hid (bits BinOp.xor IntKind.u32 (c : Int) 4294967295 = (rv : Int)) := by
        show _ = _
        rw [← HRV.out, crcV, show crcL bs = c by rw [HC.out, List.take_of_length_le (by have := HM.out; omega)]]
        exact u32_xor_nat c 4294967295 hc (by decide)
      go_wp2
      go_ret
      exact ⟨ret_int HF.out, HW.out⟩

/-- the sum as four bytes -/
def sumB (c : Nat) : List Nat := [c / 16777216 % 256, c / 65536 % 256, c / 256 % 256, c % 256]
def tellB (y0 y1 y2 y3 : Nat) : Nat := y0 * 16777216 + y1 * 65536 + y2 * 256 + y3
theorem tell_sum (c y0 y1 y2 y3 : Nat) (hc : c < 4294967296) (h0 : y0 < 256) (h1 : y1 < 256) (h2 : y2 < 256) (h3 : y3 < 256) : c = tellB y0 y1 y2 y3 ↔ sumB c = [y0, y1, y2, y3] := by
  unfold tellB sumB
  simp only [List.cons.injEq, and_true]
  omega

set_option maxRecDepth 100000 in
set_option maxHeartbeats 8000000 in
theorem sums_doc (B : Nat) (w : World) (a : Option Addr) (c0 : Nat) (bs : List Nat) (R : RowAt B w a 1 (bs.map byteC)) (hl : bs.length < 281474976710656) (hb : ∀ x, x ∈ bs → x < 256) :
    Calls Tryd.prog 15 #[.slice a bs.length c0] w fun e w' => e = .returned (.slice (some ⟨w.heap.size, 0, none⟩) 4 4) ∧ w' = w.alloc (.cells (((sumB (crcV bs)).map byV).toArray) 5) := by
  have CD : Hid (Calls Tryd.prog 27 #[.slice a bs.length c0] w fun e w' => e = .returned (.int .u32 (crcV bs : Nat)) ∧ w' = w) := crc_doc B w a c0 bs R hl hb
  have hc : crcV bs < 4294967296 := xor_lt (crcL_lt hb) (by decide)
  clear R hb hl
  generalize crcV bs = c at *
  have HS : Hid (((sumB c).map byV).toArray = #[.int .u8 ((c : Int) / 16777216 % 256), .int .u8 ((c : Int) / 65536 % 256), .int .u8 ((c : Int) / 256 % 256), .int .u8 ((c : Int) % 256)]) := by
    show _ = _
    simp [sumB, byV]
  rw [HS.out]
  have w1 : ∀ x : Int, IntKind.u8.wrap x = x % 256 := IntKind.wrap_u8'
  go_enter Tryd.func15, Tryd.ntmps15
  go_wp2_with (go_at_call 27; refine CD.out.mono ?_; rintro e v ⟨rfl, rfl⟩)
  go_ret
  exact ⟨rfl, rfl⟩

theorem or_mul (a b i : Nat) (h : b < 2 ^ i) : a * 2 ^ i ||| b = a * 2 ^ i + b := by
  rw [Nat.mul_comm, Nat.two_pow_add_eq_or_of_lt h]
theorem tell_or (y0 y1 y2 y3 : Nat) (h0 : y0 < 256) (h1 : y1 < 256) (h2 : y2 < 256) (h3 : y3 < 256) :
    bits BinOp.or IntKind.u32 (bits BinOp.or IntKind.u32 (bits BinOp.or IntKind.u32 ((y0 : Int) * 16777216) ((y1 : Int) * 65536)) ((y2 : Int) * 256)) (y3 : Int) = ((tellB y0 y1 y2 y3 : Nat) : Int) := by
  have e1 : bits BinOp.or IntKind.u32 ((y0 : Int) * 16777216) ((y1 : Int) * 65536) = ((y0 * 16777216 + y1 * 65536 : Nat) : Int) := by
    have := u32_or_nat (y0 * 16777216) (y1 * 65536) (by omega) (by omega)
    rw [show (16777216 : Nat) = 2 ^ 24 from rfl, or_mul y0 (y1 * 65536) 24 (by omega)] at this
    exact this
  have e2 : bits BinOp.or IntKind.u32 ((y0 * 16777216 + y1 * 65536 : Nat) : Int) ((y2 : Int) * 256) = (((y0 * 256 + y1) * 65536 + y2 * 256 : Nat) : Int) := by
    have := u32_or_nat ((y0 * 256 + y1) * 65536) (y2 * 256) (by omega) (by omega)
    rw [show (65536 : Nat) = 2 ^ 16 from rfl, or_mul (y0 * 256 + y1) (y2 * 256) 16 (by omega)] at this
    rw [show y0 * 16777216 + y1 * 65536 = (y0 * 256 + y1) * 2 ^ 16 by omega]
    exact this
  have e3 : bits BinOp.or IntKind.u32 (((y0 * 256 + y1) * 65536 + y2 * 256 : Nat) : Int) (y3 : Int) = ((((y0 * 256 + y1) * 256 + y2) * 256 + y3 : Nat) : Int) := by
    have := u32_or_nat (((y0 * 256 + y1) * 256 + y2) * 256) y3 (by omega) (by omega)
    rw [show (((y0 * 256 + y1) * 256 + y2) * 256 ||| y3) = ((y0 * 256 + y1) * 256 + y2) * 256 + y3 from or_mul ((y0 * 256 + y1) * 256 + y2) y3 8 (by omega)] at this
    rw [show (y0 * 256 + y1) * 65536 + y2 * 256 = ((y0 * 256 + y1) * 256 + y2) * 256 by omega]
    exact this
  rw [e1, e2, e3]
  unfold tellB
  omega
theorem not_u32 (c : Nat) (h : c < 4294967296) : bits BinOp.xor IntKind.u32 IntKind.u32.max (c : Int) = ((c ^^^ 4294967295 : Nat) : Int) := by
  have := u32_xor_nat 4294967295 c (by decide) h
  rw [Nat.xor_comm] at this
  exact this
theorem and1_u32 (d : Nat) (h : d < 4294967296) : bits BinOp.and IntKind.u32 (d : Int) 1 = ((d % 2 : Nat) : Int) := by
  rw [show (1 : Int) = ((1 : Nat) : Int) from rfl, u32_and_nat d 1 h (by decide), Nat.and_one_is_mod]

set_option maxRecDepth 100000 in
set_option maxHeartbeats 8000000 in
theorem isSum_any (B : Nat) (w : World) (a1 a2 : Option Addr) (c1 c2 : Nat) (y0 y1 y2 y3 : Nat) (bs : List Nat) (R1 : RowAt B w a1 1 ([y0, y1, y2, y3].map byteC)) (R : RowAt B w a2 1 (bs.map byteC)) (hl : bs.length < 281474976710656) (hb : ∀ x, x ∈ bs → x < 256)
    (h0 : y0 < 256) (h1 : y1 < 256) (h2 : y2 < 256) (h3 : y3 < 256) :
    Calls Tryd.prog 28 #[.slice a1 4 c1, .slice a2 bs.length c2] w fun e w' => e = .returned (.bool (decide (crcV bs = tellB y0 y1 y2 y3))) ∧ ∃ n, w' = w.drewN n := by
  have HR := hidden R
  have HBY := hidden hb
  obtain ⟨m, HM⟩ : ∃ m, Hid (m = bs.length) := ⟨_, rfl⟩
  rw [← HM.out] at hl ⊢
  obtain ⟨rv, HRV⟩ : ∃ r, Hid (crcV bs = r) := ⟨_, rfl⟩
  rw [HRV.out]
  obtain ⟨b1, o1, ea1, -, k0⟩ := R1.byte (i := 0) (x := y0) rfl
  have hk : ∀ (i x : Nat), [y0, y1, y2, y3][i]? = some x → w.cell? ⟨b1, o1 + i, none⟩ = some (.int .u8 (x : Int)) := fun i x hx => by
    obtain ⟨b', o', e', -, h⟩ := R1.byte hx
    rw [ea1] at e'
    simp at e'
    rw [e'.1, e'.2]; exact h
  have k1 := hk 1 y1 rfl
  have k2 := hk 2 y2 rfl
  have k3 := hk 3 y3 rfl
  rw [Nat.add_zero] at k0
  rw [ea1]
  clear R hb hk R1 ea1
  go_enter Tryd.func28, Tryd.ntmps28
  go_wp2_with fail
  go_loopw [11, 5] (fun i' c' w' => ∃ (k c : Nat), k ≤ m ∧ i' = .int .i64 k ∧ c' = .int .u32 c ∧ c < 4294967296 ∧ Hid (c = crcL (bs.take k)) ∧ Hid (w' = w)) (fun i' _ _ => m - (intOf i').toNat)
  case atStart => exact ⟨0, 4294967295, Nat.zero_le _, rfl, rfl, by decide, rfl, rfl⟩
  case round =>
    obtain ⟨k, c, hk, rfl, rfl, hc, HC, HW⟩ := hrel
    by_cases hlt : k < m
    · have hltI : (k : Int) < (m : Int) := by omega
      obtain ⟨x, hd⟩ := getElem_lt (show k < bs.length by rw [← HM.out]; exact hlt)
      obtain ⟨b, o, ea, hlb, hcl⟩ := HR.out.byte hd
      have hx := HBY.out x (List.mem_of_getElem? hd)
      have q0 : wr.cell? ⟨b, o + k, none⟩ = some (.int .u8 (x : Int)) := by rw [HW.out]; exact hcl
      have e2 : IntKind.i64.wrap ((k : Int) + 1) = (k : Int) + 1 := wrapI _ (by omega) (by omega)
      have HD := hidden hd
      rw [ea]
      clear hd hcl hlb ea
      have e3 : IntKind.u32.wrap (x : Int) = (x : Int) := by rw [IntKind.wrap_u32']; omega
      have e4 : bits BinOp.xor IntKind.u32 (c : Int) (x : Int) = ((c ^^^ x : Nat) : Int) := u32_xor_nat c x hc (by omega)
      obtain ⟨c1, HC1⟩ : ∃ c1, Hid (c1 = c ^^^ x) := ⟨_, rfl⟩
      rw [← HC1.out] at e4
      have hc1 : c1 < 4294967296 := by rw [HC1.out]; exact xor_lt hc (by omega)
      go_wp2_with fail
      clear q0 e3 e4
      go_loopw [19, 5] (fun j' c' w' => ∃ (j d : Nat), j ≤ 8 ∧ j' = .int .i64 j ∧ c' = .int .u32 d ∧ d < 4294967296 ∧ Hid (d = crcK j c1) ∧ Hid (w' = w)) (fun j' _ _ => 8 - (intOf j').toNat)
      case atStart => exact ⟨0, c1, Nat.zero_le _, rfl, rfl, hc1, rfl, HW.out⟩
      case round =>
        clear HW
        obtain ⟨j, d, hj, rfl, rfl, hd, HDK, HW⟩ := hrel
        by_cases hjl : j < 8
        · have hjI : (j : Int) < 8 := by omega
          have ej : IntKind.i64.wrap ((j : Int) + 1) = (j : Int) + 1 := wrapI _ (by omega) (by omega)
          have HN1 : Hid (crcB d = crcK (j + 1) c1) := by show _ = _; rw [HDK.out]; rfl
          have hlt1 := crcB_lt hd
          by_cases ho : d % 2 = 1
          · have h1 : bits BinOp.and IntKind.u32 (d : Int) 1 = 1 := by rw [and1_u32 d hd, ho]; rfl
            have h2 : IntKind.u32.wrap 3988292384 = 3988292384 := by decide
            have HE : Hid (bits BinOp.xor IntKind.u32 ((d : Int) / 2) 3988292384 = ((crcB d : Nat) : Int)) := by
              show _ = _
              rw [show crcB d = (d / 2) ^^^ 3988292384 by unfold crcB; rw [if_pos ho]]
              exact u32_xor_nat (d / 2) 3988292384 (by omega) (by decide)
            clear ho
            go_wp2
            go_roundw
            case measure => simp [intOf]; omega
            case rel => exact ⟨j + 1, crcB d, by omega, by simp, by rw [← HE.out], hlt1, HN1.out, HW.out⟩
          · have h1 : bits BinOp.and IntKind.u32 (d : Int) 1 = 0 := by rw [and1_u32 d hd, show d % 2 = 0 by omega]; rfl
            have h2 : IntKind.u32.wrap 0 = 0 := by decide
            have HE : Hid (bits BinOp.xor IntKind.u32 ((d : Int) / 2) 0 = ((crcB d : Nat) : Int)) := by
              show _ = _
              rw [show crcB d = (d / 2) ^^^ 0 by unfold crcB; rw [if_neg ho, Nat.xor_zero]]
              exact u32_xor_nat (d / 2) 0 (by omega) (by decide)
            clear ho
            go_wp2
            go_roundw
            case measure => simp [intOf]; omega
            case rel => exact ⟨j + 1, crcB d, by omega, by simp, by rw [← HE.out], hlt1, HN1.out, HW.out⟩
        · have hjI : ¬ ((j : Int) < 8) := by omega
          have HN1 : Hid (d = crcL (bs.take (k + 1))) := by
            show _ = _
            rw [crcL_next HD.out, ← HC.out, HDK.out, HC1.out, show j = 8 by omega]; rfl
          go_wp2
          go_roundw
          case measure => simp [intOf]; omega
          case rel => exact ⟨k + 1, d, by omega, by simp, rfl, hd, HN1.out, HW.out⟩
    · have hge : ¬ ((k : Int) < (m : Int)) := by omega
      have HF : Hid (crcL bs = c ∧ crcV bs = rv) := ⟨by rw [HC.out, List.take_of_length_le (by have := HM.out; omega)], HRV.out⟩
      rw [← HW.out] at k0 k1 k2 k3
      go_upto_region 11 with fail
      go_quiet (fail)
      go_wp2
      go_ret
      refine ⟨ret_bool ?_, _, by rw [HW.out]⟩
      rw [tell_or y0 y1 y2 y3 h0 h1 h2 h3, not_u32 c hc, ← HF.out.2, crcV, HF.out.1]
      rw [Bool.eq_iff_iff]
      simp only [beq_iff_eq, decide_eq_true_eq]
      omega

end Go.Proofs.YtjbnejjjbdalaaaDoor
