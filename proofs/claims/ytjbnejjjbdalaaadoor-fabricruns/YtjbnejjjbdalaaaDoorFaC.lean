import Derived.Test.YtjbnejjjbdalaaaDoorFaA
namespace Go.Proofs.YtjbnejjjbdalaaaDoor
open Go.RowKit

/-! Bits of bytes, the highest first (pure) -/
def bitN (bs : List Nat) (p : Nat) : Nat := bs.getD (p / 8) 0 / 2 ^ (7 - p % 8) % 2
def numN (bs : List Nat) (p : Nat) : Nat → Nat
  | 0 => 0
  | n + 1 => 2 * numN bs p n + bitN bs (p + n)
theorem bitN_lt (bs : List Nat) (p : Nat) : bitN bs p < 2 := Nat.mod_lt _ (by decide)
theorem numN_lt (bs : List Nat) (p n : Nat) : numN bs p n < 2 ^ n := by
  induction n with
  | zero => simp [numN]
  | succ n ih =>
    have := bitN_lt bs (p + n)
    rw [numN, Nat.pow_succ]
    omega
/-- a number's bit -/
theorem numN_bit (bs : List Nat) (p n i : Nat) (h : i < n) : numN bs p n / 2 ^ (n - 1 - i) % 2 = bitN bs (p + i) := by
  induction n with
  | zero => omega
  | succ n ih =>
    have hb := bitN_lt bs (p + n)
    by_cases e : i = n
    · subst e
      rw [show i + 1 - 1 - i = 0 by omega, Nat.pow_zero, Nat.div_one, numN]
      omega
    · rw [show n + 1 - 1 - i = (n - 1 - i) + 1 by omega, Nat.pow_succ, Nat.mul_comm, ← Nat.div_div_eq_div_mul, numN]
      rw [show (2 * numN bs p n + bitN bs (p + n)) / 2 = numN bs p n by omega]
      exact ih (by omega)
theorem bitN_app (m bs : List Nat) (hm : m.length = 4) (q : Nat) : bitN (m ++ bs) (32 + q) = bitN bs q := by
  unfold bitN
  rw [show (32 + q) / 8 = q / 8 + 4 by omega, show (32 + q) % 8 = q % 8 by omega]
  congr 2
  simp only [List.getD_eq_getElem?_getD]
  rw [List.getElem?_append_right (by omega), hm, Nat.add_sub_cancel]
theorem numN_app (m bs : List Nat) (hm : m.length = 4) (q n : Nat) : numN (m ++ bs) (32 + q) n = numN bs q n := by
  induction n with
  | zero => rfl
  | succ n ih => rw [numN, numN, ih, Nat.add_assoc, bitN_app m bs hm]
theorem numN_zero (bs : List Nat) (p n : Nat) : numN bs p n = 0 ↔ ∀ i, i < n → bitN bs (p + i) = 0 := by
  induction n with
  | zero => simp [numN]
  | succ n ih =>
    rw [numN]
    constructor
    · intro h i hi
      by_cases e : i = n
      · subst e; omega
      · exact ih.1 (by omega) i (by omega)
    · intro h
      rw [ih.2 (fun i hi => h i (by omega)), h n (by omega)]
/-- bytes out of bits: so many of them, none behind -/
structure Enc (bs : List Nat) (n : Nat) (f : Nat → Nat) : Prop where
  len : bs.length = (n + 7) / 8
  byte : ∀ x, x ∈ bs → x < 256
  bit : ∀ q, q < n → bitN bs q = f q
  zero : ∀ q, n ≤ q → bitN bs q = 0
theorem byte_bits (x y : Nat) (hx : x < 256) (hy : y < 256) (h : ∀ i, i < 8 → x / 2 ^ (7 - i) % 2 = y / 2 ^ (7 - i) % 2) : x = y := by
  have h0 := h 0 (by omega)
  have h1 := h 1 (by omega)
  have h2 := h 2 (by omega)
  have h3 := h 3 (by omega)
  have h4 := h 4 (by omega)
  have h5 := h 5 (by omega)
  have h6 := h 6 (by omega)
  have h7 := h 7 (by omega)
  simp only [Nat.reduceSub, Nat.reducePow] at h0 h1 h2 h3 h4 h5 h6 h7
  omega
theorem bytes_ext (a b : List Nat) (hl : a.length = b.length) (ha : ∀ x, x ∈ a → x < 256) (hb : ∀ x, x ∈ b → x < 256) (h : ∀ q, q < 8 * a.length → bitN a q = bitN b q) : a = b := by
  apply List.ext_getElem hl
  intro i h1 h2
  refine byte_bits _ _ (ha _ (List.getElem_mem h1)) (hb _ (List.getElem_mem h2)) (fun j hj => ?_)
  have := h (8 * i + j) (by omega)
  unfold bitN at this
  rw [show (8 * i + j) / 8 = i by omega, show (8 * i + j) % 8 = j by omega] at this
  simpa [List.getD_eq_getElem?_getD, List.getElem?_eq_getElem h1, List.getElem?_eq_getElem h2] using this
/-- the bytes that are made of a text's own bits are that text, if no byte is left and nothing stands behind them -/
theorem enc_same {xs bs : List Nat} {n : Nat} (hb : ∀ x, x ∈ bs → x < 256) (h : Enc xs n (bitN bs)) : xs = bs ↔ (n ≤ 8 * bs.length ∧ 8 * bs.length - n < 8 ∧ ∀ q, n ≤ q → q < 8 * bs.length → bitN bs q = 0) ∨ xs = bs := by
  constructor
  · exact .inr
  · rintro (⟨h1, h2, h3⟩ | h)
    · have hl : xs.length = bs.length := by rw [h.len]; omega
      refine bytes_ext _ _ hl h.byte hb (fun q hq => ?_)
      by_cases e : q < n
      · exact h.bit q e
      · rw [h.zero q (by omega), h3 q (by omega) (by rw [← hl]; exact hq)]
    · exact h
theorem enc_left {xs bs : List Nat} {n : Nat} (h : Enc xs n (bitN bs)) (e : xs = bs) : n ≤ 8 * bs.length ∧ 8 * bs.length - n < 8 ∧ ∀ q, n ≤ q → bitN bs q = 0 := by
  subst e
  have := h.len
  exact ⟨by omega, by omega, h.zero⟩
/-- one bit more -/
theorem bit_set (x i : Nat) (hi : i < 8) (hz : x / 2 ^ (7 - i) % 2 = 0) (hlt : x < 256) (j : Nat) (hj : j < 8) : (x + 2 ^ (7 - i)) / 2 ^ (7 - j) % 2 = (if j = i then 1 else x / 2 ^ (7 - j) % 2) ∧ x + 2 ^ (7 - i) < 256 := by
  rcases (show i = 0 ∨ i = 1 ∨ i = 2 ∨ i = 3 ∨ i = 4 ∨ i = 5 ∨ i = 6 ∨ i = 7 by omega) with rfl | rfl | rfl | rfl | rfl | rfl | rfl | rfl <;>
  rcases (show j = 0 ∨ j = 1 ∨ j = 2 ∨ j = 3 ∨ j = 4 ∨ j = 5 ∨ j = 6 ∨ j = 7 by omega) with rfl | rfl | rfl | rfl | rfl | rfl | rfl | rfl <;>
  simp only [Nat.reduceSub, Nat.reducePow] at hz ⊢ <;> simp <;> omega
def putB (bs : List Nat) (n bit : Nat) : List Nat := let l := if n % 8 = 0 then bs ++ [0] else bs; if bit = 1 then l.set (n / 8) (l.getD (n / 8) 0 + 2 ^ (7 - n % 8)) else l
theorem bitN_grow (bs : List Nat) (q : Nat) : bitN (bs ++ [0]) q = bitN bs q := by
  unfold bitN
  congr 2
  simp only [List.getD_eq_getElem?_getD]
  by_cases h : q / 8 < bs.length
  · rw [List.getElem?_append_left h]
  · rw [List.getElem?_append_right (by omega), List.getElem?_eq_none (l := bs) (by omega)]
    cases hk : q / 8 - bs.length with
    | zero => simp
    | succ k => simp
theorem Enc.put {bs : List Nat} {n : Nat} {f : Nat → Nat} (h : Enc bs n f) (bit : Nat) (hb : bit < 2) (g : Nat → Nat) (hg : ∀ q, q < n → g q = f q) (hn : g n = bit) : Enc (putB bs n bit) (n + 1) g := by
  obtain ⟨l, hl⟩ : ∃ l, l = if n % 8 = 0 then bs ++ [0] else bs := ⟨_, rfl⟩
  have hlen : l.length = (n + 1 + 7) / 8 := by
    have := h.len
    rw [hl]; split
    · rw [List.length_append]; simp; omega
    · omega
  have hbyte : ∀ x, x ∈ l → x < 256 := by
    intro x hx
    rw [hl] at hx
    split at hx
    · rcases List.mem_append.1 hx with hx | hx
      · exact h.byte x hx
      · simp at hx; omega
    · exact h.byte x hx
  have hbit : ∀ q, bitN l q = bitN bs q := by
    intro q
    rw [hl]; split
    · exact bitN_grow bs q
    · rfl
  have e : putB bs n bit = if bit = 1 then l.set (n / 8) (l.getD (n / 8) 0 + 2 ^ (7 - n % 8)) else l := by rw [hl]; rfl
  rw [e]
  have hk : n / 8 < l.length := by omega
  rcases (show bit = 0 ∨ bit = 1 by omega) with rfl | rfl
  · rw [if_neg (by decide)]
    refine ⟨hlen, hbyte, fun q hq => ?_, fun q hq => by rw [hbit]; exact h.zero q (by omega)⟩
    rw [hbit]
    by_cases e : q = n
    · subst e; rw [hn]; exact h.zero q (Nat.le_refl _)
    · rw [hg q (by omega)]; exact h.bit q (by omega)
  · rw [if_pos rfl]
    obtain ⟨x, hx⟩ : ∃ x, x = l.getD (n / 8) 0 := ⟨_, rfl⟩
    have hx' : l.getD (n / 8) 0 = l[n / 8] := by simp [List.getD_eq_getElem?_getD, List.getElem?_eq_getElem hk]
    have hx2 : x < 256 := by rw [hx, hx']; exact hbyte _ (List.getElem_mem hk)
    have hz : x / 2 ^ (7 - n % 8) % 2 = 0 := by
      have := h.zero n (Nat.le_refl _)
      rw [← hbit] at this
      rw [hx]; exact this
    rw [← hx]
    have hset : ∀ q, bitN (l.set (n / 8) (x + 2 ^ (7 - n % 8))) q = if q = n then 1 else bitN l q := by
      intro q
      unfold bitN
      by_cases e : q / 8 = n / 8
      · rw [e, show (l.set (n / 8) (x + 2 ^ (7 - n % 8))).getD (n / 8) 0 = x + 2 ^ (7 - n % 8) by simp [List.getD_eq_getElem?_getD, hk], (bit_set x (n % 8) (by omega) hz hx2 (q % 8) (by omega)).1, ← hx]
        by_cases e2 : q = n
        · subst e2; simp
        · rw [if_neg (by omega), if_neg e2]
      · rw [if_neg (by intro h; subst h; exact e rfl)]
        congr 2
        simp only [List.getD_eq_getElem?_getD]
        rw [List.getElem?_set_ne (by omega)]
    refine ⟨by rw [List.length_set]; exact hlen, fun y hy => ?_, fun q hq => ?_, fun q hq => ?_⟩
    · rcases List.mem_or_eq_of_mem_set hy with hy | rfl
      · exact hbyte y hy
      · exact (bit_set x (n % 8) (by omega) hz hx2 0 (by omega)).2
    · rw [hset]
      by_cases e : q = n
      · subst e; rw [if_pos rfl, hn]
      · rw [if_neg e, hbit, hg q (by omega)]; exact h.bit q (by omega)
    · rw [hset, if_neg (by omega), hbit]; exact h.zero q (by omega)

end Go.Proofs.YtjbnejjjbdalaaaDoor
