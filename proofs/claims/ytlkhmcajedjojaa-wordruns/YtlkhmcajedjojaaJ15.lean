import Derived.Test.YtlkhmcajedjojaaJ09
import Derived.Test.YtlkhmcajedjojaaJ14
import Derived.Test.YtlkhmcajedjojaaJ12
import Derived.Test.YtlkhmcajedjojaaJ11
import Derived.Test.YtlkhmcajedjojaaJ13
namespace Go.Proofs.Ytlkhmcajedjojaa
open Go.RowKit

set_option maxRecDepth 100000 in
set_option maxHeartbeats 8000000 in
theorem op_odd (w : World) (width : Nat) (hw1 : 1 ≤ width) (hw2 : width ≤ 32) (num : Nat) (ab ao n ca : Nat) (aw : Option Addr) (nw cw : Nat) (x : Nat) (hx : x < 18446744073709551616) (hn : (0 : Int) < (n : Int)) (c0 : w.cell? ⟨ab, ao, none⟩ = some (.int .u64 (x : Int))) :
    Calls Try.prog 39 #[.int .i64 11, .int .i64 width, .int .u64 num, .slice (some ⟨ab, ao, none⟩) n ca, .slice aw nw cw] w fun e w' => e = .returned (.int .u64 ((oddN 64 x : Nat) : Int)) ∧ ∃ q, w' = w.drewN q := by
  have MK : Hid (∀ w, Calls Try.prog 19 #[.int .i64 (width : Int)] w fun e w' => e = .returned (.int .u64 (maskN (width : Int))) ∧ w' = w) := fun w => mask_int (width : Int) (by simp [widthOk]; omega) w
  obtain ⟨tot, HT⟩ : ∃ tot, Hid (oddN 64 x = tot) := ⟨_, rfl⟩
  rw [HT.out]
  go_enter Try.func39, Try.ntmps39
  go_wp2_with (go_at_call 19; refine (MK.out _).mono ?_; rintro e w' ⟨rfl, hw'⟩; subst w')
  go_loopw [14, 15] (fun s i w' => ∃ (f v c : Nat), f ≤ 64 ∧ v < 2 ^ f ∧ v < 18446744073709551616 ∧ c < 2 ∧ s = .int .u64 (c : Int) ∧ i = .int .u64 (v : Int) ∧ Hid (c ^^^ oddN f v = tot) ∧ w' = w) (fun _ i _ => (intOf i).toNat)
  case atStart => exact ⟨64, x, 0, Nat.le_refl _, hx, hx, by decide, rfl, rfl, by show _ = _; rw [← HT.out]; simp, rfl⟩
  case round =>
    obtain ⟨f, v, c, hf, hv, hv6, hc, rfl, rfl, HC, rfl⟩ := hrel
    by_cases hz : v = 0
    · subst hz
      have e : c = tot := by rw [← HC.out, oddN_zero]; simp
      subst e
      clear HC HT
      go_wp2
      go_ret
      exact ⟨rfl, 0, rfl⟩
    · have hzI : (v : Int) ≠ 0 := by omega
      obtain ⟨f, rfl⟩ : ∃ g, f = g + 1 := by
        cases f with
        | zero => simp at hv; exact absurd hv hz
        | succ g => exact ⟨g, rfl⟩
      have e1 : bits BinOp.and IntKind.u64 (v : Int) 1 = ((v % 2 : Nat) : Int) := by
        have := and_bits v 1 hv6 (by decide)
        rw [Nat.and_one_is_mod] at this
        exact this
      have e2 : bits BinOp.xor IntKind.u64 (c : Int) ((v : Int) % 2) = ((c ^^^ v % 2 : Nat) : Int) := by
        rw [show (v : Int) % 2 = ((v % 2 : Nat) : Int) by omega]
        exact xor_bits _ _ (by omega) (by omega)
      have HN : Hid ((c ^^^ v % 2) ^^^ oddN f (v / 2) = tot) := by
        show _ = _
        rw [← HC.out, Nat.xor_assoc]; rfl
      have hv2 : v / 2 < 2 ^ f := by rw [Nat.pow_succ] at hv; omega
      have hc2 : c ^^^ v % 2 < 2 := Nat.xor_lt_two_pow (n := 1) hc (by omega)
      clear HC HT
      go_wp2
      go_roundw
      case measure => simp [intOf]; omega
      case rel => exact ⟨f, v / 2, c ^^^ v % 2, by omega, hv2, by omega, hc2, by simp, by simp, HN.out, trivial⟩

end Go.Proofs.Ytlkhmcajedjojaa

namespace Go.Proofs.Ytlkhmcajedjojaa
open Go.RowKit

def fstAt (ps : List (Nat × Nat)) (k : Nat) : Nat := (ps[k]?.map (·.1)).getD 0
def sndAt (ps : List (Nat × Nat)) (k : Nat) : Nat := (ps[k]?.map (·.2)).getD 0
/-- what an operation is worth -/
def opN (kind : Int) (width num : Nat) (ps : List (Nat × Nat)) : Nat :=
  if kind = 1 then num
  else if kind = 5 then fstAt ps 0 / 2 ^ num % 2 ^ width
  else if kind = 6 then fstAt ps 0 % 2 ^ width
  else if kind = 7 then catZ ps
  else if kind = 8 then (18446744073709551615 ^^^ fstAt ps 0) % 2 ^ width
  else if kind = 9 then bitOf (decide (fstAt ps 0 = 2 ^ sndAt ps 0 - 1))
  else if kind = 10 then bitOf (decide (fstAt ps 0 ≠ 0))
  else if kind = 11 then oddN 64 (fstAt ps 0)
  else if kind = 22 then (if fstAt ps 0 ≠ 0 then fstAt ps 1 else fstAt ps 2)
  else bothN kind (fstAt ps 0) (fstAt ps 1) % 2 ^ width
def wsI (ps : List (Nat × Nat)) : List Int := ps.map fun p => (p.2 : Int)
def uC (p : Nat × Nat) : List Value := [.int .u64 (p.1 : Int)]
def wC (p : Nat × Nat) : List Value := [.int .i64 (p.2 : Int)]
/-- an operation that may be -/
structure OpOk (kind : Int) (width num : Nat) (ps : List (Nat × Nat)) : Prop where
  w1 : 1 ≤ width
  w2 : width ≤ 32
  n64 : num < 18446744073709551616
  rng : ∀ p, p ∈ ps → p.1 < 2 ^ p.2 ∧ 1 ≤ p.2 ∧ p.2 ≤ 32
  want : 0 ≤ wantOf kind → (ps.length : Int) = wantOf kind
  len : ps.length < big
  ne : kind = 7 → ps ≠ []
  kinds : kind = 1 ∨ kind = 5 ∨ kind = 6 ∨ kind = 7 ∨ kind = 8 ∨ kind = 9 ∨ kind = 10 ∨ kind = 11 ∨ (12 ≤ kind ∧ kind ≤ 22)
  fit : fitsOf kind width num (wsI ps) = true
theorem OpOk.p {kind : Int} {width num : Nat} {ps : List (Nat × Nat)} (h : OpOk kind width num ps) {k : Nat} (hk : k < ps.length) : ps[k]? = some (fstAt ps k, sndAt ps k) ∧ fstAt ps k < 2 ^ sndAt ps k ∧ 1 ≤ sndAt ps k ∧ sndAt ps k ≤ 32 ∧ fstAt ps k < 4294967296 := by
  have e : ps[k]? = some (fstAt ps k, sndAt ps k) := by simp [fstAt, sndAt, List.getElem?_eq_getElem hk]
  have := h.rng _ (List.mem_of_getElem? e)
  exact ⟨e, this.1, this.2.1, this.2.2, Nat.lt_of_lt_of_le this.1 (Nat.pow_le_pow_right (n := 2) (by decide) this.2.2)⟩
theorem at_ws {ps : List (Nat × Nat)} {k : Nat} (hk : k < ps.length) : at0 (wsI ps) k = (sndAt ps k : Int) := by
  simp [at0, wsI, sndAt, List.getElem?_eq_getElem hk]
theorem sum_ws (ps : List (Nat × Nat)) : (wsI ps).sum = (((ps.map (·.2)).sum : Nat) : Int) := by
  induction ps with
  | nil => rfl
  | cons p r ih => simp only [wsI, List.map_cons, List.sum_cons] at *; rw [ih]; push_cast; rfl
theorem cellsA {B : Nat} {w : World} {a : Option Addr} {ps : List (Nat × Nat)} {f : Nat × Nat → List Value} {g : Nat × Nat → Value} (hf : ∀ p, f p = [g p]) (h : RowAt B w a 1 (ps.map f)) (hne : 0 < ps.length) :
    ∃ b o, a = some ⟨b, o, none⟩ ∧ ∀ (i : Nat) (p : Nat × Nat), ps[i]? = some p → w.cell? ⟨b, o + i, none⟩ = some (g p) := by
  obtain ⟨b, o, ha, -, hc⟩ := h (by intro e; have : ps = [] := List.map_eq_nil_iff.1 e; rw [this] at hne; simp at hne)
  refine ⟨b, o, ha, fun i p hp => ?_⟩
  have := hc i (f p) (by simp [hp]) 0 (g p) (by rw [hf]; rfl)
  simpa using this
theorem fits_two_w {kind : Int} {width num : Nat} {ps : List (Nat × Nat)} (h : OpOk kind width num ps) (hk : 12 ≤ kind ∧ kind ≤ 17) (hl : ps.length = 2) : sndAt ps 0 = width ∧ sndAt ps 1 = width := by
  have hf := h.fit
  unfold fitsOf at hf
  rw [if_neg (by omega), if_neg (by omega), if_neg (by omega), if_neg (by omega), if_pos hk, decide_eq_true_iff, at_ws (by omega), at_ws (by omega)] at hf
  omega

theorem bit_two (b : Bool) : bitOf b < 2 ^ 1 := by cases b <;> decide
theorem shl_zero (x y width : Nat) (hy : width ≤ y) (hw : width ≤ 32) : (x * 2 ^ (min y 64)) % 18446744073709551616 % 2 ^ width = 0 := by
  have h1 : 2 ^ width ∣ 18446744073709551616 := Nat.pow_dvd_pow (m := width) (n := 64) 2 (by omega)
  rw [Nat.mod_mod_of_dvd _ h1]
  exact Nat.mod_eq_zero_of_dvd (Nat.dvd_trans (Nat.pow_dvd_pow 2 (show width ≤ min y 64 by omega)) (Nat.dvd_mul_left _ _))

theorem operate_any (B : Nat) (w : World) (kind : Int) (width num : Nat) (ps : List (Nat × Nat)) (h : OpOk kind width num ps) (aa aw : Option Addr) (ca cw : Nat) (ra : RowAt B w aa 1 (ps.map uC)) (rw' : RowAt B w aw 1 (ps.map wC)) :
    Calls Try.prog 39 #[.int .i64 kind, .int .i64 width, .int .u64 num, .slice aa ps.length ca, .slice aw ps.length cw] w fun e w' => e = .returned (.int .u64 ((opN kind width num ps : Nat) : Int)) ∧ ∃ q, w' = w.drewN q := by
  have fit := h.fit
  have big64 : ∀ {k : Nat}, k < ps.length → fstAt ps k < 18446744073709551616 := fun hk => by have := (h.p hk).2.2.2.2; omega
  have one : wantOf kind = 1 → ∃ b o, aa = some ⟨b, o, none⟩ ∧ ps.length = 1 ∧ w.cell? ⟨b, o, none⟩ = some (.int .u64 (fstAt ps 0 : Int)) := fun hw => by
    have hl := h.want (by omega)
    have hl' : ps.length = 1 := by omega
    obtain ⟨b, o, ha, hc⟩ := cellsA (g := fun p => .int .u64 (p.1 : Int)) (fun _ => rfl) ra (by omega)
    exact ⟨b, o, ha, hl', hc 0 _ (h.p (k := 0) (by omega)).1⟩
  have two : wantOf kind = 2 → ∃ b o, aa = some ⟨b, o, none⟩ ∧ ps.length = 2 ∧ w.cell? ⟨b, o, none⟩ = some (.int .u64 (fstAt ps 0 : Int)) ∧ w.cell? ⟨b, o + 1, none⟩ = some (.int .u64 (fstAt ps 1 : Int)) := fun hw => by
    have hl := h.want (by omega)
    have hl' : ps.length = 2 := by omega
    obtain ⟨b, o, ha, hc⟩ := cellsA (g := fun p => .int .u64 (p.1 : Int)) (fun _ => rfl) ra (by omega)
    exact ⟨b, o, ha, hl', hc 0 _ (h.p (k := 0) (by omega)).1, hc 1 _ (h.p (k := 1) (by omega)).1⟩
  have hw1 := h.w1
  have hw2 := h.w2
  have hp32 : 2 ^ width ≤ 2 ^ 32 := Nat.pow_le_pow_right (by decide) hw2
  rcases h.kinds with rfl | rfl | rfl | rfl | rfl | rfl | rfl | rfl | hk
  · have hn : num ≤ 2 ^ width - 1 := by
      have : fitsOf 1 width num (wsI ps) = decide ((num : Int) ≤ ((2 ^ (width : Int).toNat : Nat) : Int) - 1) := rfl
      rw [this, decide_eq_true_iff, Int.toNat_natCast] at fit
      have := Nat.one_le_two_pow (n := width)
      omega
    have e : opN 1 width num ps = num % 2 ^ width := by
      show num = _
      have := Nat.one_le_two_pow (n := width)
      rw [Nat.mod_eq_of_lt (by omega)]
    rw [e]
    exact op_num w width hw1 hw2 num aa _ ca aw _ cw h.n64
  · obtain ⟨b, o, rfl, hl, c0⟩ := one rfl
    have hn : num ≤ 64 := by
      have : fitsOf 5 width num (wsI ps) = decide ((num : Int) < at0 (wsI ps) 0 ∧ (num : Int) + width ≤ at0 (wsI ps) 0) := rfl
      rw [this, decide_eq_true_iff, at_ws (by omega)] at fit
      have := (h.p (k := 0) (by omega)).2.2.2.1
      omega
    exact op_slice w width hw1 hw2 num b o _ ca aw _ cw _ (big64 (by omega)) (by omega) (by omega) c0
  · obtain ⟨b, o, rfl, hl, c0⟩ := one rfl
    exact op_ext w width hw1 hw2 num b o _ ca aw _ cw _ (big64 (by omega)) (by omega) c0
  · have hne := h.ne rfl
    have hpos : 0 < ps.length := List.length_pos_iff.2 hne
    obtain ⟨b, o, rfl, hc⟩ := cellsA (g := fun p => .int .u64 (p.1 : Int)) (fun _ => rfl) ra hpos
    obtain ⟨b2, o2, rfl, hc2⟩ := cellsA (g := fun p => .int .i64 (p.2 : Int)) (fun _ => rfl) rw' hpos
    have hs : (ps.map (·.2)).sum = width := by
      have : fitsOf 7 width num (wsI ps) = decide ((wsI ps).sum = width) := rfl
      rw [this, decide_eq_true_iff, sum_ws] at fit
      omega
    have e : opN 7 width num ps = catZ ps % 2 ^ width := by
      show catZ ps = _
      have := catZ_lt ps (fun p hp => (h.rng p hp).1)
      rw [hs] at this
      rw [Nat.mod_eq_of_lt this]
    rw [e]
    exact op_cat w width hw1 hw2 num b o ca cw b2 o2 ps h.len (fun p hp => (h.rng p hp).1) (fun p hp => (h.rng p hp).2.2) (by omega) hc hc2
  · obtain ⟨b, o, rfl, hl, c0⟩ := one rfl
    exact op_not w width hw1 hw2 num b o _ ca aw _ cw _ (big64 (by omega)) (by omega) c0
  · obtain ⟨b, o, rfl, hl, c0⟩ := one rfl
    obtain ⟨b2, o2, rfl, hc2⟩ := cellsA (g := fun p => .int .i64 (p.2 : Int)) (fun _ => rfl) rw' (by omega)
    have hp := h.p (k := 0) (by omega)
    exact op_all w width hw1 hw2 num b o _ ca _ cw b2 o2 _ _ hp.2.2.1 hp.2.2.2.1 (by omega) (by omega) c0 (hc2 0 _ hp.1)
  · obtain ⟨b, o, rfl, hl, c0⟩ := one rfl
    exact op_any w width hw1 hw2 num b o _ ca aw _ cw _ (by omega) c0
  · obtain ⟨b, o, rfl, hl, c0⟩ := one rfl
    exact op_odd w width hw1 hw2 num b o _ ca aw _ cw _ (big64 (by omega)) (by omega) c0
  · have hk11 : kind = 12 ∨ kind = 13 ∨ kind = 14 ∨ kind = 15 ∨ kind = 16 ∨ kind = 17 ∨ kind = 18 ∨ kind = 19 ∨ kind = 20 ∨ kind = 21 ∨ kind = 22 := by omega
    rcases hk11 with rfl | rfl | rfl | rfl | rfl | rfl | rfl | rfl | rfl | rfl | rfl
    · obtain ⟨b, o, rfl, hl, c0, c1⟩ := two rfl
      have hs := fits_two_w h (by decide) hl
      have h0 := (h.p (k := 0) (by omega)).2.1
      rw [hs.1] at h0
      have e : opN 12 width num ps = fstAt ps 0 &&& fstAt ps 1 := Nat.mod_eq_of_lt (Nat.lt_of_le_of_lt Nat.and_le_left h0)
      rw [e]
      exact op_and w width hw1 hw2 num b o _ ca aw _ cw _ _ (big64 (by omega)) (big64 (by omega)) (by omega) c0 c1
    · obtain ⟨b, o, rfl, hl, c0, c1⟩ := two rfl
      have hs := fits_two_w h (by decide) hl
      have h0 := (h.p (k := 0) (by omega)).2.1
      have h1 := (h.p (k := 1) (by omega)).2.1
      rw [hs.1] at h0
      rw [hs.2] at h1
      have e : opN 13 width num ps = fstAt ps 0 ||| fstAt ps 1 := Nat.mod_eq_of_lt (Nat.or_lt_two_pow h0 h1)
      rw [e]
      exact op_or w width hw1 hw2 num b o _ ca aw _ cw _ _ (big64 (by omega)) (big64 (by omega)) (by omega) c0 c1
    · obtain ⟨b, o, rfl, hl, c0, c1⟩ := two rfl
      have hs := fits_two_w h (by decide) hl
      have h0 := (h.p (k := 0) (by omega)).2.1
      have h1 := (h.p (k := 1) (by omega)).2.1
      rw [hs.1] at h0
      rw [hs.2] at h1
      have e : opN 14 width num ps = fstAt ps 0 ^^^ fstAt ps 1 := Nat.mod_eq_of_lt (Nat.xor_lt_two_pow h0 h1)
      rw [e]
      exact op_xor w width hw1 hw2 num b o _ ca aw _ cw _ _ (big64 (by omega)) (big64 (by omega)) (by omega) c0 c1
    · obtain ⟨b, o, rfl, hl, c0, c1⟩ := two rfl
      exact op_add w width hw1 hw2 num b o _ ca aw _ cw _ _ (by omega) c0 c1
    · obtain ⟨b, o, rfl, hl, c0, c1⟩ := two rfl
      exact op_sub w width hw1 hw2 num b o _ ca aw _ cw _ _ (big64 (by omega)) (by omega) c0 c1
    · obtain ⟨b, o, rfl, hl, c0, c1⟩ := two rfl
      exact op_mul w width hw1 hw2 num b o _ ca aw _ cw _ _ (by omega) c0 c1
    · obtain ⟨b, o, rfl, hl, c0, c1⟩ := two rfl
      by_cases hy : width ≤ fstAt ps 1
      · have e : opN 18 width num ps = 0 := shl_zero _ _ _ hy hw2
        rw [e]
        exact op_shl1 w width hw1 hw2 num b o _ ca aw _ cw _ _ (by omega) (by omega) c0 c1
      · have e : opN 18 width num ps = (fstAt ps 0 * 2 ^ fstAt ps 1) % 18446744073709551616 % 2 ^ width := by
          show (fstAt ps 0 * 2 ^ (min (fstAt ps 1) 64)) % 18446744073709551616 % 2 ^ width = _
          rw [Nat.min_eq_left (by omega)]
        rw [e]
        exact op_shl0 w width hw1 hw2 num b o _ ca aw _ cw _ _ (by omega) (by omega) c0 c1
    · obtain ⟨b, o, rfl, hl, c0, c1⟩ := two rfl
      have h0 := (h.p (k := 0) (by omega)).2.1
      have hs : sndAt ps 0 = width := by
        have : fitsOf 19 width num (wsI ps) = decide (at0 (wsI ps) 0 = width) := rfl
        rw [this, decide_eq_true_iff, at_ws (by omega)] at fit
        omega
      rw [hs] at h0
      by_cases hy : width ≤ fstAt ps 1
      · have e : opN 19 width num ps = 0 := by
          show fstAt ps 0 / 2 ^ (min (fstAt ps 1) 64) % 2 ^ width = 0
          have : 2 ^ width ≤ 2 ^ (min (fstAt ps 1) 64) := Nat.pow_le_pow_right (by decide) (by omega)
          rw [Nat.div_eq_of_lt (by omega)]; simp
        rw [e]
        exact op_shr1 w width hw1 hw2 num b o _ ca aw _ cw _ _ (by omega) (by omega) c0 c1
      · have e : opN 19 width num ps = fstAt ps 0 / 2 ^ fstAt ps 1 := by
          show fstAt ps 0 / 2 ^ (min (fstAt ps 1) 64) % 2 ^ width = _
          rw [Nat.min_eq_left (by omega)]
          exact Nat.mod_eq_of_lt (Nat.lt_of_le_of_lt (Nat.div_le_self _ _) h0)
        rw [e]
        exact op_shr0 w width hw1 hw2 num b o _ ca aw _ cw _ _ (by omega) (by omega) c0 c1
    · obtain ⟨b, o, rfl, hl, c0, c1⟩ := two rfl
      have hs : width = 1 := by
        have : fitsOf 20 width num (wsI ps) = decide (at0 (wsI ps) 0 = at0 (wsI ps) 1 ∧ (width : Int) = 1) := rfl
        rw [this, decide_eq_true_iff] at fit
        omega
      have e : opN 20 width num ps = bitOf (decide (fstAt ps 0 = fstAt ps 1)) := by
        show bitOf _ % 2 ^ width = _
        rw [hs]; exact Nat.mod_eq_of_lt (bit_two _)
      rw [e]
      exact op_eq w width hw1 hw2 num b o _ ca aw _ cw _ _ (by omega) c0 c1
    · obtain ⟨b, o, rfl, hl, c0, c1⟩ := two rfl
      have hs : width = 1 := by
        have : fitsOf 21 width num (wsI ps) = decide (at0 (wsI ps) 0 = at0 (wsI ps) 1 ∧ (width : Int) = 1) := rfl
        rw [this, decide_eq_true_iff] at fit
        omega
      have e : opN 21 width num ps = bitOf (decide (fstAt ps 0 < fstAt ps 1)) := by
        show bitOf _ % 2 ^ width = _
        rw [hs]; exact Nat.mod_eq_of_lt (bit_two _)
      rw [e]
      exact op_lt w width hw1 hw2 num b o _ ca aw _ cw _ _ (by omega) c0 c1
    · have hl := h.want (by decide)
      have hl' : ps.length = 3 := by have : wantOf 22 = 3 := rfl; omega
      obtain ⟨b, o, rfl, hc⟩ := cellsA (g := fun p => .int .u64 (p.1 : Int)) (fun _ => rfl) ra (by omega)
      have c0 := hc 0 _ (h.p (k := 0) (by omega)).1
      by_cases hz : fstAt ps 0 = 0
      · have e : opN 22 width num ps = fstAt ps 2 := by show (if fstAt ps 0 ≠ 0 then _ else _) = _; rw [if_neg (by simp [hz])]
        rw [e]
        exact op_if0 w width hw1 hw2 num b o _ ca aw _ cw _ _ (by omega) (by omega) c0 (hc 2 _ (h.p (k := 2) (by omega)).1)
      · have e : opN 22 width num ps = fstAt ps 1 := by show (if fstAt ps 0 ≠ 0 then _ else _) = _; rw [if_pos hz]
        rw [e]
        exact op_if1 w width hw1 hw2 num b o _ ca aw _ cw _ _ (by omega) (by omega) c0 (hc 1 _ (h.p (k := 1) (by omega)).1)

end Go.Proofs.Ytlkhmcajedjojaa

namespace Go.Proofs.Ytlkhmcajedjojaa
open Go.RowKit

theorem worth_any (w : World) (kind : Int) (width num : Nat) (ps : List (Nat × Nat)) (h : OpOk kind width num ps) (nb no : Nat) (aa : Option Addr) (ac vb vo nv cv mb mo ln cn : Nat)
    (k0 : w.cell? ⟨nb, no, none⟩ = some (.int .i64 kind)) (k1 : w.cell? ⟨nb, no + 1, none⟩ = some (.int .i64 (width : Int))) (k2 : w.cell? ⟨nb, no + 2, none⟩ = some (.int .u64 (num : Int))) (k3 : w.cell? ⟨nb, no + 3, none⟩ = some (.slice aa ps.length ac))
    (HA : ps ≠ [] → ∃ ab ao, aa = some ⟨ab, ao, none⟩ ∧ ∀ (k : Nat) (p : Nat × Nat), ps[k]? = some p → ∃ i : Nat, w.cell? ⟨ab, ao + k, none⟩ = some (.int .i64 (i : Int)) ∧ (i : Int) < (nv : Int) ∧ (i : Int) < (ln : Int) ∧ w.cell? ⟨vb, vo + i, none⟩ = some (.int .u64 (p.1 : Int)) ∧ w.cell? ⟨mb, mo + i * 4 + 1, none⟩ = some (.int .i64 (p.2 : Int))) :
    Calls Try.prog 38 #[.pointer (some ⟨nb, no, none⟩), .slice (some ⟨mb, mo, none⟩) ln cn, .slice (some ⟨vb, vo, none⟩) nv cv] w fun e w' => e = .returned (.int .u64 ((opN kind width num ps : Nat) : Int)) ∧ ∃ q, w' = w.drewN q := by
  have fit := h.fit
  have big64 : ∀ {k : Nat}, k < ps.length → fstAt ps k < 18446744073709551616 := fun hk => by have := (h.p hk).2.2.2.2; omega
  have args : 0 < ps.length → ∃ ab ao, aa = some ⟨ab, ao, none⟩ ∧ ∀ (k : Nat), k < ps.length → ∃ i : Nat, w.cell? ⟨ab, ao + k, none⟩ = some (.int .i64 (i : Int)) ∧ (i : Int) < (nv : Int) ∧ (i : Int) < (ln : Int) ∧ w.cell? ⟨vb, vo + i, none⟩ = some (.int .u64 (fstAt ps k : Int)) ∧ w.cell? ⟨mb, mo + i * 4 + 1, none⟩ = some (.int .i64 (sndAt ps k : Int)) := fun hp => by
    obtain ⟨ab, ao, ha, hc⟩ := HA (List.length_pos_iff.1 hp)
    exact ⟨ab, ao, ha, fun k hk => hc k _ (h.p hk).1⟩
  have hw1 := h.w1
  have hw2 := h.w2
  have wantL : ∀ n : Int, wantOf kind = n → 0 ≤ n → (ps.length : Int) = n := fun n e h0 => by rw [← e]; exact h.want (by omega)
  rcases h.kinds with rfl | rfl | rfl | rfl | rfl | rfl | rfl | rfl | hk
  · exact wo_num w nb no num k0 k2 _ _
  · have hl := wantL 1 rfl (by decide)
    obtain ⟨ab, ao, rfl, hc⟩ := args (by omega)
    obtain ⟨i, ci, hi, -, cv0, -⟩ := hc 0 (by omega)
    have hn : num ≤ 64 := by
      have : fitsOf 5 width num (wsI ps) = decide ((num : Int) < at0 (wsI ps) 0 ∧ (num : Int) + width ≤ at0 (wsI ps) 0) := rfl
      rw [this, decide_eq_true_iff, at_ws (by omega)] at fit
      have := (h.p (k := 0) (by omega)).2.2.2.1
      omega
    exact wo_slice w nb no ab ao _ ac vb vo nv cv _ ln cn width num hw1 hw2 (by omega) k0 k1 k2 k3 i _ (big64 (by omega)) hi (by omega) ci cv0
  · have hl := wantL 1 rfl (by decide)
    obtain ⟨ab, ao, rfl, hc⟩ := args (by omega)
    obtain ⟨i, ci, hi, -, cv0, -⟩ := hc 0 (by omega)
    exact wo_ext w nb no ab ao _ ac vb vo nv cv _ ln cn width num hw1 hw2 k0 k1 k2 k3 i _ (big64 (by omega)) hi (by omega) ci cv0
  · have hne := h.ne rfl
    obtain ⟨ab, ao, rfl, hc⟩ := HA hne
    have hs : (ps.map (·.2)).sum = width := by
      have : fitsOf 7 width num (wsI ps) = decide ((wsI ps).sum = width) := rfl
      rw [this, decide_eq_true_iff, sum_ws] at fit
      omega
    exact wo_cat w nb no k0 _ _ _ (joined_any w nb no ab ao ac vb vo nv cv mb mo ln cn ps h.len (fun p hp => (h.rng p hp).1) (fun p hp => (h.rng p hp).2.2) (by omega) k3 hc)
  · have hl := wantL 1 rfl (by decide)
    obtain ⟨ab, ao, rfl, hc⟩ := args (by omega)
    obtain ⟨i, ci, hi, -, cv0, -⟩ := hc 0 (by omega)
    exact wo_not w nb no ab ao _ ac vb vo nv cv _ ln cn width num hw1 hw2 k0 k1 k2 k3 i _ (big64 (by omega)) hi (by omega) ci cv0
  · have hl := wantL 1 rfl (by decide)
    obtain ⟨ab, ao, rfl, hc⟩ := args (by omega)
    obtain ⟨i, ci, hi, hi2, cv0, cm0⟩ := hc 0 (by omega)
    have hp := h.p (k := 0) (by omega)
    exact wo_all w nb no ab ao _ ac vb vo nv cv ln cn width num mb mo _ hp.2.2.1 hp.2.2.2.1 k0 k1 k2 k3 i _ hi (by omega) ci cv0 hi2 cm0
  · have hl := wantL 1 rfl (by decide)
    obtain ⟨ab, ao, rfl, hc⟩ := args (by omega)
    obtain ⟨i, ci, hi, -, cv0, -⟩ := hc 0 (by omega)
    exact wo_any w nb no ab ao _ ac vb vo nv cv _ ln cn width num k0 k1 k2 k3 i _ hi (by omega) ci cv0
  · have hl := wantL 1 rfl (by decide)
    obtain ⟨ab, ao, rfl, hc⟩ := args (by omega)
    obtain ⟨i, ci, hi, -, cv0, -⟩ := hc 0 (by omega)
    exact wo_odd w nb no ab ao _ ac vb vo nv cv _ ln cn width num k0 k1 k2 k3 i _ (big64 (by omega)) hi (by omega) ci cv0
  · by_cases h22 : kind = 22
    · subst h22
      have hl := wantL 3 rfl (by decide)
      obtain ⟨ab, ao, rfl, hc⟩ := args (by omega)
      obtain ⟨i, ci, hi, -, cv0, -⟩ := hc 0 (by omega)
      by_cases hz : fstAt ps 0 = 0
      · have e : opN 22 width num ps = fstAt ps 2 := by show (if fstAt ps 0 ≠ 0 then _ else _) = _; rw [if_neg (by simp [hz])]
        rw [e]
        obtain ⟨l, cl, hl2, -, cv2, -⟩ := hc 2 (by omega)
        exact wo_if0 w nb no ab ao _ ac vb vo nv cv _ ln cn width num k0 k1 k2 k3 i _ hi (by omega) ci cv0 l _ hl2 (by omega) cl cv2 hz
      · have e : opN 22 width num ps = fstAt ps 1 := by show (if fstAt ps 0 ≠ 0 then _ else _) = _; rw [if_pos hz]
        rw [e]
        obtain ⟨j, cj, hj, -, cv1, -⟩ := hc 1 (by omega)
        exact wo_if1 w nb no ab ao _ ac vb vo nv cv _ ln cn width num k0 k1 k2 k3 i _ hi (by omega) ci cv0 j _ hj (by omega) cj cv1 (by omega)
    · have hk10 : kind = 12 ∨ kind = 13 ∨ kind = 14 ∨ kind = 15 ∨ kind = 16 ∨ kind = 17 ∨ kind = 18 ∨ kind = 19 ∨ kind = 20 ∨ kind = 21 := by omega
      have hl := wantL 2 (by rcases hk10 with k | k | k | k | k | k | k | k | k | k <;> rw [k] <;> rfl) (by decide)
      obtain ⟨ab, ao, rfl, hc⟩ := args (by omega)
      obtain ⟨i, ci, hi, -, cv0, -⟩ := hc 0 (by omega)
      obtain ⟨j, cj, hj, -, cv1, -⟩ := hc 1 (by omega)
      have e : opN kind width num ps = bothN kind (fstAt ps 0) (fstAt ps 1) % 2 ^ width := by
        unfold opN
        rw [if_neg (by omega), if_neg (by omega), if_neg (by omega), if_neg (by omega), if_neg (by omega), if_neg (by omega), if_neg (by omega), if_neg (by omega), if_neg (by omega)]
      rw [e]
      exact wo_both w nb no ab ao _ ac vb vo nv cv _ ln cn width num hw1 hw2 kind k0 k1 k2 k3 i _ (big64 (by omega)) hi (by omega) ci cv0 j _ (big64 (by omega)) hj (by omega) cj cv1 hk10

/-- what an operation is worth fits -/
theorem opN_lt (kind : Int) (width num : Nat) (ps : List (Nat × Nat)) (h : OpOk kind width num ps) : opN kind width num ps < 2 ^ width := by
  have fit := h.fit
  have pos := Nat.two_pow_pos width
  have wantL : ∀ n : Int, wantOf kind = n → 0 ≤ n → (ps.length : Int) = n := fun n e h0 => by rw [← e]; exact h.want (by omega)
  have bit1 : ∀ b, bitOf b < 2 ^ width := fun b => Nat.lt_of_lt_of_le (bit_two b) (Nat.pow_le_pow_right (by decide) h.w1)
  rcases h.kinds with rfl | rfl | rfl | rfl | rfl | rfl | rfl | rfl | hk
  · show num < _
    have : fitsOf 1 width num (wsI ps) = decide ((num : Int) ≤ ((2 ^ (width : Int).toNat : Nat) : Int) - 1) := rfl
    rw [this, decide_eq_true_iff, Int.toNat_natCast] at fit
    omega
  · exact Nat.mod_lt _ pos
  · exact Nat.mod_lt _ pos
  · show catZ ps < _
    have hs : (ps.map (·.2)).sum = width := by
      have : fitsOf 7 width num (wsI ps) = decide ((wsI ps).sum = width) := rfl
      rw [this, decide_eq_true_iff, sum_ws] at fit
      omega
    rw [← hs]; exact catZ_lt ps (fun p hp => (h.rng p hp).1)
  · exact Nat.mod_lt _ pos
  · exact bit1 _
  · exact bit1 _
  · exact Nat.lt_of_lt_of_le (oddN_lt 64 _) (Nat.pow_le_pow_right (n := 2) (by decide) h.w1)
  · by_cases h22 : kind = 22
    · subst h22
      have hl := wantL 3 rfl (by decide)
      have : fitsOf 22 width num (wsI ps) = decide (at0 (wsI ps) 0 = 1 ∧ at0 (wsI ps) 1 = width ∧ at0 (wsI ps) 2 = width) := rfl
      rw [this, decide_eq_true_iff, at_ws (by omega), at_ws (by omega), at_ws (by omega)] at fit
      have h1 := (h.p (k := 1) (by omega)).2.1
      have h2 := (h.p (k := 2) (by omega)).2.1
      rw [show sndAt ps 1 = width by omega] at h1
      rw [show sndAt ps 2 = width by omega] at h2
      show (if fstAt ps 0 ≠ 0 then fstAt ps 1 else fstAt ps 2) < _
      split
      · exact h1
      · exact h2
    · have e : opN kind width num ps = bothN kind (fstAt ps 0) (fstAt ps 1) % 2 ^ width := by
        unfold opN
        rw [if_neg (by omega), if_neg (by omega), if_neg (by omega), if_neg (by omega), if_neg (by omega), if_neg (by omega), if_neg (by omega), if_neg (by omega), if_neg (by omega)]
      rw [e]; exact Nat.mod_lt _ pos

end Go.Proofs.Ytlkhmcajedjojaa
