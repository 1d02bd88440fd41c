import Derived.Test.YtlaljeobdddegaaLrB
namespace Go.Proofs.Ytlaljeobdddegaa.L
open Go.RowKit

/-- what a signal is worth -/
def sV (v : List Bool) (s : Int) : Bool := v[s.toNat]?.getD false
/-- what bits spell, the first one the lowest -/
def spell : List Bool → Nat
  | [] => 0
  | b :: r => (if b then 1 else 0) + 2 * spell r
theorem spell_snoc (l : List Bool) (b : Bool) : spell (l ++ [b]) = spell l + (if b then 2 ^ l.length else 0) := by
  induction l with
  | nil => cases b <;> rfl
  | cons a r ih =>
    rw [List.cons_append, spell, spell, ih, List.length_cons, Nat.pow_succ]
    cases a <;> cases b <;> simp <;> omega
theorem spell_lt (l : List Bool) : spell l < 2 ^ l.length := by
  induction l with
  | nil => decide
  | cons a r ih =>
    rw [spell, List.length_cons, Nat.pow_succ]
    cases a <;> simp <;> omega
def bitAt (bits : Int) (k : Nat) : Bool := decide (bits / 2 ^ k % 2 = 1)
def tabV (d : TbD) (v : List Bool) : Bool := bitAt d.bits (spell (d.ins.map (sV v)))
theorem pow_small (i : Nat) (h : i < 4) : (2 : Int) ^ i = 1 ∨ (2 : Int) ^ i = 2 ∨ (2 : Int) ^ i = 4 ∨ (2 : Int) ^ i = 8 := by
  rcases (show i = 0 ∨ i = 1 ∨ i = 2 ∨ i = 3 by omega) with rfl | rfl | rfl | rfl <;> decide
theorem wrap64_of (x : Int) (h0 : -9223372036854775808 ≤ x) (h1 : x < 9223372036854775808) : wrap64 x = x := by
  unfold wrap64; omega

set_option maxRecDepth 100000 in
set_option maxHeartbeats 8000000 in
theorem told_doc (w : World) (a : Option Addr) (c : Nat) (l : List Bool) (R : RowAt w.heap.size w a 1 (l.map boolC)) (hl : l.length ≤ 4) (bits : Int) (h0 : 0 ≤ bits) :
    Calls Try.prog 23 #[.int .i64 bits, .slice a l.length c] w fun e w' => e = .returned (.bool (bitAt bits (spell l))) ∧ w' = w := by
  have HR := hidden R
  clear R
  obtain ⟨m, HM⟩ : ∃ m, Hid (m = l.length) := ⟨_, rfl⟩
  obtain ⟨r, HRR⟩ : ∃ r, Hid (bitAt bits (spell l) = r) := ⟨_, rfl⟩
  rw [HRR.out]
  rw [← HM.out] at hl
  rw [← HM.out]
  go_enter Try.func23, Try.ntmps23
  go_wp2_with fail
  go_loopw [5, 6] (fun s' i' w' => ∃ (k sp : Nat), k ≤ m ∧ i' = .int .i64 k ∧ s' = .int .i64 sp ∧ Hid (sp = spell (l.take k)) ∧ Hid (w' = w)) (fun _ i' _ => m - (intOf i').toNat)
  case atStart => exact ⟨0, 0, Nat.zero_le _, rfl, rfl, rfl, rfl⟩
  case round =>
    obtain ⟨k, sp, hk, rfl, rfl, HSP, HW⟩ := hrel
    have hsp : sp < 16 := by
      rw [HSP.out]
      have := spell_lt (l.take k)
      have h2 : (l.take k).length ≤ 4 := by rw [List.length_take]; have := HM.out; omega
      have := Nat.pow_le_pow_right (show 0 < 2 by decide) h2
      omega
    by_cases hlt : k < m
    · have hltI : (k : Int) < (m : Int) := by omega
      obtain ⟨x, hd⟩ := getElem_lt (show k < l.length by rw [← HM.out]; exact hlt)
      obtain ⟨b, o, ea, hlb, hc⟩ := rowB HR.out hd
      have c0 : wr.cell? ⟨b, o + k, none⟩ = some (.bool x) := by rw [HW.out]; exact hc
      have e2 : IntKind.i64.wrap ((k : Int) + 1) = (k : Int) + 1 := wrapI _ (by omega) (by omega)
      have HNX : Hid (spell (l.take (k + 1)) = sp + (if x then 2 ^ k else 0)) := by
        show _ = _
        rw [take_next _ k _ hd, spell_snoc, ← HSP.out, List.length_take]
        congr 2
        rw [Nat.min_eq_left (by have := HM.out; omega)]
      rw [ea]
      clear hd hc hlb ea HSP
      cases x
      · go_wp2
        go_roundw
        case measure => simp [intOf]; omega
        case rel => exact ⟨k + 1, sp, by omega, by simp, rfl, HNX.out.symm, HW.out⟩
      · have eu : IntKind.u64.wrap (k : Int) = (k : Int) := by rw [IntKind.wrap_u64]; omega
        obtain ⟨P, HP⟩ : ∃ P : Nat, Hid (P = 2 ^ k) := ⟨_, rfl⟩
        have hP : P ≤ 8 := by
          rw [HP.out]
          have := Nat.pow_le_pow_right (show 0 < 2 by decide) (show k ≤ 3 by omega)
          omega
        have hPI : (2 : Int) ^ k = (P : Int) := by rw [HP.out]; simp
        have eP : wrap64 (2 ^ min (k : Int).toNat 64) = (P : Int) := by
          rw [show min (k : Int).toNat 64 = k by omega, hPI]
          exact wrap64_of _ (by omega) (by omega)
        have eP2 : wrap64 (2 ^ k) = (P : Int) := by
          rw [hPI]
          exact wrap64_of _ (by omega) (by omega)
        have eS : IntKind.i64.wrap ((sp : Int) + (P : Int)) = (sp : Int) + (P : Int) := wrapI _ (by omega) (by omega)
        go_wp2
        go_roundw
        case measure => simp [intOf]; omega
        case rel => exact ⟨k + 1, sp + P, by omega, by simp, by simp, by show _ = _; rw [HNX.out, HP.out]; rfl, HW.out⟩
    · have hge : ¬ ((k : Int) < (m : Int)) := by omega
      have HF : Hid (r = decide (bits / 2 ^ sp % 2 = 1)) := by
        have := HSP.out
        rw [List.take_of_length_le (by have := HM.out; omega)] at this
        rw [← HRR.out, ← this]
        exact rfl
      have eu : IntKind.u64.wrap (sp : Int) = (sp : Int) := by rw [IntKind.wrap_u64]; omega
      clear HSP
      have hq : 0 ≤ bits / 2 ^ sp := Int.ediv_nonneg h0 (Int.le_of_lt (Int.pow_pos (by decide)))
      have HQ : Hid (((bits / 2 ^ sp).tmod 2 == 1) = r) := by
        show _ = _
        rw [HF.out, Int.tmod_eq_emod_of_nonneg hq, Bool.eq_iff_iff]
        simp
      clear HF hq
      go_wp2
      go_ret
      exact ⟨ret_bool HQ.out, HW.out⟩

def mostI (a b : Int) : Int := if b > a then b else a
set_option maxRecDepth 100000 in
set_option maxHeartbeats 8000000 in
theorem most_doc (w : World) (a b : Int) :
    Calls Try.prog 25 #[.int .i64 a, .int .i64 b] w fun e w' => e = .returned (.int .i64 (mostI a b)) ∧ w' = w := by
  unfold mostI
  by_cases h : b > a
  · rw [if_pos h]
    go_enter Try.func25, Try.ntmps25
    go_wp2
    go_ret
    exact ⟨rfl, rfl⟩
  · rw [if_neg h]
    go_enter Try.func25, Try.ntmps25
    go_wp2
    go_ret
    exact ⟨rfl, rfl⟩

end Go.Proofs.Ytlaljeobdddegaa.L
