import Derived.Test.YtjbnejjjbdalaaaDoorFaD
namespace Go.Proofs.YtjbnejjjbdalaaaDoor
open Go.RowKit

/-- with how many bits so many numbers can be told -/
def wid (n : Nat) : Nat := if n ≤ 1 then 0 else (n - 1).log2 + 1
theorem wid_le (n k : Nat) : wid n ≤ k ↔ n ≤ 2 ^ k := by
  unfold wid
  have hp : 1 ≤ 2 ^ k := Nat.one_le_two_pow
  by_cases h : n ≤ 1
  · rw [if_pos h]
    omega
  · rw [if_neg h]
    have := Nat.log2_lt (n := n - 1) (k := k) (by omega)
    omega
theorem wid_eq (n k : Nat) (h1 : n ≤ 2 ^ k) (h2 : ∀ j, j < k → 2 ^ j < n) : wid n = k := by
  have a := (wid_le n k).2 h1
  by_cases e : wid n < k
  · have b := h2 _ e
    have c := (wid_le n (wid n)).1 (Nat.le_refl _)
    omega
  · omega
theorem wid_lt (n : Nat) (h : n ≤ 65536) : wid n ≤ 16 := (wid_le n 16).2 (by omega)
theorem shl1 (k : Nat) (h : k ≤ 17) : wrap64 ((2 : Int) ^ k) = ((2 ^ k : Nat) : Int) := by
  have h1 : 2 ^ k ≤ 131072 := Nat.pow_le_pow_right (n := 2) (by decide) h
  have e : (2 : Int) ^ k = ((2 ^ k : Nat) : Int) := by simp
  rw [e]
  clear e
  revert h1
  generalize 2 ^ k = p
  intro h1
  unfold wrap64
  omega

set_option maxRecDepth 100000 in
set_option maxHeartbeats 8000000 in
theorem bits_doc (w : World) (n : Nat) (hn : n ≤ 65536) :
    Calls Tryd.prog 13 #[.int .i64 (n : Int)] w fun e w' => e = .returned (.int .i64 ((wid n : Nat) : Int)) ∧ w' = w := by
  go_enter Tryd.func13, Tryd.ntmps13
  go_wp2_with fail
  go_loopw [3] (fun k' w' => ∃ (k : Nat), k ≤ 16 ∧ k' = .int .i64 k ∧ Hid (∀ j, j < k → 2 ^ j < n) ∧ Hid (w' = w)) (fun k' _ => 17 - (intOf k').toNat)
  case atStart => exact ⟨0, by omega, rfl, fun j hj => by omega, rfl⟩
  case round =>
    obtain ⟨k, hk, rfl, HK, HW⟩ := hrel
    have e2 : IntKind.i64.wrap ((k : Int) + 1) = (k : Int) + 1 := wrapI _ (by omega) (by omega)
    by_cases hc : 2 ^ k < n
    · have s1 : wrap64 ((2 : Int) ^ k) < (n : Int) := by rw [shl1 k (by omega)]; omega
      have HK1 : Hid (k + 1 ≤ 16 ∧ ∀ j, j < k + 1 → 2 ^ j < n) := ⟨by
        by_cases e : k = 16
        · subst e; omega
        · omega, fun j hj => by
        by_cases e : j = k
        · subst e; exact hc
        · exact HK.out j (by omega)⟩
      clear hc
      go_wp2
      go_roundw
      case measure => simp [intOf]; omega
      case rel => exact ⟨k + 1, HK1.out.1, by simp, HK1.out.2, HW.out⟩
    · have s1 : (n : Int) ≤ wrap64 ((2 : Int) ^ k) := by rw [shl1 k (by omega)]; omega
      have HE := hidden (wid_eq n k (by omega) HK.out)
      clear hc
      go_wp2
      go_ret
      exact ⟨ret_int (by rw [HE.out]), HW.out⟩

set_option maxRecDepth 100000 in
set_option maxHeartbeats 8000000 in
theorem width_any (w : World) (n : Nat) (hn : n ≤ 65536) :
    Calls Tryd.prog 46 #[.int .i64 (n : Int)] w fun e w' => e = .returned (.int .i64 ((wid n : Nat) : Int)) ∧ w' = w := by
  go_enter Tryd.func46, Tryd.ntmps46
  go_wp2_with fail
  go_loopw [3] (fun k' w' => ∃ (k : Nat), k ≤ 16 ∧ k' = .int .i64 k ∧ Hid (∀ j, j < k → 2 ^ j < n) ∧ Hid (w' = w)) (fun k' _ => 17 - (intOf k').toNat)
  case atStart => exact ⟨0, by omega, rfl, fun j hj => by omega, rfl⟩
  case round =>
    obtain ⟨k, hk, rfl, HK, HW⟩ := hrel
    have e2 : IntKind.i64.wrap ((k : Int) + 1) = (k : Int) + 1 := wrapI _ (by omega) (by omega)
    by_cases hc : 2 ^ k < n
    · have s1 : wrap64 ((2 : Int) ^ k) < (n : Int) := by rw [shl1 k (by omega)]; omega
      have HK1 : Hid (k + 1 ≤ 16 ∧ ∀ j, j < k + 1 → 2 ^ j < n) := ⟨by
        by_cases e : k = 16
        · subst e; omega
        · omega, fun j hj => by
        by_cases e : j = k
        · subst e; exact hc
        · exact HK.out j (by omega)⟩
      clear hc
      go_wp2
      go_roundw
      case measure => simp [intOf]; omega
      case rel => exact ⟨k + 1, HK1.out.1, by simp, HK1.out.2, HW.out⟩
    · have s1 : (n : Int) ≤ wrap64 ((2 : Int) ^ k) := by rw [shl1 k (by omega)]; omega
      have HE := hidden (wid_eq n k (by omega) HK.out)
      clear hc
      go_wp2
      go_ret
      exact ⟨ret_int (by rw [HE.out]), HW.out⟩

end Go.Proofs.YtjbnejjjbdalaaaDoor
