import Derived.Test.YtimmmlnememjiaaGreatDoorX
import Derived.Test.YtimmmlnememjiaaGreatDoorRows
import Derived.WalkKit
import Derived.WalkSpells
import Derived.WalkLawsBesides
set_option maxRecDepth 100000
set_option maxHeartbeats 16000000
namespace Go.Proofs.YtimmmlnememjiaaGreatDoor
open Go.RowKit
theorem ret_bool {a b : Bool} (h : a = b) : Ending.returned (.bool a) = .returned (.bool b) := by rw [h]
theorem ret_int {k : IntKind} {a b : Int} (h : a = b) : Ending.returned (.int k a) = .returned (.int k b) := by rw [h]
def isDig (c : UInt8) : Bool := decide (48 ≤ c.toNat ∧ c.toNat ≤ 57)
def isLet (c : UInt8) : Bool := decide ((97 ≤ c.toNat ∧ c.toNat ≤ 122) ∨ (65 ≤ c.toNat ∧ c.toNat ≤ 90) ∨ c.toNat = 95)
def valOf (c : UInt8) : Int :=
 if 48 ≤ c.toNat ∧ c.toNat ≤ 57 then (c.toNat : Int) - 48
 else if 97 ≤ c.toNat ∧ c.toNat ≤ 102 then (c.toNat : Int) - 97 + 10
 else if 65 ≤ c.toNat ∧ c.toNat ≤ 70 then (c.toNat : Int) - 65 + 10
 else 99
theorem valOf_le (c : UInt8) : 0 ≤ valOf c ∧ valOf c ≤ 99 := by
 unfold valOf; split
 ·omega
 ·split
  ·omega
  ·split <;> omega
theorem digit_any (c : UInt8) (w : World) :
  Calls Tryz.prog 33 #[.int .u8 (c.toNat : Int)] w fun e w' => e = .returned (.bool (isDig c)) ∧ w' = w := by
 have e : isDig c = decide (48 ≤ c.toNat ∧ c.toNat ≤ 57) := rfl
 by_cases h1 : (48 : Int) ≤ (c.toNat : Int)
 ·by_cases h2 : (c.toNat : Int) ≤ 57
  ·have hd : isDig c = true := by rw [e]; simp; omega
   rw [hd]; clear hd e
   go_enter Tryz.func33, Tryz.ntmps33
   go_wp2
   go_ret
   exact ⟨rfl, rfl⟩
  ·have hd : isDig c = false := by rw [e]; simp; omega
   rw [hd]; clear hd e
   go_enter Tryz.func33, Tryz.ntmps33
   go_wp2
   go_ret
   exact ⟨rfl, rfl⟩
 ·have hd : isDig c = false := by rw [e]; simp; omega
  rw [hd]; clear hd e
  go_enter Tryz.func33, Tryz.ntmps33
  go_wp2
  go_ret
  exact ⟨rfl, rfl⟩
theorem let_cases (c : UInt8) :
  (isLet c = true ∧ (97 : Int) ≤ c.toNat ∧ (c.toNat : Int) ≤ 122) ∨
  (isLet c = true ∧ (65 : Int) ≤ c.toNat ∧ (c.toNat : Int) ≤ 90) ∨
  (isLet c = true ∧ (c.toNat : Int) = 95) ∨
  (isLet c = false ∧ (c.toNat : Int) < 65) ∨
  (isLet c = false ∧ (90 : Int) < c.toNat ∧ (c.toNat : Int) < 95) ∨
  (isLet c = false ∧ (95 : Int) < c.toNat ∧ (c.toNat : Int) < 97) ∨
  (isLet c = false ∧ (122 : Int) < c.toNat) := by
 unfold isLet
 simp only [decide_eq_true_eq, decide_eq_false_iff_not]
 omega
theorem letter_any (c : UInt8) (w : World) :
  Calls Tryz.prog 35 #[.int .u8 (c.toNat : Int)] w fun e w' => e = .returned (.bool (isLet c)) ∧ w' = w := by
 rcases let_cases c with ⟨hd, h1, h2⟩ | ⟨hd, h1, h2⟩ | ⟨hd, h1⟩ | ⟨hd, h1⟩ | ⟨hd, h1, h2⟩ | ⟨hd, h1, h2⟩ | ⟨hd, h1⟩
 case inr.inr.inl =>
  rw [hd, h1]; clear hd h1
  go_enter Tryz.func35, Tryz.ntmps35
  go_wp2
  go_ret
  exact ⟨rfl, rfl⟩
 all_goals
  rw [hd]; clear hd
  go_enter Tryz.func35, Tryz.ntmps35
  go_wp2
  go_ret
  first | exact ⟨rfl, rfl⟩ | exact ⟨ret_bool (by simp; omega), rfl⟩
theorem val_cases (c : UInt8) :
  (valOf c = (c.toNat : Int) - 48 ∧ isDig c = true ∧ (48 : Int) ≤ c.toNat ∧ (c.toNat : Int) ≤ 57) ∨
  (valOf c = (c.toNat : Int) - 97 + 10 ∧ isDig c = false ∧ (97 : Int) ≤ c.toNat ∧ (c.toNat : Int) ≤ 102) ∨
  (valOf c = (c.toNat : Int) - 65 + 10 ∧ isDig c = false ∧ (65 : Int) ≤ c.toNat ∧ (c.toNat : Int) ≤ 70) ∨
  (valOf c = 99 ∧ isDig c = false ∧ (c.toNat : Int) < 65) ∨
  (valOf c = 99 ∧ isDig c = false ∧ (70 : Int) < c.toNat ∧ (c.toNat : Int) < 97) ∨
  (valOf c = 99 ∧ isDig c = false ∧ (102 : Int) < c.toNat) := by
 unfold valOf isDig
 simp only [decide_eq_true_eq, decide_eq_false_iff_not]
 split
 ·omega
 ·split
  ·omega
  ·split <;> omega
theorem value_any (c : UInt8) (w : World) :
  Calls Tryz.prog 73 #[.int .u8 (c.toNat : Int)] w fun e w' => e = .returned (.int .u64 (valOf c)) ∧ w' = w := by
 rcases val_cases c with ⟨hv, hd, h1, h2⟩ | ⟨hv, hd, h1, h2⟩ | ⟨hv, hd, h1, h2⟩ | ⟨hv, hd, h1⟩ | ⟨hv, hd, h1, h2⟩ | ⟨hv, hd, h1⟩
 all_goals
  have dg : ∀ w, Calls Tryz.prog 33 #[.int .u8 (c.toNat : Int)] w fun e w' => e = .returned (.bool (isDig c)) ∧ w' = w := fun w => digit_any c w
  rw [hd] at dg
  have DG : Hid (∀ w, Calls Tryz.prog 33 #[.int .u8 (c.toNat : Int)] w fun e w' => e = .returned (.bool _) ∧ w' = w) := dg
  rw [hv]; clear hv hd dg
  go_enter Tryz.func73, Tryz.ntmps73
  go_wp2_with (go_at_call 33; refine (DG.out _).mono ?_; rintro e w' ⟨rfl, rfl⟩)
  go_ret
  first | exact ⟨rfl, rfl⟩ | exact ⟨ret_int (by omega), rfl⟩
def RetB (e : Ending) : Prop := ∃ r : Bool, e = .returned (.bool r)
theorem among_any (t : ByteArray) (b n : Nat) (hn : n ≤ 100) (w : World) (hc : ∀ k : Nat, k < n → ∃ s, w.cell? ⟨b, k, none⟩ = some (.string s)) :
  Calls Tryz.prog 37 #[.string t, .slice (some ⟨b, 0, none⟩) n n] w fun e w' => RetB e ∧ w' = w := by
 go_enter Tryz.func37, Tryz.ntmps37
 go_wp2
 go_loop [5] (fun i => ∃ k : Nat, k ≤ n ∧ i = .int .i64 k) (fun i => n - (intOf i).toNat)
 case atStart => exact ⟨0, Nat.zero_le _, rfl⟩
 case round =>
  obtain ⟨k, hk, rfl⟩ := hrel
  by_cases hlt : k < n
  ·obtain ⟨s, hs⟩ := hc k hlt
   clear hc
   cases he : (s.toList == t.toList)
   case true =>
    go_wp2
    go_ret
    exact ⟨⟨_, rfl⟩, rfl⟩
   case false =>
    go_wp2
    exact ⟨⟨k + 1, by omega, by go_num⟩, by simp [intOf]; omega⟩
  ·go_wp2
   go_ret
   exact ⟨⟨_, rfl⟩, rfl⟩
def isStr : Value → Bool
 | .string _ => true
 | _ => false
theorem isStr_some {v : Value} (h : isStr v = true) : ∃ s, v = .string s := by
 cases v <;> simp [isStr] at h; exact ⟨_, rfl⟩
theorem strs_cells (w : World) (cs : Array Value) (t : TypeId) (h : cs.all isStr = true) :
  ∀ k : Nat, k < cs.size → ∃ s, (w.alloc (.cells cs t)).cell? ⟨w.heap.size, k, none⟩ = some (.string s) := by
 intro k hk
 rw [World.cell?_alloc_new, Array.getElem?_eq_getElem hk]
 obtain ⟨s, hs⟩ := isStr_some (Array.all_eq_true.1 h k hk)
 exact ⟨s, by rw [hs]⟩
theorem word_any (t : ByteArray) (w : World) :
  Calls Tryz.prog 36 #[.string t] w fun e w' => RetB e ∧ Below w.heap.size w w' := by
 go_enter Tryz.func36, Tryz.ntmps36
 go_wp2_with fail
 refine (among_any t _ 18 (by decide) _ ?_).mono ?_
 ·exact fun k hk => strs_cells _ _ _ (by decide +kernel) k hk
 ·rintro e w' ⟨⟨r, rfl⟩, rfl⟩
  go_wp2_with fail
  go_ret
  exact ⟨⟨_, rfl⟩, (Below.refl _ _).alloc (Nat.le_refl _) _⟩
def SkipPost (s : ByteArray) (p : Nat) (w : World) (e : Ending) (w' : World) : Prop :=
 ∃ (q : Nat) (ok : Bool), p ≤ q ∧ q ≤ s.size ∧ e = .returned (.tuple #[.int .i64 q, .bool ok]) ∧ w' = w
theorem skip_any (s : ByteArray) (p : Nat) (hs : s.size ≤ 60000) (hp : p ≤ s.size) (w : World) :
  Calls Tryz.prog 32 #[.string s, .int .i64 p] w (SkipPost s p w) := by
 go_enter Tryz.func32, Tryz.ntmps32
 go_wp2
 go_loop [1, 6, 7] (fun i _ _ => ∃ k : Nat, p ≤ k ∧ k ≤ s.size ∧ i = .int .i64 k) (fun i _ _ => s.size - (intOf i).toNat)
 case atStart => exact ⟨p, Nat.le_refl _, hp, rfl⟩
 case round =>
  obtain ⟨k, hk, hk2, rfl⟩ := hrel
  by_cases hlt : k < s.size
  ·by_cases hws : (s[k].toNat : Int) = 32 ∨ (s[k].toNat : Int) = 9 ∨ (s[k].toNat : Int) = 10
   ·by_cases hl2 : k + 1 < s.size
    all_goals
     rcases hws with h | h | h
     all_goals
      go_wp2
      exact ⟨⟨k + 1, by omega, by omega, by go_num⟩, by simp [intOf]; omega⟩
   ·have n1 : ¬ (s[k].toNat : Int) = 32 := fun h => hws (Or.inl h)
    have n2 : ¬ (s[k].toNat : Int) = 9 := fun h => hws (Or.inr (Or.inl h))
    have n3 : ¬ (s[k].toNat : Int) = 10 := fun h => hws (Or.inr (Or.inr h))
    have b1 : ((s[k].toNat : Int) == 32) = false := beq_eq_false_iff_ne.2 n1
    have b2 : ((s[k].toNat : Int) == 9) = false := beq_eq_false_iff_ne.2 n2
    have b3 : ((s[k].toNat : Int) == 10) = false := beq_eq_false_iff_ne.2 n3
    have N3 : Hid (¬ (s[k].toNat : Int) = 10) := n3
    clear hws n1 n2 n3
    by_cases hl2 : k + 1 < s.size
    ·cases hA : ((s.extract k (k + 2)).toList == [47, 47])
     case true =>
      go_wp2
      go_loop [1] (fun i => ∃ j : Nat, k ≤ j ∧ j ≤ s.size ∧ i = .int .i64 j) (fun i => s.size - (intOf i).toNat)
      case atStart => exact ⟨k, Nat.le_refl _, by omega, rfl⟩
      case round =>
       obtain ⟨j, hj, hj2, rfl⟩ := hrel
       by_cases hjl : j < s.size
       ·by_cases h10 : (s[j].toNat : Int) = 10
        ·have hjk : k < j := by
          rcases Nat.lt_or_ge k j with h | h
          ·exact h
          ·exfalso; have e : j = k := by omega
           subst e; exact N3.out h10
         go_wp2
         exact ⟨⟨j, by omega, hj2, rfl⟩, by simp [intOf]; omega⟩
        ·go_wp2
         exact ⟨⟨j + 1, by omega, by omega, by go_num⟩, by simp [intOf]; omega⟩
       ·go_wp2
        exact ⟨⟨j, by omega, hj2, rfl⟩, by simp [intOf]; omega⟩
     case false =>
      cases hB : ((s.extract k (k + 2)).toList == [47, 42])
      case true =>
       go_wp2
       go_loop [7] (fun i => ∃ j : Nat, k + 2 ≤ j ∧ j ≤ s.size ∧ i = .int .i64 j) (fun i => s.size - (intOf i).toNat)
       case atStart => exact ⟨k + 2, Nat.le_refl _, by omega, by go_num⟩
       case round =>
        obtain ⟨j, hj, hj2, rfl⟩ := hrel
        by_cases hjl : j + 1 < s.size
        ·cases hC : ((s.extract j (j + 2)).toList == [42, 47])
         case true =>
          go_wp2
          exact ⟨⟨j + 2, by omega, by omega, by go_num⟩, by simp [intOf]; omega⟩
         case false =>
          go_wp2
          exact ⟨⟨j + 1, by omega, by omega, by go_num⟩, by simp [intOf]; omega⟩
        ·go_wp2
         go_ret2
         exact ⟨k, false, hk, hk2, rfl, rfl⟩
      case false =>
       go_wp2
       go_ret2
       exact ⟨k, true, hk, hk2, rfl, rfl⟩
    ·go_wp2
     go_ret2
     exact ⟨k, true, hk, hk2, rfl, rfl⟩
  ·go_wp2
   go_ret2
   exact ⟨k, true, hk, hk2, rfl, rfl⟩
theorem wrap_u64_nonneg (x : Int) : 0 ≤ IntKind.u64.wrap x := by
 simp [IntKind.wrap, IntKind.signed, IntKind.bits]; omega
theorem val95 (c : UInt8) (h : (c.toNat : Int) = 95) : valOf c = 99 := by
 rcases val_cases c with ⟨_, _, h1, h2⟩ | ⟨_, _, h1, h2⟩ | ⟨_, _, h1, h2⟩ | ⟨hv, _⟩ | ⟨hv, _⟩ | ⟨hv, _⟩ <;> first | exact hv | omega
def DigPost (s : ByteArray) (p : Nat) (w : World) (e : Ending) (w' : World) : Prop :=
 ∃ (n : Int) (q : Nat) (ok : Bool), 0 ≤ n ∧ n < 4294967296 ∧ p ≤ q ∧ q ≤ s.size ∧ (ok = true → p < q) ∧ e = .returned (.tuple #[.int .u64 n, .int .i64 q, .bool ok]) ∧ w' = w
theorem digits_any (s : ByteArray) (p : Nat) (base : Int) (hb : 2 ≤ base) (hb2 : base ≤ 16) (hs : s.size ≤ 60000) (hp : p ≤ s.size) (w : World) :
  Calls Tryz.prog 52 #[.string s, .int .i64 p, .int .u64 base] w (DigPost s p w) := by
 go_enter Tryz.func52, Tryz.ntmps52
 go_wp2_with fail
 go_loop [9, 10, 11] (fun n i ok => ∃ (k : Nat) (m : Int) (b : Bool), p ≤ k ∧ k ≤ s.size ∧ 0 ≤ m ∧ m < 4294967296 ∧ i = .int .i64 k ∧ n = .int .u64 m ∧ ok = .bool b) (fun _ i _ => s.size - (intOf i).toNat)
 case atStart => exact ⟨p, 0, true, Nat.le_refl _, hp, by omega, by omega, rfl, rfl, rfl⟩
 case round =>
  obtain ⟨k, m, b, hk, hk2, hm, hm2, rfl, rfl, rfl⟩ := hrel
  by_cases hlt : k < s.size
  ·have hv := valOf_le s[k]
   by_cases hvb : valOf s[k] < base
   ·have hu2 : ((s[k].toNat : Int) == 95) = false := beq_eq_false_iff_ne.2 (fun h => by
     have := val95 s[k] h; omega)
    go_wp2_with (go_at_call 73; refine (value_any _ _).mono ?_; rintro e w' ⟨rfl, rfl⟩)
    ·exact ⟨⟨k + 1, 0, false, by omega, by omega, by omega, by omega, by go_num, rfl, rfl⟩, by simp [intOf]; omega⟩
    ·exact ⟨⟨k + 1, _, b, by omega, by omega, wrap_u64_nonneg _, ‹_›, by go_num, rfl, rfl⟩, by simp [intOf]; omega⟩
   ·cases hu : ((s[k].toNat : Int) == 95)
    case true =>
     by_cases hpk : p < k
     ·go_wp2_with (go_at_call 73; refine (value_any _ _).mono ?_; rintro e w' ⟨rfl, rfl⟩)
      exact ⟨⟨k + 1, m, b, by omega, by omega, hm, hm2, by go_num, rfl, rfl⟩, by simp [intOf]; omega⟩
     ·cases b
      all_goals
       go_wp2_with (go_at_call 73; refine (value_any _ _).mono ?_; rintro e w' ⟨rfl, rfl⟩)
       go_ret3
       exact ⟨m, k, _, hm, hm2, hk, hk2, by simp; try omega, rfl, rfl⟩
    case false =>
     cases b
     all_goals
      go_wp2_with (go_at_call 73; refine (value_any _ _).mono ?_; rintro e w' ⟨rfl, rfl⟩)
      go_ret3
      exact ⟨m, k, _, hm, hm2, hk, hk2, by simp, rfl, rfl⟩
  ·cases b
   all_goals
    go_wp2_with fail
    go_ret3
    exact ⟨m, k, _, hm, hm2, hk, hk2, by simp, rfl, rfl⟩
end Go.Proofs.YtimmmlnememjiaaGreatDoor
