import Derived.Test.YtimmmlnememjiaaGreatDoorX
import Derived.Test.YtimmmlnememjiaaGreatDoorX03
set_option maxRecDepth 100000
set_option maxHeartbeats 16000000
namespace Go.Proofs.YtimmmlnememjiaaGreatDoor
open Go.RowKit
def TokOk (s : ByteArray) (p q : Nat) (kind atk width num : Int) (T : ByteArray) : Prop :=
 p ≤ q ∧ q ≤ s.size ∧ 0 ≤ kind ∧ kind ≤ 4 ∧ ((1 ≤ kind ∧ kind ≤ 3) → p < q) ∧ 0 ≤ atk ∧ atk ≤ 60000 ∧ 0 ≤ width ∧ width ≤ 32 ∧ 0 ≤ num ∧ num < 4294967296 ∧ T.size ≤ 60000 ∧ (kind = 1 → T.size ≤ 40)
def LexPost (s : ByteArray) (p : Nat) (w : World) (e : Ending) (w' : World) : Prop :=
 ∃ (kind atk width num : Int) (T : ByteArray) (q : Nat), e = .returned (.tuple #[.agg #[.int .i64 kind, .int .i64 atk, .int .i64 width, .string T, .int .u64 num], .int .i64 q]) ∧ TokOk s p q kind atk width num T ∧ Below w.heap.size w w'
theorem lexPost_bad {s : ByteArray} {p q : Nat} {w w' : World} (hs : s.size ≤ 60000) (hpq : p ≤ q) (hp : q ≤ s.size) (hb : Below w.heap.size w w') :
  LexPost s p w (.returned (.tuple #[.agg #[.int .i64 4, .int .i64 q, .int .i64 0, .string ⟨#[]⟩, .int .u64 0], .int .i64 q])) w' :=
 ⟨4, q, 0, 0, ⟨#[]⟩, q, rfl, ⟨hpq, hp, by omega, by omega, by omega, by omega, by omega, by omega, by omega, by omega, by omega, by decide, by omega⟩, hb⟩
theorem lexPost_num {s : ByteArray} {p q : Nat} {n m : Int} {w w' : World} (hs : s.size ≤ 60000) (hp : p < q) (hq : q ≤ s.size) (hn : 0 ≤ n) (hn2 : n < 4294967296) (hm : 0 ≤ m) (hm2 : m ≤ 32) (hb : Below w.heap.size w w') :
  LexPost s p w (.returned (.tuple #[.agg #[.int .i64 2, .int .i64 p, .int .i64 m, .string ⟨#[]⟩, .int .u64 n], .int .i64 q])) w' :=
 ⟨2, p, m, n, ⟨#[]⟩, q, rfl, ⟨by omega, hq, by omega, by omega, by omega, by omega, by omega, hm, hm2, hn, hn2, by decide, by omega⟩, hb⟩
theorem number_any (s : ByteArray) (p : Nat) (hs : s.size ≤ 60000) (hp : p ≤ s.size) (w : World) :
  Calls Tryz.prog 34 #[.string s, .int .i64 p] w (LexPost s p w) := by
 go_enter Tryz.func34, Tryz.ntmps34
 go_wp2_with fail
 refine (digits_any s p 10 (by decide) (by decide) hs hp _).mono ?_
 rintro e w1 ⟨n, q, ok, hn, hn2, hq, hq2, hok, rfl, rfl⟩
 have HOK : Hid (ok = true → p < q) := hok
 clear hok
 cases ok
 case false =>
  by_cases hql : q < s.size
  ·cases h39 : ((s[q].toNat : Int) != 39)
   all_goals
    go_wp2_with fail
   all_goals
    exact bodyPost_ret (v := .tuple #[.agg #[.int .i64 4, .int .i64 p, .int .i64 0, .string ⟨#[]⟩, .int .u64 0], .int .i64 p]) (by simp [results, Tryz.results34, go_sem]) rfl (lexPost_bad hs (Nat.le_refl _) hp (((Below.refl _ _).alloc (Nat.le_refl _) _).alloc (by simp) _))
  ·go_wp2_with fail
   exact bodyPost_ret (v := .tuple #[.agg #[.int .i64 4, .int .i64 p, .int .i64 0, .string ⟨#[]⟩, .int .u64 0], .int .i64 p]) (by simp [results, Tryz.results34, go_sem]) rfl (lexPost_bad hs (Nat.le_refl _) hp (((Below.refl _ _).alloc (Nat.le_refl _) _).alloc (by simp) _))
 case true =>
  have hpq := HOK.out rfl
  by_cases hql : q < s.size
  ·cases h39 : ((s[q].toNat : Int) != 39)
   case true =>
    go_wp2_with fail
    exact bodyPost_ret (v := .tuple #[.agg #[.int .i64 2, .int .i64 p, .int .i64 0, .string ⟨#[]⟩, .int .u64 n], .int .i64 q]) (by simp [results, Tryz.results34, go_sem]) rfl (lexPost_num hs hpq hq2 hn hn2 (by omega) (by omega) (((Below.refl _ _).alloc (Nat.le_refl _) _).alloc (by simp) _))
   case false =>
    by_cases hn1 : n < 1
    ·go_wp2_with fail
     all_goals
      exact bodyPost_ret (v := .tuple #[.agg #[.int .i64 4, .int .i64 p, .int .i64 0, .string ⟨#[]⟩, .int .u64 0], .int .i64 p]) (by simp [results, Tryz.results34, go_sem]) rfl (lexPost_bad hs (Nat.le_refl _) hp (((Below.refl _ _).alloc (Nat.le_refl _) _).alloc (by simp) _))
    ·by_cases hn32 : 32 < n
     ·go_wp2_with fail
      all_goals
       exact bodyPost_ret (v := .tuple #[.agg #[.int .i64 4, .int .i64 p, .int .i64 0, .string ⟨#[]⟩, .int .u64 0], .int .i64 p]) (by simp [results, Tryz.results34, go_sem]) rfl (lexPost_bad hs (Nat.le_refl _) hp (((Below.refl _ _).alloc (Nat.le_refl _) _).alloc (by simp) _))
     ·go_wp2_with fail
      all_goals first
       | exact bodyPost_ret (v := .tuple #[.agg #[.int .i64 4, .int .i64 p, .int .i64 0, .string ⟨#[]⟩, .int .u64 0], .int .i64 p]) (by simp [results, Tryz.results34, go_sem]) rfl (lexPost_bad hs (Nat.le_refl _) hp (((Below.refl _ _).alloc (Nat.le_refl _) _).alloc (by simp) _))
       | skip
      all_goals
       rw [show ((q : Int) + 2) = ((q + 2 : Nat) : Int) from by omega]
       refine (digits_any s (q + 2) _ (by decide) (by decide) hs (by omega) _).mono ?_
       rintro e w2 ⟨v, r, fine, hv, hv2, hr, hr2, hfine, rfl, rfl⟩
       have HF : Hid (fine = true → q + 2 < r) := hfine
       clear hfine
       cases fine
       case false =>
        go_wp2_with fail
        exact bodyPost_ret (v := .tuple #[.agg #[.int .i64 4, .int .i64 p, .int .i64 0, .string ⟨#[]⟩, .int .u64 0], .int .i64 p]) (by simp [results, Tryz.results34, go_sem]) rfl (lexPost_bad hs (Nat.le_refl _) hp (((Below.refl _ _).alloc (Nat.le_refl _) _).alloc (by simp) _))
       case true =>
        have hf := HF.out rfl
        have hpr : p < r := by omega
        clear HF HOK
        cases hsh : (v / 2 ^ n.toNat != 0)
        case true =>
         go_wp2_with fail
         exact bodyPost_ret (v := .tuple #[.agg #[.int .i64 4, .int .i64 p, .int .i64 0, .string ⟨#[]⟩, .int .u64 0], .int .i64 p]) (by simp [results, Tryz.results34, go_sem]) rfl (lexPost_bad hs (Nat.le_refl _) hp (((Below.refl _ _).alloc (Nat.le_refl _) _).alloc (by simp) _))
        case false =>
         go_wp2_with fail
         exact bodyPost_ret (v := .tuple #[.agg #[.int .i64 2, .int .i64 p, .int .i64 n, .string ⟨#[]⟩, .int .u64 v], .int .i64 r]) (by simp [results, Tryz.results34, go_sem]) rfl (lexPost_num hs hpr hr2 hv hv2 (by omega) (by omega) (((Below.refl _ _).alloc (Nat.le_refl _) _).alloc (by simp) _))
  ·go_wp2_with fail
   exact bodyPost_ret (v := .tuple #[.agg #[.int .i64 2, .int .i64 p, .int .i64 0, .string ⟨#[]⟩, .int .u64 n], .int .i64 q]) (by simp [results, Tryz.results34, go_sem]) rfl (lexPost_num hs hpq hq2 hn hn2 (by omega) (by omega) (((Below.refl _ _).alloc (Nat.le_refl _) _).alloc (by simp) _))
end Go.Proofs.YtimmmlnememjiaaGreatDoor
