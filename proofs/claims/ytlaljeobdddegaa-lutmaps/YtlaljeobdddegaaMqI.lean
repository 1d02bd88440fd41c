import Derived.Test.YtlaljeobdddegaaMqH
import Derived.Test.YtlaljeobdddegaaWrG
namespace Go.Proofs.Ytlaljeobdddegaa
open Go.RowKit Mp

/-! joining two cuts: pure -/
def insA (l : List Nat) (p x : Nat) : List Nat := l.take p ++ x :: l.drop p
theorem insA_len {l : List Nat} {p x : Nat} (h : p ≤ l.length) : (insA l p x).length = l.length + 1 := by
  unfold insA; rw [List.length_append, List.length_cons, List.length_take, List.length_drop]; omega
theorem insA_mem {l : List Nat} {p x y : Nat} : y ∈ insA l p x ↔ y = x ∨ y ∈ l := by
  unfold insA
  rw [List.mem_append, List.mem_cons]
  constructor
  · rintro (h | h | h)
    · exact Or.inr (List.mem_of_mem_take h)
    · exact Or.inl h
    · exact Or.inr (List.mem_of_mem_drop h)
  · rintro (h | h)
    · exact Or.inr (Or.inl h)
    · rw [← List.take_append_drop p l] at h
      rcases List.mem_append.1 h with h | h
      · exact Or.inl h
      · exact Or.inr (Or.inr h)
theorem ris_app : ∀ {a b : List Nat}, Ris a → Ris b → (∀ x, x ∈ a → ∀ y, y ∈ b → x < y) → Ris (a ++ b)
  | [], _, _, hb, _ => hb
  | x :: t, b, ha, hb, h => by
    cases ha with
    | cons h1 h2 =>
      refine .cons (fun y hy => ?_) (ris_app h2 hb (fun z hz y hy => h z (List.mem_cons_of_mem _ hz) y hy))
      rcases List.mem_append.1 hy with hy | hy
      · exact h1 y hy
      · exact h x List.mem_cons_self y hy
theorem Mp.Ris.take {l : List Nat} (h : Ris l) (p : Nat) : Ris (l.take p) := by
  induction h generalizing p with
  | nil => rw [List.take_nil]; exact .nil
  | cons h1 _ ih =>
    cases p with
    | zero => exact .nil
    | succ p => rw [List.take_succ_cons]; exact .cons (fun y hy => h1 y (List.mem_of_mem_take hy)) (ih p)
theorem Mp.Ris.drop {l : List Nat} (h : Ris l) (p : Nat) : Ris (l.drop p) := by
  induction h generalizing p with
  | nil => rw [List.drop_nil]; exact .nil
  | cons h1 h2 ih =>
    cases p with
    | zero => exact .cons h1 h2
    | succ p => rw [List.drop_succ_cons]; exact ih p
theorem insA_ris {l : List Nat} {p x : Nat} (h : Ris l) (hs : Spot l x p) (hn : x ∉ l) : Ris (insA l p x) := by
  unfold insA
  refine ris_app (h.take p) (.cons (fun y hy => ?_) (h.drop p)) (fun y hy z hz => ?_)
  · obtain ⟨k, hk⟩ := List.getElem?_of_mem hy
    rw [List.getElem?_drop] at hk
    have h1 := hs.hi (p + k) y (by omega) hk
    have : y ≠ x := fun e => hn (by rw [← e]; exact List.mem_of_mem_drop hy)
    omega
  · obtain ⟨k, hk⟩ := List.getElem?_of_mem hy
    have hkp : k < p := by
      have := (List.getElem?_eq_some_iff.1 hk).1
      rw [List.length_take] at this; omega
    rw [List.getElem?_take_of_lt hkp] at hk
    have h1 := hs.lo k y hkp hk
    rcases List.mem_cons.1 hz with rfl | hz
    · exact h1
    · obtain ⟨m, hm⟩ := List.getElem?_of_mem hz
      rw [List.getElem?_drop] at hm
      have := hs.hi (p + m) z (by omega) hm
      omega
/-- how many bits are set -/
theorem bits_count (f v : Nat) : (bitsD f v).sum = ((List.range f).filter (fun i => v.testBit i)).length := by
  induction f generalizing v with
  | zero => rfl
  | succ f ih =>
    rw [List.range_succ_eq_map, List.filter_cons]
    have e : (List.map Nat.succ (List.range f)).filter (fun i => v.testBit i) = ((List.range f).filter (fun i => (v / 2).testBit i)).map Nat.succ := by
      rw [List.filter_map]
      congr 1
      refine List.filter_congr (fun i _ => ?_)
      show v.testBit (i + 1) = _
      rw [Nat.testBit_succ]
    show v % 2 + (bitsD f (v / 2)).sum = _
    rw [ih, e]
    by_cases h : v.testBit 0 = true
    · rw [if_pos h, List.length_cons, List.length_map]
      rw [Nat.testBit_zero] at h
      have := of_decide_eq_true h
      omega
    · rw [if_neg h, List.length_map]
      rw [Nat.testBit_zero] at h
      have : ¬ v % 2 = 1 := fun e => h (decide_eq_true e)
      omega
theorem marks_few (l : List Nat) : (bitsD 64 (mkM l)).sum ≤ l.length := by
  rw [bits_count]
  have := nd_len (C := (List.range 64).filter (fun i => (mkM l).testBit i)) (D := l.map (· % 64)) (List.nodup_range.filter _) (fun i hi => by
    obtain ⟨h1, h2⟩ := List.mem_filter.1 hi
    rw [mkM_bit, Bool.and_eq_true] at h2
    obtain ⟨v, hv, he⟩ := List.any_eq_true.1 h2.2
    exact List.mem_map.2 ⟨v, hv, by simpa using he⟩)
  rw [List.length_map] at this
  exact this
theorem mkM_join (a b : List Nat) : mkM a ||| mkM b = mkM (joinL a b) := by
  refine nat_eq (fun i => ?_)
  rw [Nat.testBit_or, mkM_bit, mkM_bit, mkM_bit]
  by_cases hi : i < 64
  · simp only [hi, decide_true, Bool.true_and]
    rw [Bool.eq_iff_iff, Bool.or_eq_true, List.any_eq_true, List.any_eq_true, List.any_eq_true]
    constructor
    · rintro (⟨v, h1, h2⟩ | ⟨v, h1, h2⟩)
      · exact ⟨v, (joinL_mem _ _ _).2 (Or.inl h1), h2⟩
      · exact ⟨v, (joinL_mem _ _ _).2 (Or.inr h1), h2⟩
    · rintro ⟨v, h1, h2⟩
      rcases (joinL_mem _ _ _).1 h1 with h1 | h1
      · exact Or.inl ⟨v, h1, h2⟩
      · exact Or.inr ⟨v, h1, h2⟩
  · simp [hi]
/-- the box of a cut that is being joined -/
def bxA (l : List Nat) (M D T : Nat) : Array Value := #[.int .i64 (l.getD 0 0 : Nat), .int .i64 (l.getD 1 0 : Nat), .int .i64 (l.getD 2 0 : Nat), .int .i64 (l.getD 3 0 : Nat), .int .i64 (l.length : Nat), .int .u64 (M : Nat), .int .i64 (D : Nat), .int .u16 (T : Nat)]
theorem bxA_ct (c : Ct) : bxA c.lv (mkM c.lv) c.dep c.tb = (ctC c).toArray := rfl
end Go.Proofs.Ytlaljeobdddegaa
