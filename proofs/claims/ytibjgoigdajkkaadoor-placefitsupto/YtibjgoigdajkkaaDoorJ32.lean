import Derived.Test.YtibjgoigdajkkaaDoorJ28
namespace Go.Proofs.YtibjgoigdajkkaaDoor
open Go.RowKit

set_option maxRecDepth 100000 in
set_option maxHeartbeats 8000000 in
theorem index_any (w : World) (la : Option Addr) (lc : Nat) (l : List Nat) (x : Nat) (hl : l.length ≤ 1000000) (hr : ∀ k y, l[k]? = some y → ∃ b o, la = some ⟨b, o, none⟩ ∧ w.cell? ⟨b, o + k, none⟩ = some (.int .i64 (y : Nat))) :
    Calls Tryd.prog 68 #[.slice la l.length lc, .int .i64 (x : Nat)] w fun e w' => ∃ r : Int, e = .returned (.int .i64 r) ∧ (0 ≤ r ↔ x ∈ l) ∧ w' = w := by
  have HR := hidden hr
  obtain ⟨ln, Eln⟩ := exh l.length
  rw [← Eln.out] at hl
  rw [← Eln.out]
  clear hr
  go_enter Tryd.func68, Tryd.ntmps68
  go_wp2_with fail
  go_loopw [5, 8] (fun _ i' w' => ∃ k : Nat, k ≤ ln ∧ i' = .int .i64 (k : Int) ∧ Hid (x ∉ l.take k) ∧ Hid (w' = w)) (fun _ i' _ => ln - (intOf i').toNat)
  case atStart => exact ⟨0, Nat.zero_le _, rfl, (by show x ∉ l.take 0; simp), rfl⟩
  case round =>
    obtain ⟨k, hk, rfl, HX, HW⟩ := hrel
    by_cases hlt : k < ln
    · have hltI : (k : Int) < (ln : Int) := by omega
      obtain ⟨y, hy⟩ := getElem_lt (show k < l.length by rw [← Eln.out]; exact hlt)
      obtain ⟨b, o, ea, cx⟩ := HR.out k y hy
      rw [← HW.out] at cx
      have e2 : IntKind.i64.wrap ((k : Int) + 1) = (k : Int) + 1 := wrapI _ (by omega) (by omega)
      have HN : Hid (x ≠ y → x ∉ l.take (k + 1)) := fun hne hm => by
        rw [take_next _ k _ hy] at hm
        rcases List.mem_append.1 hm with h | h
        · exact HX.out h
        · exact hne (by simpa using h)
      have HM : Hid (y ∈ l) := List.mem_of_getElem? hy
      subst ea
      clear hy HX
      by_cases e : x = y
      · subst e
        go_wp2
        go_ret
        exact ⟨(k : Int), rfl, ⟨fun _ => HM.out, fun _ => by omega⟩, HW.out⟩
      · have hne : ¬ (x : Int) = (y : Int) := by omega
        have HN2 := hidden (HN.out e)
        clear e HN
        go_wp2
        go_roundw
        case measure => simp [intOf]; omega
        case rel => exact ⟨k + 1, by omega, by simp, HN2.out, HW.out⟩
    · obtain rfl : k = ln := by omega
      have hge : ¬ (k : Int) < (k : Int) := by omega
      have HX2 : Hid (x ∉ l) := by
        have := HX.out
        rw [List.take_of_length_le (by rw [← Eln.out]; exact Nat.le_refl _)] at this
        exact this
      go_wp2
      go_ret
      exact ⟨-1, rfl, ⟨fun h => absurd h (by decide), fun h => absurd h HX2.out⟩, HW.out⟩
set_option maxRecDepth 100000 in
set_option maxHeartbeats 8000000 in
theorem contains_any (w : World) (la : Option Addr) (lc : Nat) (l : List Nat) (x : Nat) (hl : l.length ≤ 1000000) (hr : ∀ k y, l[k]? = some y → ∃ b o, la = some ⟨b, o, none⟩ ∧ w.cell? ⟨b, o + k, none⟩ = some (.int .i64 (y : Nat))) :
    Calls Tryd.prog 53 #[.slice la l.length lc, .int .i64 (x : Nat)] w fun e w' => e = .returned (.bool (decide (x ∈ l))) ∧ w' = w := by
  have IX := hidden (index_any w la lc l x hl hr)
  obtain ⟨ln, Eln⟩ := exh l.length
  rw [← Eln.out] at IX
  rw [← Eln.out]
  clear hr hl
  go_enter Tryd.func53, Tryd.ntmps53
  go_wp2_with fail
  go_at_call 68
  refine IX.out.mono ?_
  rintro e v ⟨r, rfl, hr, hv⟩
  rw [hv]
  clear hv v
  have HR := hidden hr
  clear hr
  go_wp2
  go_ret
  exact ⟨ret_bool (by rw [decide_eq_decide]; exact HR.out), rfl⟩
/-- the items that a table takes, each once -/
def tkN (f : Int → Option Int) (l : List Int) : List Nat := l.foldl (fun a s => match f s with | some x => if x.toNat ∈ a then a else a ++ [x.toNat] | none => a) []
theorem tkN_snoc (f : Int → Option Int) (l : List Int) (s : Int) : tkN f (l ++ [s]) = match f s with | some x => if x.toNat ∈ tkN f l then tkN f l else tkN f l ++ [x.toNat] | none => tkN f l := by
  unfold tkN; rw [List.foldl_append]; rfl
theorem snoc_ind {α : Type} {p : List α → Prop} (h0 : p []) (h1 : ∀ l a, p l → p (l ++ [a])) (l : List α) : p l := by
  have : ∀ r : List α, p r.reverse := fun r => by
    induction r with
    | nil => exact h0
    | cons a t ih => rw [List.reverse_cons]; exact h1 _ _ ih
  have h := this l.reverse
  rwa [List.reverse_reverse] at h
theorem tkN_mem (f : Int → Option Int) (l : List Int) (x : Nat) : x ∈ tkN f l ↔ ∃ s y, s ∈ l ∧ f s = some y ∧ y.toNat = x := by
  induction l using snoc_ind with
  | h0 => exact ⟨fun h => (by cases h), fun ⟨s, y, h, _⟩ => (by cases h)⟩
  | h1 l s ih =>
    rw [tkN_snoc]
    constructor
    · intro h
      have hold : x ∈ tkN f l → ∃ s' y, s' ∈ l ++ [s] ∧ f s' = some y ∧ y.toNat = x := fun h => by
        obtain ⟨s', y, h1, h2⟩ := ih.1 h
        exact ⟨s', y, List.mem_append.2 (Or.inl h1), h2⟩
      cases e : f s with
      | none => rw [e] at h; exact hold h
      | some y =>
        rw [e] at h
        dsimp only at h
        by_cases hm : y.toNat ∈ tkN f l
        · rw [if_pos hm] at h; exact hold h
        · rw [if_neg hm] at h
          rcases List.mem_append.1 h with h | h
          · exact hold h
          · exact ⟨s, y, by simp, e, by simpa using (List.mem_singleton.1 h).symm⟩
    · rintro ⟨s', y, h1, h2, h3⟩
      rcases List.mem_append.1 h1 with h1 | h1
      · have h := ih.2 ⟨s', y, h1, h2, h3⟩
        split
        · split
          · exact h
          · exact List.mem_append.2 (Or.inl h)
        · exact h
      · rw [List.mem_singleton.1 h1] at h2
        rw [h2]
        dsimp only
        by_cases hm : y.toNat ∈ tkN f l
        · rw [if_pos hm, ← h3]; exact hm
        · rw [if_neg hm, ← h3]; simp
theorem tkN_nodup (f : Int → Option Int) (l : List Int) : (tkN f l).Nodup := by
  induction l using snoc_ind with
  | h0 => exact List.nodup_nil
  | h1 l s ih =>
    rw [tkN_snoc]
    split
    · split
      · exact ih
      · rename_i h
        exact List.nodup_append.2 ⟨ih, by simp, fun a ha b hb e => h (by rw [List.mem_singleton.1 hb] at e; rw [← e]; exact ha)⟩
    · exact ih
theorem tkN_len (f : Int → Option Int) (l : List Int) : (tkN f l).length ≤ l.length := by
  induction l using snoc_ind with
  | h0 => exact Nat.le_refl _
  | h1 l s ih =>
    rw [tkN_snoc, List.length_append, List.length_singleton]
    split
    · split
      · omega
      · rw [List.length_append, List.length_singleton]; omega
    · omega
def insS (N : NtD) (F s : Nat) : List Int := if s < F then [] else (tabOf N (s - F)).ins


end Go.Proofs.YtibjgoigdajkkaaDoor
