import Derived.Test.YtlaljeobdddegaaMqA
namespace Go.Proofs.Ytlaljeobdddegaa
open Go.RowKit Mp

/-- numbers that lie one behind the other -/
def NumR (w : World) (la : Option Addr) (l : List Nat) : Prop := ∀ k y, l[k]? = some y → ∃ b o, la = some ⟨b, o, none⟩ ∧ w.cell? ⟨b, o + k, none⟩ = some (.int .i64 (y : Nat))
theorem idx_lt {x : Nat} : ∀ {l : List Nat} {k : Nat}, x ∉ l.take k → l[k]? = some x → l.idxOf x = k
  | a :: t, 0, _, h => by
    have : a = x := by simpa using h
    rw [List.idxOf_cons, this]; simp
  | a :: t, k + 1, hn, h => by
    rw [List.take_succ_cons, List.mem_cons, not_or] at hn
    have hb : (a == x) = false := beq_eq_false_iff_ne.2 (fun e => hn.1 e.symm)
    rw [List.idxOf_cons, hb]
    simp only [cond_false]
    rw [idx_lt hn.2 (by simpa using h)]

set_option maxRecDepth 100000 in
set_option maxHeartbeats 8000000 in
theorem index_any (w : World) (la : Option Addr) (lc : Nat) (l : List Nat) (x : Nat) (hl : l.length ≤ 1000000) (hr : NumR w la l) :
    Calls Try.prog 78 #[.slice la l.length lc, .int .i64 (x : Nat)] w fun e w' => ∃ r : Int, e = .returned (.int .i64 r) ∧ (0 ≤ r ↔ x ∈ l) ∧ (x ∈ l → r = (l.idxOf x : Nat)) ∧ w' = w := by
  have HR := hidden hr
  obtain ⟨ln, Eln⟩ := exh l.length
  rw [← Eln.out] at hl
  rw [← Eln.out]
  clear hr
  go_enter Try.func78, Try.ntmps78
  go_wp2_with fail
  go_loopw [5, 8] (fun _ i' w' => ∃ k : Nat, k ≤ ln ∧ i' = .int .i64 (k : Int) ∧ Hid (x ∉ l.take k) ∧ Hid (w' = w)) (fun _ i' _ => ln - (intOf i').toNat)
  case atStart => exact ⟨0, Nat.zero_le _, rfl, (by show x ∉ l.take 0; simp), rfl⟩
  case round =>
    obtain ⟨k, hk, rfl, HX, HW⟩ := hrel
    by_cases hlt : k < ln
    · have hltI : (k : Int) < (ln : Int) := by omega
      obtain ⟨y, hy⟩ := getElem_lt (show k < l.length by rw [← Eln.out]; exact hlt)
      obtain ⟨b, o, ea, cx⟩ := HR.out k y hy
      rw [← HW.out] at cx
      have e2 : IntKind.i64.wrap ((k : Int) + 1) = (k : Int) + 1 := wrapI _ (by omega) (by omega)
      have HN : Hid (x ≠ y → x ∉ l.take (k + 1)) := fun hne hm => by
        rw [take_next _ k _ hy] at hm
        rcases List.mem_append.1 hm with h | h
        · exact HX.out h
        · exact hne (by simpa using h)
      have HM : Hid (y ∈ l) := List.mem_of_getElem? hy
      have HI : Hid (x = y → l.idxOf x = k) := fun e => idx_lt HX.out (by rw [e]; exact hy)
      subst ea
      clear hy HX
      by_cases e : x = y
      · subst e
        have HI2 : Hid (l.idxOf x = k) := HI.out rfl
        clear HI
        go_wp2
        go_ret
        exact ⟨(k : Int), rfl, ⟨fun _ => HM.out, fun _ => by omega⟩, fun _ => by rw [HI2.out], HW.out⟩
      · have hne : ¬ (x : Int) = (y : Int) := by omega
        have HN2 := hidden (HN.out e)
        clear e HN HI
        go_wp2
        go_roundw
        case measure => simp [intOf]; omega
        case rel => exact ⟨k + 1, by omega, by simp, HN2.out, HW.out⟩
    · obtain rfl : k = ln := by omega
      have hge : ¬ (k : Int) < (k : Int) := by omega
      have HX2 : Hid (x ∉ l) := by
        have := HX.out
        rw [List.take_of_length_le (by rw [← Eln.out]; exact Nat.le_refl _)] at this
        exact this
      go_wp2
      go_ret
      exact ⟨-1, rfl, ⟨fun h => absurd h (by decide), fun h => absurd h HX2.out⟩, fun h => absurd h HX2.out, HW.out⟩

set_option maxRecDepth 100000 in
set_option maxHeartbeats 8000000 in
theorem contains_any (w : World) (la : Option Addr) (lc : Nat) (l : List Nat) (x : Nat) (hl : l.length ≤ 1000000) (hr : NumR w la l) :
    Calls Try.prog 84 #[.slice la l.length lc, .int .i64 (x : Nat)] w fun e w' => e = .returned (.bool (decide (x ∈ l))) ∧ w' = w := by
  have IX := hidden (index_any w la lc l x hl hr)
  obtain ⟨ln, Eln⟩ := exh l.length
  rw [← Eln.out] at IX
  rw [← Eln.out]
  clear hr hl
  go_enter Try.func84, Try.ntmps84
  go_wp2_with fail
  go_at_call 78
  refine IX.out.mono ?_
  rintro e v ⟨r, rfl, hr, _, hv⟩
  rw [hv]
  clear hv v
  have HR := hidden hr
  clear hr
  go_wp2
  go_ret
  exact ⟨ret_bool (by rw [decide_eq_decide]; exact HR.out), rfl⟩

set_option maxRecDepth 100000 in
set_option maxHeartbeats 8000000 in
theorem nanC_any (w : World) (x : Int) : Calls Try.prog 82 #[.int .i64 x] w fun e w' => e = .returned (.bool false) ∧ w' = w := by
  go_enter Try.func82, Try.ntmps82
  go_wp2
  go_ret
  exact ⟨ret_bool (by simp), rfl⟩
set_option maxRecDepth 100000 in
set_option maxHeartbeats 8000000 in
theorem nanS_any (w : World) (x : Int) : Calls Try.prog 80 #[.int .i64 x] w fun e w' => e = .returned (.bool false) ∧ w' = w := by
  go_enter Try.func80, Try.ntmps80
  go_wp2
  go_ret
  exact ⟨ret_bool (by simp), rfl⟩
set_option maxRecDepth 100000 in
set_option maxHeartbeats 8000000 in
theorem less_any (w : World) (x y : Int) : Calls Try.prog 79 #[.int .i64 x, .int .i64 y] w fun e w' => e = .returned (.bool (decide (x < y))) ∧ w' = w := by
  have N1 := hidden (nanC_any w x)
  go_enter Try.func79, Try.ntmps79
  go_wp2_with fail
  go_at_call 82
  refine N1.out.mono ?_
  rintro e v ⟨rfl, hv⟩
  rw [hv]
  clear hv v
  go_wp2
  go_ret
  exact ⟨ret_bool rfl, rfl⟩
end Go.Proofs.Ytlaljeobdddegaa
