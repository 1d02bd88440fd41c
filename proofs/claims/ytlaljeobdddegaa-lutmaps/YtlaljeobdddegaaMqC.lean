import Derived.Test.YtlaljeobdddegaaMqB
namespace Go.Proofs.Ytlaljeobdddegaa
open Go.RowKit Mp

theorem wrapU (x : Int) (h0 : 0 ≤ x) (h1 : x < 18446744073709551616) : IntKind.u64.wrap x = x := by rw [IntKind.wrap_u64]; omega
theorem Mp.Ris.lt {l : List Nat} (h : Ris l) : ∀ {i j x y : Nat}, i < j → l[i]? = some x → l[j]? = some y → x < y := by
  induction h with
  | nil => intro i j x y _ hx; simp at hx
  | @cons a l ha hl ih =>
    intro i j x y hij hx hy
    cases j with
    | zero => omega
    | succ j =>
      cases i with
      | zero =>
        have e : a = x := by simpa using hx
        rw [← e]
        exact ha y (List.mem_of_getElem? (by simpa using hy))
      | succ i => exact ih (i := i) (j := j) (by omega) (by simpa using hx) (by simpa using hy)
/-- where a number is, or would be -/
structure Spot (l : List Nat) (x at_ : Nat) : Prop where
  le : at_ ≤ l.length
  lo : ∀ k y, k < at_ → l[k]? = some y → y < x
  hi : ∀ k y, at_ ≤ k → l[k]? = some y → x ≤ y

set_option maxRecDepth 100000 in
set_option maxHeartbeats 8000000 in
theorem search_any (w : World) (la : Option Addr) (lc : Nat) (l : List Nat) (x : Nat) (hl : l.length ≤ 1000000) (hr : NumR w la l) (hs : Ris l) :
    Calls Try.prog 76 #[.slice la l.length lc, .int .i64 (x : Nat)] w fun e w' => ∃ p : Nat, Hid (Spot l x p) ∧ e = .returned (.tuple #[.int .i64 (p : Nat), .bool (decide (x ∈ l))]) ∧ w' = w := by
  have HR := hidden hr
  have HS := hidden hs
  obtain ⟨ln, Eln⟩ := exh l.length
  rw [← Eln.out] at hl
  rw [← Eln.out]
  have LE : Hid (∀ y : Nat, Calls Try.prog 79 #[.int .i64 (y : Int), .int .i64 (x : Int)] w fun e w' => e = .returned (.bool (decide ((y : Int) < (x : Int)))) ∧ w' = w) := fun y => less_any w y x
  have NA : Hid (∀ y : Nat, Calls Try.prog 80 #[.int .i64 (y : Int)] w fun e w' => e = .returned (.bool false) ∧ w' = w) := fun y => nanS_any w y
  clear hr hs
  go_enter Try.func76, Try.ntmps76
  go_wp2_with fail
  go_loopw [7, 8, 9] (fun i' j' _ w' => ∃ i j : Nat, i ≤ j ∧ j ≤ ln ∧ i' = .int .i64 (i : Int) ∧ j' = .int .i64 (j : Int) ∧ Hid (∀ k y, k < i → l[k]? = some y → y < x) ∧ Hid (∀ k y, j ≤ k → l[k]? = some y → x ≤ y) ∧ Hid (w' = w)) (fun i' j' _ _ => (intOf j').toNat - (intOf i').toNat)
  case atStart => exact ⟨0, ln, Nat.zero_le _, Nat.le_refl _, rfl, rfl, fun k y hk => by omega, fun k y hk hy => by have h1 := (List.getElem?_eq_some_iff.1 hy).1; have h2 := Eln.out; omega, rfl⟩
  case round =>
    obtain ⟨i, j, hij, hj, rfl, rfl, HLO, HHI, HW⟩ := hrel
    obtain rfl := HW.out
    clear HW
    by_cases hlt : i < j
    · have hltI : (i : Int) < (j : Int) := by omega
      obtain ⟨h, Hh⟩ := exh ((i + j) / 2)
      have hh1 : i ≤ h := by have := Hh.out; omega
      have hh2 : h < j := by have := Hh.out; omega
      obtain ⟨y, hy⟩ := getElem_lt (show h < l.length by rw [← Eln.out]; omega)
      obtain ⟨b, o, ea, cx⟩ := HR.out h y hy
      have HY := hidden hy
      have e1 : IntKind.i64.wrap ((i : Int) + (j : Int)) = (i : Int) + (j : Int) := wrapI _ (by omega) (by omega)
      have e2 : IntKind.u64.wrap ((i : Int) + (j : Int)) = (i : Int) + (j : Int) := wrapU _ (by omega) (by omega)
      have e3 : ((i : Int) + (j : Int)) / 2 = (h : Int) := by have := Hh.out; omega
      have e4 : IntKind.u64.wrap (h : Int) = (h : Int) := wrapU _ (by omega) (by omega)
      have e5 : IntKind.i64.wrap (h : Int) = (h : Int) := wrapI _ (by omega) (by omega)
      have e6 : IntKind.i64.wrap ((h : Int) + 1) = ((h + 1 : Nat) : Int) := by rw [wrapI _ (by omega) (by omega)]; omega
      have hhI : (h : Int) < (ln : Int) := by omega
      subst ea
      clear hy
      by_cases hyx : y < x
      · have hyI : (y : Int) < (x : Int) := by omega
        go_wp2_with (go_at_call 79; refine (LE.out y).mono ?_; rintro e v ⟨rfl, hv⟩; rw [hv]; clear hv v)
        go_roundw
        case measure => simp [intOf]; omega
        case rel => exact ⟨h + 1, j, by omega, hj, by simp, rfl, fun k z hk hz => by
          by_cases e : k = h
          · subst e; rw [HY.out] at hz; obtain rfl := Option.some.inj hz; exact hyx
          · have := HS.out.lt (show k < h by omega) hz HY.out; omega, HHI.out, True.intro⟩
      · have hyI : ¬ (y : Int) < (x : Int) := by omega
        go_wp2_with (go_at_call 79; refine (LE.out y).mono ?_; rintro e v ⟨rfl, hv⟩; rw [hv]; clear hv v)
        go_roundw
        case measure => simp [intOf]; omega
        case rel => exact ⟨i, h, hh1, by omega, rfl, rfl, HLO.out, fun k z hk hz => by
          by_cases e : k = h
          · subst e; rw [HY.out] at hz; obtain rfl := Option.some.inj hz; omega
          · have := HS.out.lt (show h < k by omega) HY.out hz; omega, True.intro⟩
    · obtain rfl : i = j := by omega
      have hltI : ¬ (i : Int) < (i : Int) := by omega
      have HSP : Hid (Spot l x i) := ⟨by rw [← Eln.out]; exact hj, HLO.out, HHI.out⟩
      by_cases hin : i < ln
      · have hinI : (i : Int) < (ln : Int) := by omega
        obtain ⟨y, hy⟩ := getElem_lt (show i < l.length by rw [← Eln.out]; omega)
        obtain ⟨b, o, ea, cx⟩ := HR.out i y hy
        have HY := hidden hy
        have HM : Hid (x ∈ l ↔ y = x) := ⟨fun hm => by
          obtain ⟨k, hk⟩ := List.getElem?_of_mem hm
          have h1 := HHI.out i y (Nat.le_refl _) HY.out
          by_cases e : k < i
          · have := HLO.out k x e hk; omega
          · by_cases e2 : k = i
            · subst e2; rw [HY.out] at hk; exact Option.some.inj hk
            · have := HS.out.lt (show i < k by omega) HY.out hk; omega, fun e => by rw [← e]; exact List.mem_of_getElem? HY.out⟩
        subst ea
        clear hy
        by_cases e : y = x
        · have eI : (y : Int) = (x : Int) := by omega
          have HM2 : Hid (x ∈ l) := HM.out.2 e
          clear HM
          subst e
          go_wp2
          go_ret2
          exact ⟨i, HSP.out, by rw [decide_eq_true HM2.out]; rfl, rfl⟩
        · have eI : ¬ (y : Int) = (x : Int) := by omega
          have HM2 : Hid (x ∉ l) := fun h => e (HM.out.1 h)
          have eb : ((y : Int) == (x : Int)) = false := beq_eq_false_iff_ne.2 eI
          clear HM e
          go_wp2_with (go_at_call 80; refine (NA.out y).mono ?_; rintro e v ⟨rfl, hv⟩; rw [hv]; clear hv v)
          go_ret2
          exact ⟨i, HSP.out, by rw [decide_eq_false HM2.out]; rfl, rfl⟩
      · obtain rfl : i = ln := by omega
        have HM2 : Hid (x ∉ l) := fun hm => by
          obtain ⟨k, hk⟩ := List.getElem?_of_mem hm
          have h1 := (List.getElem?_eq_some_iff.1 hk).1
          have := HLO.out k x (by have := Eln.out; omega) hk
          omega
        go_wp2
        go_ret2
        exact ⟨i, HSP.out, by rw [decide_eq_false HM2.out]; rfl, rfl⟩
end Go.Proofs.Ytlaljeobdddegaa
