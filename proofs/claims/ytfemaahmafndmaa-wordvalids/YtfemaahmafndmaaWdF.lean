import Derived.Test.YtfemaahmafndmaaWdD
import Derived.Test.YtfemaahmafndmaaWdE
namespace Go.Proofs.Ytfemaahmafndmaa
open Go.RowKit

theorem sum_take (ws : List Int) (k : Nat) (hk : k < ws.length) : (ws.take (k + 1)).sum = (ws.take k).sum + at0 ws k := by
  rw [List.take_add_one, List.sum_append, at0, List.getElem?_eq_getElem hk]
  simp
theorem sum_bound (ws : List Int) (h : ∀ x, x ∈ ws → 1 ≤ x ∧ x ≤ 32) (k : Nat) : 0 ≤ (ws.take k).sum ∧ (ws.take k).sum ≤ 32 * (k : Int) := by
  induction ws generalizing k with
  | nil => simp; omega
  | cons a l ih =>
    cases k with
    | zero => simp
    | succ k =>
      have := ih (fun x hx => h x (List.mem_cons_of_mem _ hx)) k
      have := h a List.mem_cons_self
      simp only [List.take_succ_cons, List.sum_cons]; push_cast; omega

set_option maxHeartbeats 4000000 in
theorem fits_cat (w : World) (width num : Int) (aa : Option Addr) (al ac : Nat) (b o : Nat) (hb : b < w.heap.size) (ws : List Int) (cw : Nat) (hws : Hid (∀ x, x ∈ ws → 1 ≤ x ∧ x ≤ 32)) (hl : ws.length < big)
    (hc : Hid (∀ i, i < ws.length → w.cell? ⟨b, o + i, none⟩ = some (.int .i64 (at0 ws i)))) :
    Calls Try.prog 31 #[.agg #[.int .i64 7, .int .i64 width, .int .u64 num, .slice aa al ac], .slice (some ⟨b, o, none⟩) ws.length cw] w fun e w' => e = .returned (.bool (decide (ws.sum = width))) ∧ Below w.heap.size w w' := by
  have hl' : (ws.length : Int) < 17592186044416 := by have := hl; simp only [big] at this; omega
  clear hl
  go_enter Try.func31, Try.ntmps31
  go_wp2_with fail
  generalize hW : w.alloc (.cells #[.int .i64 7, .int .i64 width, .int .u64 num, .slice aa al ac] 41) = W
  have HB : Hid (Below w.heap.size w W) := by rw [← hW]; exact (Below.refl _ _).alloc (Nat.le_refl _) _
  have q1 : W.cell? ⟨w.heap.size, 1, none⟩ = some (.int .i64 width) := by rw [← hW]; simp
  have HC : Hid (∀ i, i < ws.length → W.cell? ⟨b, o + i, none⟩ = some (.int .i64 (at0 ws i))) := fun i hi => (HB.out.cell (p := ⟨b, o + i, none⟩) hb).trans (hc.out i hi)
  clear hW
  go_loopw [5, 6] (fun s i w' => ∃ (k : Nat) (t : Int), k ≤ ws.length ∧ i = .int .i64 k ∧ s = .int .i64 t ∧ Hid (t = (ws.take k).sum) ∧ w' = W) (fun _ i _ => ws.length - (intOf i).toNat)
  case atStart => exact ⟨0, 0, Nat.zero_le _, rfl, rfl, by show _ = _; simp, rfl⟩
  case round =>
    obtain ⟨k, t, hk, rfl, rfl, HT, rfl⟩ := hrel
    have ht := sum_bound ws hws.out k
    rw [← HT.out] at ht
    by_cases hlt : k < ws.length
    · have c := HC.out k hlt
      have hx := hws.out (at0 ws k) (by simp [at0, List.getElem?_eq_getElem hlt])
      have hs := sum_take ws k hlt
      generalize at0 ws k = x at c hx hs
      have HS : Hid ((ws.take (k + 1)).sum = t + x) := by show _ = _; rw [hs, HT.out]
      clear hs HT
      have hltI : (k : Int) < (ws.length : Int) := by omega
      have e1 : IntKind.i64.wrap (t + x) = t + x := wrapI _ (by omega) (by omega)
      have e2 : IntKind.i64.wrap ((k : Int) + 1) = (k : Int) + 1 := wrapI _ (by omega) (by omega)
      go_wp2
      go_roundw
      case measure => simp [intOf]; omega
      case rel => exact ⟨k + 1, t + x, by omega, by simp, rfl, HS.out.symm, trivial⟩
    · have hge : ¬ ((k : Int) < (ws.length : Int)) := by omega
      have HS : Hid (t = ws.sum) := by show _ = _; rw [HT.out, List.take_of_length_le (by omega)]
      clear HT
      go_wp2
      go_ret
      refine ⟨?_, HB.out⟩
      rw [← HS.out]
      first | rfl | exact ret_bool (by rw [Bool.eq_iff_iff]; simp)

theorem fits_any (w : World) (kind width num : Int) (hw0 : 1 ≤ width) (hw1 : width ≤ 32) (hn : 0 ≤ num) (aa : Option Addr) (al ac : Nat) (aw : Option Addr) (ws : List Int) (cw : Nat) (hr : RowAt w.heap.size w aw 1 (ws.map intC))
    (hws : ∀ x, x ∈ ws → 1 ≤ x ∧ x ≤ 32) (hl : ws.length < big) (h1 : 0 ≤ wantOf kind → (ws.length : Int) = wantOf kind) (h2 : wantOf kind = -1 → ws ≠ []) :
    Calls Try.prog 31 #[.agg #[.int .i64 kind, .int .i64 width, .int .u64 num, .slice aa al ac], .slice aw ws.length cw] w fun e w' => e = .returned (.bool (fitsOf kind width num ws)) ∧ Below w.heap.size w w' := by
  have cell0 : ∀ n, 0 < n → ws.length = n → ∃ b o, aw = some ⟨b, o, none⟩ ∧ b < w.heap.size ∧ ∀ (i : Nat), i < ws.length → w.cell? ⟨b, o + i, none⟩ = some (.int .i64 (at0 ws i)) := fun n h0 e => hr.int (i := 0) (by omega)
  rcases fits_cases kind with h | ⟨n1, n2, n3, n4, n5, n6, n7, n8, n9, n10, n11, n12, n13, n14, n15, n16, n17, n18⟩
  · rcases h with rfl | rfl | h | h | h | h | h | rfl | rfl
    · have e := h1 (by decide)
      obtain ⟨b, o, rfl, hb, hc⟩ := cell0 1 (by decide) (by simp [wantOf] at e; omega)
      have hx := hws (at0 ws 0) (by have : 0 < ws.length := by simp [wantOf] at e; omega
                                    simp [at0, List.getElem?_eq_getElem this])
      exact fits_slice w width num hn hw0 hw1 aa al ac b o hb _ hx.1 hx.2 _ cw (by simp [wantOf] at e; omega) (hc 0 (by simp [wantOf] at e; omega))
    · have e := h2 (by decide)
      have hp : 0 < ws.length := List.length_pos_iff.2 e
      obtain ⟨b, o, rfl, hb, hc⟩ := cell0 ws.length hp rfl
      exact fits_cat w width num aa al ac b o hb ws cw hws hl hc
    · subst h
      have e := h1 (by decide)
      obtain ⟨b, o, rfl, hb, hc⟩ := cell0 1 (by decide) (by simp [wantOf] at e; omega)
      exact fits_one w _ width num aa al ac (.inl rfl) b o hb _ _ cw (by simp [wantOf] at e; omega) (hc 0 (by simp [wantOf] at e; omega))
    · have e : fitsOf kind width num ws = decide (width = 1) := by rcases h with rfl | rfl | rfl <;> rfl
      rw [e]; exact fits_width w kind width num aa al ac h aw _ cw
    · have e : wantOf kind = 2 := by rcases h with rfl | rfl | rfl | rfl | rfl | rfl <;> rfl
      have e2 := h1 (by rw [e]; decide)
      rw [e] at e2
      obtain ⟨b, o, rfl, hb, hc⟩ := cell0 2 (by decide) (by omega)
      have e3 : fitsOf kind width num ws = decide (at0 ws 0 = width ∧ at0 ws 1 = width) := by rcases h with rfl | rfl | rfl | rfl | rfl | rfl <;> rfl
      rw [e3]
      exact fits_two w kind width num aa al ac h b o hb _ _ _ cw (by omega) (hc 0 (by omega)) (hc 1 (by omega))
    · have e : wantOf kind = 2 := by rcases h with rfl | rfl <;> rfl
      have e2 := h1 (by rw [e]; decide)
      rw [e] at e2
      obtain ⟨b, o, rfl, hb, hc⟩ := cell0 2 (by decide) (by omega)
      have e3 : fitsOf kind width num ws = decide (at0 ws 0 = width) := by rcases h with rfl | rfl <;> rfl
      rw [e3]
      exact fits_one w kind width num aa al ac (.inr h) b o hb _ _ cw (by omega) (hc 0 (by omega))
    · have e : wantOf kind = 2 := by rcases h with rfl | rfl <;> rfl
      have e2 := h1 (by rw [e]; decide)
      rw [e] at e2
      obtain ⟨b, o, rfl, hb, hc⟩ := cell0 2 (by decide) (by omega)
      have e3 : fitsOf kind width num ws = decide (at0 ws 0 = at0 ws 1 ∧ width = 1) := by rcases h with rfl | rfl <;> rfl
      rw [e3]
      exact fits_same w kind width num aa al ac h b o hb _ _ _ cw (by omega) (hc 0 (by omega)) (hc 1 (by omega))
    · have e : wantOf 22 = 3 := rfl
      have e2 := h1 (by rw [e]; decide)
      rw [e] at e2
      obtain ⟨b, o, rfl, hb, hc⟩ := cell0 3 (by decide) (by omega)
      exact fits_if w width num aa al ac b o hb _ _ _ _ cw (by omega) (by omega) (hc 0 (by omega)) (hc 1 (by omega)) (hc 2 (by omega))
    · have hw : width = ((width.toNat : Nat) : Int) := by omega
      have e : fitsOf 1 width num ws = decide (num ≤ ((2 ^ width.toNat : Nat) : Int) - 1) := rfl
      rw [e]
      have := fits_num w width.toNat num (by omega) (by omega) aa al ac aw ws.length cw
      rw [← hw] at this
      exact this
  · have e : fitsOf kind width num ws = true := by
      unfold fitsOf
      rw [if_neg n1, if_neg n2, if_neg n3, if_neg (by omega), if_neg (by omega), if_neg (by omega), if_neg (by omega), if_neg n17, if_neg n18]
    rw [e]
    exact fits_other w kind width num aa al ac n1 n2 n3 n4 n5 n6 n7 n8 n9 n10 n11 n12 n13 n14 n15 n16 n17 n18 aw _ cw

end Go.Proofs.Ytfemaahmafndmaa
