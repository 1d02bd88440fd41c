import Derived.Test.YtfemaahmafndmaaWdS2
import Derived.Test.YtfemaahmafndmaaWdS3
import Derived.Test.YtfemaahmafndmaaWdS4
import Derived.Test.YtfemaahmafndmaaWdS5
import Derived.Test.YtfemaahmafndmaaWdT
namespace Go.Proofs.Ytfemaahmafndmaa
open Go.RowKit

theorem wsOf_length (N : NetD) (l : List Int) : (wsOf N l).length = l.length := by simp [wsOf]
theorem lenOf {d : NodeD} (ho : ¬ nodeOut d) {n : Int} (hn : wantOf d.kind = n) (h0 : 0 ≤ n) : (d.args.length : Int) = n := by
  rcases Int.lt_or_gt_of_ne (a := (d.args.length : Int)) (b := n) |> fun f => Classical.em ((d.args.length : Int) = n) with h | h
  · exact h
  · exact absurd (.inr (.inr (.inl ⟨by omega, by rw [hn]; exact h⟩))) ho
theorem widthOf {d : NodeD} (ho : ¬ nodeOut d) : widthOk d.width = true := by
  cases h : widthOk d.width with
  | true => rfl
  | false => exact absurd (.inl h) ho

theorem numFits_any (B : Nat) (w : World) (cb : Nat) (S : NetS) (N : NetD) (h : CkAt B w cb S N) (hB : B ≤ w.heap.size) (nb no : Nat) (d : NodeD) (hd : NdAt B w N nb no d) (ho : ¬ nodeOut d) (hin : ∀ a, a ∈ d.args → 0 ≤ a ∧ a < (N.nodes.length : Int)) (hws : ∀ x, x ∈ wsOf N d.args → 1 ≤ x ∧ x ≤ 32) :
    Calls Try.prog 26 #[ckV cb, .pointer (some ⟨nb, no, none⟩)] w fun e w' => e = .returned (.bool (numOf N d)) ∧ Below w.heap.size w w' := by
  have hw := widthOf ho
  by_cases h1 : d.kind = 1
  · have e : numOf N d = decide (d.num ≤ maskN d.width) := by unfold numOf; rw [if_pos h1]
    rw [e]; exact nf_num B w cb S N h hB nb no d hd h1 hw
  · by_cases h5 : d.kind = 5
    · have e : numOf N d = decide (d.width ≤ at0 (wsOf N d.args) 0 ∧ d.num ≤ at0 (wsOf N d.args) 0 - d.width) := by unfold numOf; rw [if_neg h1, if_pos h5]
      have hl := lenOf ho (n := 1) (by rw [h5]; rfl) (by decide)
      have hl' : 0 < d.args.length := by omega
      rw [e]; exact nf_slice B w cb S N h hB nb no d hd h5 hw (by omega) (hin _ (List.mem_of_getElem? (at0_of hl'))) (hws _ (List.mem_of_getElem? (at0_of (by rw [wsOf_length]; exact hl'))))
    · by_cases h30 : d.kind = 30
      · have e : numOf N d = decide (d.num < (N.ins.length : Int) ∧ at0 N.ins d.num.toNat = d.width) := by unfold numOf; rw [if_neg h1, if_neg h5, if_pos h30]
        rw [e]; exact nf_in B w cb S N h hB nb no d hd h30
      · by_cases h31 : d.kind = 31
        · have e : numOf N d = decide (d.num < (N.regs.length : Int) ∧ ((N.regs[d.num.toNat]?.map RegD.width).getD 0) = d.width) := by unfold numOf; rw [if_neg h1, if_neg h5, if_neg h30, if_pos h31]
          rw [e]; exact nf_reg B w cb S N h hB nb no d hd h31
        · by_cases h32 : d.kind = 32
          · have e : numOf N d = decide (d.num < (N.mems.length : Int) ∧ ((N.mems[d.num.toNat]?.map MemD.width).getD 0) = d.width) := by unfold numOf; rw [if_neg h1, if_neg h5, if_neg h30, if_neg h31, if_pos h32]
            rw [e]; exact nf_mem B w cb S N h hB nb no d hd h32
          · have e : numOf N d = decide (d.num = 0) := by unfold numOf; rw [if_neg h1, if_neg h5, if_neg h30, if_neg h31, if_neg h32]
            rw [e]; exact nf_other B w cb S N h hB nb no d hd ⟨h1, h5, h30, h31, h32⟩

theorem widthsFit_any (B : Nat) (w : World) (cb : Nat) (S : NetS) (N : NetD) (h : CkAt B w cb S N) (hB : B ≤ w.heap.size) (nb no : Nat) (d : NodeD) (hd : NdAt B w N nb no d) (ho : ¬ nodeOut d) (hin : ∀ a, a ∈ d.args → 0 ≤ a ∧ a < (N.nodes.length : Int)) (hws : ∀ x, x ∈ wsOf N d.args → 1 ≤ x ∧ x ≤ 32) :
    Calls Try.prog 27 #[ckV cb, .pointer (some ⟨nb, no, none⟩)] w fun e w' => e = .returned (.bool (fitW d.kind d.width (wsOf N d.args))) ∧ Below w.heap.size w w' := by
  by_cases k1 : d.kind = 8 ∨ d.kind = 18 ∨ d.kind = 19
  · have e : fitW d.kind d.width (wsOf N d.args) = decide (at0 (wsOf N d.args) 0 = d.width) := by unfold fitW; rw [if_pos k1]
    have hl : 0 < d.args.length := by
      rcases k1 with k | k | k
      · have := lenOf ho (n := 1) (by rw [k]; rfl) (by decide); omega
      · have := lenOf ho (n := 2) (by rw [k]; rfl) (by decide); omega
      · have := lenOf ho (n := 2) (by rw [k]; rfl) (by decide); omega
    rw [e]; exact wf_one B w cb S N h hB nb no d hd hin k1 hl
  · by_cases k2 : 12 ≤ d.kind ∧ d.kind ≤ 17
    · have e : fitW d.kind d.width (wsOf N d.args) = decide (at0 (wsOf N d.args) 0 = d.width ∧ at0 (wsOf N d.args) 1 = d.width) := by unfold fitW; rw [if_neg k1, if_pos k2]
      have kk : d.kind = 12 ∨ d.kind = 13 ∨ d.kind = 14 ∨ d.kind = 15 ∨ d.kind = 16 ∨ d.kind = 17 := by omega
      have hl : 1 < d.args.length := by
        have := lenOf ho (n := 2) (by rcases kk with k | k | k | k | k | k <;> rw [k] <;> rfl) (by decide)
        omega
      rw [e]; exact wf_two B w cb S N h hB nb no d hd hin kk hl
    · by_cases k3 : 9 ≤ d.kind ∧ d.kind ≤ 11
      · have e : fitW d.kind d.width (wsOf N d.args) = decide (d.width = 1) := by unfold fitW; rw [if_neg k1, if_neg k2, if_pos k3]
        rw [e]; exact wf_width B w cb S N h hB nb no d hd (by omega)
      · by_cases k4 : d.kind = 20 ∨ d.kind = 21
        · have e : fitW d.kind d.width (wsOf N d.args) = decide (d.width = 1 ∧ at0 (wsOf N d.args) 0 = at0 (wsOf N d.args) 1) := by unfold fitW; rw [if_neg k1, if_neg k2, if_neg k3, if_pos k4]
          have hl : 1 < d.args.length := by
            have := lenOf ho (n := 2) (by rcases k4 with k | k <;> rw [k] <;> rfl) (by decide)
            omega
          rw [e]
          by_cases hw1 : d.width = 1
          · exact wf_same1 B w cb S N h hB nb no d hd hin k4 hw1 hl
          · rw [decide_eq_false (fun hh => hw1 hh.1)]
            exact wf_same0 B w cb S N h hB nb no d hd k4 hw1
        · by_cases k5 : d.kind = 22
          · have e : fitW d.kind d.width (wsOf N d.args) = decide (at0 (wsOf N d.args) 0 = 1 ∧ at0 (wsOf N d.args) 1 = d.width ∧ at0 (wsOf N d.args) 2 = d.width) := by unfold fitW; rw [if_neg k1, if_neg k2, if_neg k3, if_neg k4, if_pos k5]
            have hl := lenOf ho (n := 3) (by rw [k5]; rfl) (by decide)
            rw [e]; exact wf_if B w cb S N h hB nb no d hd hin k5 (by omega)
          · by_cases k6 : d.kind = 7
            · have e : fitW d.kind d.width (wsOf N d.args) = decide ((wsOf N d.args).sum = d.width) := by unfold fitW; rw [if_neg k1, if_neg k2, if_neg k3, if_neg k4, if_neg k5, if_pos k6]
              rw [e]; exact wf_cat B w cb S N h hB nb no d hd hin k6 hws
            · have e : fitW d.kind d.width (wsOf N d.args) = true := by unfold fitW; rw [if_neg k1, if_neg k2, if_neg k3, if_neg k4, if_neg k5, if_neg k6]
              rw [e]; exact wf_other B w cb S N h hB nb no d hd ⟨by omega, by omega, by omega, by omega, by omega, by omega, by omega, by omega, by omega, by omega, by omega, by omega, by omega, by omega, by omega, by omega⟩

theorem nodeEnd_eq (N : NetD) (d : NodeD) (hw : widthOk d.width = true) (h0 : 0 ≤ d.num) : nodeEnd N d = (numOf N d && fitW d.kind d.width (wsOf N d.args)) := by
  have hw' : 1 ≤ d.width ∧ d.width ≤ 32 := by simpa [widthOk] using hw
  obtain ⟨kind, width, num, args, aa, ac⟩ := d
  simp only at *
  generalize hx : wsOf N args = ws
  rcases want_cases kind with hk | hk
  · rcases hk with rfl | rfl | rfl | rfl | rfl | rfl | rfl | rfl | rfl | rfl | rfl | rfl | rfl | rfl | rfl | rfl | rfl | rfl | rfl | rfl | rfl | rfl
    all_goals
      simp only [nodeEnd, numOf, fitsOf, fitW, maskN, hx]
      simp
    all_goals (first | done | rfl | (rw [Bool.eq_iff_iff]; simp; omega) | (rw [Bool.eq_iff_iff]; simp))
  · obtain ⟨h1, h2, h3, h4, h5, h6, h7, h8, h9, h10, h11, h12, h13, h14, h15, h16, h17, h18, h19, h20, h21, h22⟩ := hk
    have e2 : fitW kind width ws = true := by unfold fitW; rw [if_neg (by omega), if_neg (by omega), if_neg (by omega), if_neg (by omega), if_neg (by omega), if_neg (by omega)]
    have e3 : fitsOf kind width num ws = true := by unfold fitsOf; rw [if_neg (by omega), if_neg (by omega), if_neg (by omega), if_neg (by omega), if_neg (by omega), if_neg (by omega), if_neg (by omega), if_neg (by omega), if_neg (by omega)]
    simp only [nodeEnd, numOf, hx]
    rw [e2, e3, if_neg h2, if_neg h3, if_neg h10, if_neg (by omega), if_neg h1, if_neg h4, if_neg h2, if_neg h3, if_neg h10]
    simp

end Go.Proofs.Ytfemaahmafndmaa
