import Derived.Test.YtibjgoigdajkkaaDoorJ10
namespace Go.Proofs.YtibjgoigdajkkaaDoor
open Go.RowKit

theorem grown_drew (a : World) (row : Option Nat) : a.grownBy a.drew row := ⟨rfl, rfl, rfl, Nat.le_refl _, fun _ _ _ => rfl⟩
theorem grown_drewN {a b : World} {row : Option Nat} (h : a.grownBy b row) (n : Nat) : a.grownBy (b.drewN n) row := ⟨h.os, h.tape, h.output, h.size, h.block⟩
theorem grown_setCell (w : World) (g j : Nat) (u : Value) : w.grownBy (w.setCell ⟨g, j, none⟩ u) (some g) :=
  ⟨rfl, rfl, rfl, by simp, fun k _ hk => heap_setCell_other w ⟨g, j, none⟩ k u (fun e => hk (by simp [e]))⟩
theorem BoxAt.grown {w w' : World} {p g : Nat} {S : NtS} {N : NtD} (h : BoxAt w p S N) (hg : w.grownBy w' (some g)) (hne : p ≠ g) : BoxAt w' p S N :=
  ⟨Nat.lt_of_lt_of_le h.lt hg.size, hg.cell h.c0 (by intro e; cases e; exact hne rfl), hg.cell h.c1 (by intro e; cases e; exact hne rfl), hg.cell h.c2 (by intro e; cases e; exact hne rfl), hg.cell h.c3 (by intro e; cases e; exact hne rfl), hg.cell h.c4 (by intro e; cases e; exact hne rfl)⟩
set_option maxRecDepth 100000 in
set_option maxHeartbeats 8000000 in
theorem deepOne_any (B : Nat) (w : World) (pd g nn : Nat) (D : List Int) (la : Option Addr) (lc : Nat) (l : List Int) (cp : w.cell? ⟨pd, 0, none⟩ = some (.slice (some ⟨g, 0, none⟩) nn nn)) (R : RowAt B w la 1 (l.map intC)) (hC : ∀ s, s ∈ l → 0 ≤ s ∧ s < (nn : Int) ∧ w.cell? ⟨g, s.toNat, none⟩ = some (.int .i64 (D.getD s.toNat 0))) (hl : l.length ≤ 17592186044416) :
    Calls Tryd.prog 67 #[.slice la l.length lc, .pointer (some ⟨pd, 0, none⟩)] w fun e w' => e = .returned (.int .i64 (maxD D l)) ∧ w' = w := by
  have HR := hidden R
  have HC := hidden hC
  have HCP := hidden cp
  obtain ⟨r, HRR⟩ : ∃ r, Hid (r = maxD D l) := ⟨_, rfl⟩
  rw [← HRR.out]
  obtain ⟨ln, HLN⟩ : ∃ n, Hid (n = l.length) := ⟨_, rfl⟩
  rw [← HLN.out] at hl
  rw [← HLN.out]
  clear R hC cp
  go_enter Tryd.func67, Tryd.ntmps67
  go_wp2_with fail
  go_loopw [4, 9] (fun m' i' w' => ∃ (k : Nat) (m : Int), k ≤ ln ∧ i' = .int .i64 k ∧ m' = .int .i64 m ∧ Hid (m = maxD D (l.take k)) ∧ Hid (w' = w)) (fun _ i' _ => ln - (intOf i').toNat)
  case atStart => exact ⟨0, 0, Nat.zero_le _, rfl, rfl, rfl, rfl⟩
  case round =>
    obtain ⟨k, m, hk, rfl, rfl, HMX, HW⟩ := hrel
    have cp : wr.cell? ⟨pd, 0, none⟩ = some (.slice (some ⟨g, 0, none⟩) nn nn) := by rw [HW.out]; exact HCP.out
    by_cases hlt : k < ln
    · have hltI : (k : Int) < (ln : Int) := by omega
      obtain ⟨s, hs⟩ := getElem_lt (show k < l.length by rw [← HLN.out]; exact hlt)
      obtain ⟨b, o, ea, hlb, hc⟩ := HR.out.int hs
      have c0 : wr.cell? ⟨b, o + k, none⟩ = some (.int .i64 s) := by rw [HW.out]; exact hc
      obtain ⟨hs0, hs1, hcd⟩ := HC.out s (List.mem_of_getElem? hs)
      have cd : wr.cell? ⟨g, s.toNat, none⟩ = some (.int .i64 (D.getD s.toNat 0)) := by rw [HW.out]; exact hcd
      have HNX : Hid (maxD D (l.take (k + 1)) = mostI m (D.getD s.toNat 0)) := by
        show _ = _
        rw [take_next _ k _ hs, maxD_snoc, HMX.out]
      have e2 : IntKind.i64.wrap ((k : Int) + 1) = (k : Int) + 1 := wrapI _ (by omega) (by omega)
      subst ea
      generalize D.getD s.toNat 0 = ds at *
      clear hs hc hcd hlb HMX
      unfold mostI at HNX
      by_cases hgt : ds > m
      · rw [if_pos hgt] at HNX
        have hgt' : m < ds := hgt
        go_wp2
        go_roundw
        case measure => simp [intOf]; omega
        case rel => exact ⟨k + 1, ds, by omega, by simp, rfl, HNX.out.symm, HW.out⟩
      · rw [if_neg hgt] at HNX
        have hgt' : ¬ m < ds := hgt
        go_wp2
        go_roundw
        case measure => simp [intOf]; omega
        case rel => exact ⟨k + 1, m, by omega, by simp, rfl, HNX.out.symm, HW.out⟩
    · have hge : ¬ ((k : Int) < (ln : Int)) := by omega
      have HF : Hid (m = r) := by
        have := HMX.out
        rw [List.take_of_length_le (by have := HLN.out; omega)] at this
        show _ = _
        rw [this, HRR.out]
      clear HMX
      go_wp2
      go_ret
      exact ⟨ret_int HF.out, HW.out⟩


end Go.Proofs.YtibjgoigdajkkaaDoor
