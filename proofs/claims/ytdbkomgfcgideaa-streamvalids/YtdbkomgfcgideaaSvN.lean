import Derived.Test.YtdbkomgfcgideaaSvM
import Derived.Test.YtdbkomgfcgideaaSvB
namespace Go.Proofs.Ytdbkomgfcgideaa
open Go.RowKit Go.Shelf

/-- as many columns, cells, registers, outputs as the shape says -/
def compOk (N : CnD) : Bool := N.cols.all (fun d => decide ((d.cs.length : Int) = N.sh.rows)) && N.lens

set_option maxRecDepth 100000 in
set_option maxHeartbeats 16000000 in
theorem isComplete_any (B : Nat) (w : World) (S : CnS) (N : CnD) (p : Nat) (h : CnAt B w S N) (hp : BoxAt w p S N) :
    Calls Try.prog 8 #[.pointer (some ⟨p, 0, none⟩)] w fun e w' => e = .returned (.bool (compOk N)) ∧ Below w.heap.size w w' := by
  have HCO : Hid (compOk N = (N.cols.all (fun d => decide ((d.cs.length : Int) = N.sh.rows)) && (decide ((N.cols.length : Int) = N.sh.cols) && decide ((N.regs.length : Int) = N.sh.regs) && decide ((N.outs.length : Int) = N.sh.outs)))) := rfl
  obtain ⟨r, HR⟩ : ∃ r, Hid (compOk N = r) := ⟨_, rfl⟩
  rw [HR.out] at HCO ⊢
  have HH := hidden h
  have HP := hidden hp
  have l1 := h.lc
  simp only [big] at l1
  obtain ⟨lt, c0, c1, c2, c3, c4, c5, c6, c7⟩ := hp
  clear h lt
  go_enter Try.func8, Try.ntmps8
  go_wp2_with fail
  go_loopw [10] (fun i' w' => ∃ (k : Nat), k ≤ N.cols.length ∧ i' = .int .i64 k ∧ Hid ((N.cols.take k).all (fun d => decide ((d.cs.length : Int) = N.sh.rows)) = true) ∧ Hid (w' = w)) (fun i' _ => N.cols.length - (intOf i').toNat)
  case atStart => exact ⟨0, Nat.zero_le _, rfl, rfl, rfl⟩
  case round =>
    obtain ⟨k, hk, rfl, HA, HW⟩ := hrel
    rw [← HW.out] at c0 c1 c2 c3 c4 c5 c6 c7
    by_cases hlt : k < N.cols.length
    · have hltI : (k : Int) < (N.cols.length : Int) := by omega
      obtain ⟨d, hd⟩ := getElem_lt hlt
      obtain ⟨b, o, ea, hlb, hc⟩ := HH.out.c.el hd
      have HD := hidden hd
      have e2 : IntKind.i64.wrap ((k : Int) + 1) = (k : Int) + 1 := wrapI _ (by omega) (by omega)
      have cc : wr.cell? ⟨b, o + k, none⟩ = some (.slice d.a d.cs.length d.c) := by rw [HW.out]; exact ((congrArg (fun m => w.cell? ⟨b, o + m, none⟩) (Nat.mul_one k).symm).trans (hc 0 _ rfl))
      rw [ea]
      clear hd hc hlb ea
      by_cases hq : (d.cs.length : Int) = N.sh.rows
      · have hne : ((d.cs.length : Int) != N.sh.rows) = false := by simp [hq]
        have HN1 := hidden (show (N.cols.take (k + 1)).all (fun d => decide ((d.cs.length : Int) = N.sh.rows)) = true by rw [all_next _ _ k _ HD.out, HA.out]; simp [hq])
        clear hq
        generalize d.cs.length = dl at *
        go_wp2
        go_roundw
        case measure => simp [intOf]; omega
        case rel => exact ⟨k + 1, by omega, by simp, HN1.out, HW.out⟩
      · have hne : ((d.cs.length : Int) != N.sh.rows) = true := by simp [hq]
        have HF := hidden (show r = false by rw [HCO.out, show N.cols.all (fun d => decide ((d.cs.length : Int) = N.sh.rows)) = false from List.all_eq_false.2 ⟨d, List.mem_of_getElem? HD.out, by simp [hq]⟩]; rfl)
        clear hq
        generalize d.cs.length = dl at *
        go_wp2
        go_ret
        exact ⟨ret_bool HF.out.symm, by rw [HW.out]; exact Below.refl _ _⟩
    · have hge : ¬ ((k : Int) < (N.cols.length : Int)) := by omega
      have HT := HA.out
      rw [List.take_of_length_le (by omega)] at HT
      rw [HT, Bool.true_and] at HCO
      clear HT
      have HBq : Hid (∀ q, Below w.heap.size w (wr.drewN q)) := fun q => by rw [HW.out]; exact Below.drewN (Below.refl _ _) q
      have HE1 : Hid (((N.cols.length : Int) == N.sh.cols) = decide ((N.cols.length : Int) = N.sh.cols)) := rfl
      have HE2 : Hid (((N.regs.length : Int) == N.sh.regs) = decide ((N.regs.length : Int) = N.sh.regs)) := rfl
      have HE3 : Hid (((N.outs.length : Int) == N.sh.outs) = decide ((N.outs.length : Int) = N.sh.outs)) := rfl
      rw [← HE1.out, ← HE2.out, ← HE3.out] at HCO
      clear HE1 HE2 HE3
      cases h1 : ((N.cols.length : Int) == N.sh.cols)
      · have HF := hidden (show r = false by rw [HCO.out, h1]; rfl)
        clear HCO
        go_upto_region 7 with fail
        go_quiet (fail)
        go_wp2
        go_ret
        exact ⟨ret_bool HF.out.symm, HBq.out _⟩
      · cases h2 : ((N.regs.length : Int) == N.sh.regs)
        · have HF := hidden (show r = false by rw [HCO.out, h1, h2]; rfl)
          clear HCO
          go_upto_region 7 with fail
          go_quiet (fail)
          go_wp2
          go_ret
          exact ⟨ret_bool HF.out.symm, HBq.out _⟩
        · have HF := hidden (show r = ((N.outs.length : Int) == N.sh.outs) by rw [HCO.out, h1, h2]; rfl)
          clear HCO
          go_upto_region 7 with fail
          go_quiet (fail)
          go_wp2
          go_ret
          exact ⟨ret_bool HF.out.symm, HBq.out _⟩

end Go.Proofs.Ytdbkomgfcgideaa
