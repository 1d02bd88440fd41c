import Derived.Test.YtnooojmnaglboaaAhR
namespace Go.Proofs.Ytnooojmnaglboaa
open Go.RowKit

set_option maxRecDepth 100000 in
set_option maxHeartbeats 16000000 in
/-- the document's Hashed, where each gate is as it should be -/
theorem refHashed_any (B : Nat) (w : World) (T : GrS) (H : GrD) (h : GrAt B w T H) (hB : B ≤ w.heap.size) (first : Nat) (hs : HsOk first H.ands) (hlen : first + H.ands.length ≤ 60000) :
    Calls Try.prog 8 #[.agg (T.cells H)] w fun e w' => e = .returned (.bool true) ∧ Below w.heap.size w w' := by
  have HAT := hidden h
  have HHS := hidden hs
  have HZ : Hid (∀ (k : Nat) (d : AndD), H.ands[k]? = some d → (0 ≤ d.x ∧ d.x < 4000000) ∧ (0 ≤ d.y ∧ d.y < 4000000)) := fun k d hd => by
    have := HHS.out.low k d hd
    have := (List.getElem?_eq_some_iff.1 hd).1
    omega
  clear h hs
  unfold GrS.cells
  go_enter Try.func8, Try.ntmps8
  go_upto_block 0 with fail
  generalize hW0 : World.alloc w _ = w0
  have HB0 : Hid (Below w.heap.size w w0) := by rw [← hW0]; exact (Below.refl _ _).alloc (Nat.le_refl _) _
  have q2 : w0.cell? ⟨w.heap.size, 2, none⟩ = some (.slice T.a2 H.ands.length T.c2) := by rw [← hW0]; exact cell_new rfl
  have hs0 : w.heap.size < w0.heap.size := by rw [← hW0]; simp
  clear hW0
  go_wp2_with fail
  go_loopw [3] (fun i' w' => ∃ (k : Nat), k ≤ H.ands.length ∧ i' = .int .i64 k ∧ Hid (Below w0.heap.size w0 w')) (fun i' _ => H.ands.length - (intOf i').toNat)
  case atStart => exact ⟨0, Nat.zero_le _, rfl, Below.refl _ _⟩
  case round =>
    obtain ⟨k, hk, rfl, HBr⟩ := hrel
    have q2R := (HBr.out.cell (p := ⟨w.heap.size, 2, none⟩) hs0).trans q2
    have hsr := HBr.out.size
    have HBwr : Hid (Below w.heap.size w wr) := HB0.out.trans (HBr.out.mono (by omega))
    by_cases hlt : k < H.ands.length
    · obtain ⟨z, hz⟩ : ∃ z, H.ands[k]? = some z := getElem_lt hlt
      obtain ⟨rb, ro, ea, hrb, hrc⟩ := (HAT.out.to (HBwr.out.mono hB)).a.el hz
      have hzr := HZ.out k _ hz
      have hlo := HHS.out.low k _ hz
      have HDK : Hid (∀ (j : Nat) (d : AndD), j < k → H.ands[j]? = some d → ¬ (d.x = z.x ∧ d.y = z.y)) := fun j d hj hd e => by
        have := HHS.out.one j k d z hd hz e.1 e.2
        omega
      obtain ⟨x, y⟩ := z
      have c1 : wr.cell? ⟨rb, ro + k * 2, none⟩ = some (.int .i64 x) := hrc 0 _ rfl
      have c2 : wr.cell? ⟨rb, ro + k * 2 + 1, none⟩ = some (.int .i64 y) := hrc 1 _ rfl
      simp only at hzr hlo HDK
      have q2S := q2R
      rw [ea] at q2S
      have hltI : (k : Int) < (H.ands.length : Int) := by omega
      have e3 : IntKind.i64.wrap ((k : Int) + 1) = (k : Int) + 1 := wrapI _ (by omega) (by omega)
      have n1 : ¬ (y < 2) := by omega
      have n2 : ¬ (x ≤ y) := by omega
      have p1 : Int.tdiv x 2 = x / 2 := by rw [Int.tdiv_eq_ediv_of_nonneg hzr.1.1]
      have p2 : Int.tdiv y 2 = y / 2 := by rw [Int.tdiv_eq_ediv_of_nonneg hzr.2.1]
      have p3 : IntKind.i64.wrap (x / 2) = x / 2 := wrapI _ (by omega) (by omega)
      have p4 : IntKind.i64.wrap (y / 2) = y / 2 := wrapI _ (by omega) (by omega)
      have n3 : (x / 2 == y / 2) = false := by have := hlo.2.2.1; simpa using this
      clear hrc hz
      go_upto_region 5 with fail
      generalize hWA : World.alloc wr _ = wA
      obtain ⟨kb, hkb⟩ : ∃ x, x = wr.heap.size := ⟨_, rfl⟩
      have HBA : Hid (Below wr.heap.size wr wA) := by rw [← hWA]; exact (Below.refl _ _).alloc (Nat.le_refl _) _
      have hkA : kb < wA.heap.size := by rw [← hWA, hkb]; simp
      have hc0 : wA.cell? ⟨kb, 0, none⟩ = some (.int .i64 x) := by rw [← hWA, hkb]; exact cell_new rfl
      have hc1 : wA.cell? ⟨kb, 1, none⟩ = some (.int .i64 y) := by rw [← hWA, hkb]; exact cell_new rfl
      rw [← hkb]
      have hkr : wr.heap.size ≤ kb := by omega
      clear hkb hWA
      have hsA := HBA.out.size
      have HB0A : Hid (Below w0.heap.size w0 wA) := HBr.out.trans (HBA.out.mono hsr)
      have HBwA : Hid (Below B w wA) := (HB0.out.trans (HB0A.out.mono (by omega))).mono hB
      have q2A := (HB0A.out.cell (p := ⟨w.heap.size, 2, none⟩) hs0).trans q2
      clear c1 c2 q2S
      go_upto_block 2 with fail
      refine hdIn wA H.ands B k w.heap.size kb T.a2 T.c2 x y q2A (by omega) hc0 hc1 hkA (HAT.out.to HBwA.out).a (by omega) hlt (by omega) HDK HZ hzr.1 hzr.2 _ _ _ _ _ _ _ _ _ _ _ _ _ _ _ _ _ _ _ _ _ _ _ _ _ _ _ _ _ _ _ _ _ _ _ _ _ _ _ _ _ _ _ _ _ _ (hidden ?_)
      intro w2 v2 v5 v37 v38 v39 v40 v41 v42 v43 v44 v45 v46 v47 v48 hcut
      have HBn : Hid (Below w0.heap.size w0 w2) := HB0A.out.trans (hcut.mono (by omega))
      clear hcut hc0 hc1 q2A q2R HDK
      go_wp2
      go_roundw
      case measure => simp [intOf]; omega
      case rel => exact ⟨k + 1, by omega, by simp, HBn.out⟩
    · have hge : ¬ ((k : Int) < (H.ands.length : Int)) := by omega
      go_wp2
      go_ret
      exact ⟨rfl, HBwr.out⟩

end Go.Proofs.Ytnooojmnaglboaa
