import Derived.Test.YtjbnejjjbdalaaaDoorFcC
namespace Go.Proofs.YtjbnejjjbdalaaaDoor
open Go.RowKit

/-- what the document's reader asks of the head -/
def hd18 (bs : List Nat) : Bool := decide (18 ≤ bs.length) && decide (bs.take 4 = markL) && decide (sumB (crcV (bodyL bs)) = lastL bs)
def BadD (w : World) (e : Ending) (w' : World) : Prop := e = .returned (.tuple #[.agg zeroA, .agg #[.int .i64 18, .int .i64 0]]) ∧ Below w.heap.size w w'

set_option maxRecDepth 100000 in
set_option maxHeartbeats 16000000 in
theorem decode_short (w : World) (a : Option Addr) (c : Nat) (bs : List Nat) (hl : bs.length < 18) :
    Calls Tryd.prog 8 #[.slice a bs.length c] w fun e w' => BadD w e w' := by
  have hlI : (bs.length : Int) < 18 := by omega
  unfold BadD
  go_enter Tryd.func8, Tryd.ntmps8
  go_upto_region 2 with fail
  obtain ⟨h0, e0⟩ : ∃ x, x = w.heap.size := ⟨_, rfl⟩
  obtain ⟨h1, e1⟩ : ∃ x, x = w.heap.size + 1 := ⟨_, rfl⟩
  obtain ⟨h2, e2⟩ : ∃ x, x = w.heap.size + 1 + 1 := ⟨_, rfl⟩
  generalize hX : World.alloc (World.alloc (World.alloc w _) _) _ = X
  have HBX : Hid (Below w.heap.size w X) := by rw [← hX]; exact (((Below.refl _ _).alloc (Nat.le_refl _) _).alloc (by simp) _).alloc (by simp; omega) _
  have HZ0 : Hid (Blk X h0 32 zeroA) := by
    rw [← hX, e0]
    exact ((Blk.new w 32 zeroA).below ((Below.refl _ _).alloc (Nat.le_refl _) _)).below ((Below.refl _ _).alloc (Nat.le_refl _) _)
  have HZ1 : Hid (Blk X h1 40 #[.int .i64 0, .int .i64 0]) := by
    rw [← hX, e1]
    have h := Blk.new (w.alloc (.cells zeroA 32)) 40 #[.int .i64 0, .int .i64 0]
    rw [show (w.alloc (.cells zeroA 32)).heap.size = w.heap.size + 1 by simp] at h
    exact h.below ((Below.refl _ _).alloc (Nat.le_refl _) _)
  have HZ2 : Hid (Blk X h2 40 #[.int .i64 18, .int .i64 0]) := by
    rw [← hX, e2]
    have h := Blk.new ((w.alloc (.cells zeroA 32)).alloc (.cells #[.int .i64 0, .int .i64 0] 40)) 40 #[.int .i64 18, .int .i64 0]
    rw [show ((w.alloc (.cells zeroA 32)).alloc (.cells #[.int .i64 0, .int .i64 0] 40)).heap.size = w.heap.size + 1 + 1 by simp] at h
    exact h
  rw [← e2, ← e1, ← e0]
  have hh01 : h0 ≠ h1 ∧ h0 ≠ h2 ∧ h1 ≠ h2 ∧ w.heap.size ≤ h0 ∧ w.heap.size ≤ h1 ∧ w.heap.size ≤ h2 := by omega
  obtain ⟨n01, n02, n12, g0, g1, g2⟩ := hh01
  clear hX e0 e1 e2
  go_wp2_with fail
  obtain ⟨wd, hwd⟩ : ∃ x, x = X.drew := ⟨_, rfl⟩
  have HD0 : Hid (Blk wd h0 32 zeroA) := by rw [hwd]; exact HZ0.out.drewN 1
  have HD1 : Hid (Blk wd h1 40 #[.int .i64 0, .int .i64 0]) := by rw [hwd]; exact HZ1.out.drewN 1
  have HD2 : Hid (Blk wd h2 40 #[.int .i64 18, .int .i64 0]) := by rw [hwd]; exact HZ2.out.drewN 1
  have HBD : Hid (Below w.heap.size w wd) := by rw [hwd]; exact Below.drew HBX.out
  have HR0 : Hid (Blk (World.setCell (World.setCell (World.setCell (World.setCell (World.setCell (World.setCell (World.setCell (World.setCell wd ⟨h0, 0, none⟩ (.int .i64 0)) ⟨h0, 1, none⟩ (.int .i64 0)) ⟨h0, 2, none⟩ (.int .i64 0)) ⟨h0, 3, none⟩ (.int .i64 0)) ⟨h0, 4, none⟩ (.int .i64 0)) ⟨h0, 5, none⟩ (.slice none 0 0)) ⟨h0, 6, none⟩ (.slice none 0 0)) ⟨h0, 7, none⟩ (.slice none 0 0)) h0 32 zeroA) := (Blk.set (Blk.set (Blk.set (Blk.set (Blk.set (Blk.set (Blk.set (Blk.set HD0.out 0 _) 1 _) 2 _) 3 _) 4 _) 5 _) 6 _) 7 _)
  have HA1 : Hid (Blk (World.setCell (World.setCell (World.setCell (World.setCell (World.setCell (World.setCell (World.setCell (World.setCell wd ⟨h0, 0, none⟩ (.int .i64 0)) ⟨h0, 1, none⟩ (.int .i64 0)) ⟨h0, 2, none⟩ (.int .i64 0)) ⟨h0, 3, none⟩ (.int .i64 0)) ⟨h0, 4, none⟩ (.int .i64 0)) ⟨h0, 5, none⟩ (.slice none 0 0)) ⟨h0, 6, none⟩ (.slice none 0 0)) ⟨h0, 7, none⟩ (.slice none 0 0)) h1 40 #[.int .i64 0, .int .i64 0]) := (But.blk (But.set h0 7 _ _) (But.blk (But.set h0 6 _ _) (But.blk (But.set h0 5 _ _) (But.blk (But.set h0 4 _ _) (But.blk (But.set h0 3 _ _) (But.blk (But.set h0 2 _ _) (But.blk (But.set h0 1 _ _) (But.blk (But.set h0 0 _ _) HD1.out (by omega)) (by omega)) (by omega)) (by omega)) (by omega)) (by omega)) (by omega)) (by omega))
  have HA2 : Hid (Blk (World.setCell (World.setCell (World.setCell (World.setCell (World.setCell (World.setCell (World.setCell (World.setCell wd ⟨h0, 0, none⟩ (.int .i64 0)) ⟨h0, 1, none⟩ (.int .i64 0)) ⟨h0, 2, none⟩ (.int .i64 0)) ⟨h0, 3, none⟩ (.int .i64 0)) ⟨h0, 4, none⟩ (.int .i64 0)) ⟨h0, 5, none⟩ (.slice none 0 0)) ⟨h0, 6, none⟩ (.slice none 0 0)) ⟨h0, 7, none⟩ (.slice none 0 0)) h2 40 #[.int .i64 18, .int .i64 0]) := (But.blk (But.set h0 7 _ _) (But.blk (But.set h0 6 _ _) (But.blk (But.set h0 5 _ _) (But.blk (But.set h0 4 _ _) (But.blk (But.set h0 3 _ _) (But.blk (But.set h0 2 _ _) (But.blk (But.set h0 1 _ _) (But.blk (But.set h0 0 _ _) HD2.out (by omega)) (by omega)) (by omega)) (by omega)) (by omega)) (by omega)) (by omega)) (by omega))
  have HK0 : Hid (Kp [h0, h1] wd (World.setCell (World.setCell (World.setCell (World.setCell (World.setCell (World.setCell (World.setCell (World.setCell wd ⟨h0, 0, none⟩ (.int .i64 0)) ⟨h0, 1, none⟩ (.int .i64 0)) ⟨h0, 2, none⟩ (.int .i64 0)) ⟨h0, 3, none⟩ (.int .i64 0)) ⟨h0, 4, none⟩ (.int .i64 0)) ⟨h0, 5, none⟩ (.slice none 0 0)) ⟨h0, 6, none⟩ (.slice none 0 0)) ⟨h0, 7, none⟩ (.slice none 0 0))) := (((((((((Kp.refl [h0, h1] wd).trans (Kp.set _ _ 0 _ _ (by simp))).trans (Kp.set _ _ 1 _ _ (by simp))).trans (Kp.set _ _ 2 _ _ (by simp))).trans (Kp.set _ _ 3 _ _ (by simp))).trans (Kp.set _ _ 4 _ _ (by simp))).trans (Kp.set _ _ 5 _ _ (by simp))).trans (Kp.set _ _ 6 _ _ (by simp))).trans (Kp.set _ _ 7 _ _ (by simp)))
  have r0 : wd.cell? ⟨h0, 0, none⟩ = some (.int .i64 0) := HD0.out.cell rfl
  have rf0 := HD0.out.frozen 0
  have r1 : wd.cell? ⟨h0, 1, none⟩ = some (.int .i64 0) := HD0.out.cell rfl
  have rf1 := HD0.out.frozen 1
  have r2 : wd.cell? ⟨h0, 2, none⟩ = some (.int .i64 0) := HD0.out.cell rfl
  have rf2 := HD0.out.frozen 2
  have r3 : wd.cell? ⟨h0, 3, none⟩ = some (.int .i64 0) := HD0.out.cell rfl
  have rf3 := HD0.out.frozen 3
  have r4 : wd.cell? ⟨h0, 4, none⟩ = some (.int .i64 0) := HD0.out.cell rfl
  have rf4 := HD0.out.frozen 4
  have r5 : wd.cell? ⟨h0, 5, none⟩ = some (.slice none 0 0) := HD0.out.cell rfl
  have rf5 := HD0.out.frozen 5
  have r6 : wd.cell? ⟨h0, 6, none⟩ = some (.slice none 0 0) := HD0.out.cell rfl
  have rf6 := HD0.out.frozen 6
  have r7 : wd.cell? ⟨h0, 7, none⟩ = some (.slice none 0 0) := HD0.out.cell rfl
  have rf7 := HD0.out.frozen 7
  have KS : Hid (∀ w', Blk w' h2 40 #[.int .i64 18, .int .i64 0] → (fun w' => w'.cell? ⟨h2, 0, none⟩ = some (.int .i64 18) ∧ w'.cell? ⟨h2, 1, none⟩ = some (.int .i64 0)) w') := fun w' hw' => ⟨hw'.cell rfl, hw'.cell rfl⟩
  refine wp_region_noPanic ?_
  refine wp_region_held_drew (S := (fun w' => w'.cell? ⟨h2, 0, none⟩ = some (.int .i64 18) ∧ w'.cell? ⟨h2, 1, none⟩ = some (.int .i64 0))) (by kernel_rfl) (by exact KS.out _ (by rw [← hwd]; exact HD2.out)) (fun hHeld => ?_)
  rw [← hwd] at hHeld ⊢
  clear hwd
  refine wpAnyH_take (i := 0) (oi := _) (v := ?_) rfl (by kernel_rfl) (by kernel_rfl) (by kernel_rfl) (fun _ _ _ h => h) (Or.inl ⟨by rfl, ?_⟩) (by assumption) ?_
  rotate_left
  · (intro w0 hSw; (try dsimp only at hSw); (try simp only [List.getElem_toArray, List.getElem_cons_zero]); go_simp; try (with_reducible rfl))
  try simp only [Act.put, List.getElem_toArray, List.getElem_cons_zero, List.setIfInBounds_toArray, List.set_cons_zero, List.set_cons_succ]
  refine wpAnyH_take (i := 1) (oi := _) (v := ?_) rfl (by kernel_rfl) (by kernel_rfl) (by kernel_rfl) (fun _ _ _ h => h) (Or.inl ⟨by rfl, ?_⟩) (by assumption) ?_
  rotate_left
  · (intro w0 hSw; (try dsimp only at hSw); (try simp only [List.getElem_toArray, List.getElem_cons_zero, List.getElem_cons_succ]); go_simp; try (with_reducible rfl))
  try simp only [Act.put, List.getElem_toArray, List.getElem_cons_zero, List.getElem_cons_succ, List.setIfInBounds_toArray, List.set_cons_zero, List.set_cons_succ]
  refine wpAnyH_ready (rs := [2]) (by kernel_rfl) (by simp) ?_
  refine AllReadyH.cons (o := _) rfl (fun K hK => ?_) AllReadyH.nil
  (try simp only [List.getElem_toArray, List.getElem_cons_zero, List.getElem_cons_succ])
  go_simp
  refine hK.out _ _ (by exact KS.out _ HA2.out) (fun hHeld1 => ?_)
  clear hK K
  clear r0 rf0 r1 rf1 r2 rf2 r3 rf3 r4 rf4 r5 rf5 r6 rf6 r7 rf7 hHeld
  generalize (World.setCell (World.setCell (World.setCell (World.setCell (World.setCell (World.setCell (World.setCell (World.setCell wd ⟨h0, 0, none⟩ (.int .i64 0)) ⟨h0, 1, none⟩ (.int .i64 0)) ⟨h0, 2, none⟩ (.int .i64 0)) ⟨h0, 3, none⟩ (.int .i64 0)) ⟨h0, 4, none⟩ (.int .i64 0)) ⟨h0, 5, none⟩ (.slice none 0 0)) ⟨h0, 6, none⟩ (.slice none 0 0)) ⟨h0, 7, none⟩ (.slice none 0 0)) = Y at *
  clear HD0 HD1 HD2
  have HR1 : Hid (Blk (World.setCell (World.setCell Y ⟨h1, 0, none⟩ (.int .i64 18)) ⟨h1, 1, none⟩ (.int .i64 0)) h1 40 #[.int .i64 18, .int .i64 0]) := (HA1.out.set 0 _).set 1 _
  have HR2 : Hid (Blk (World.setCell (World.setCell Y ⟨h1, 0, none⟩ (.int .i64 18)) ⟨h1, 1, none⟩ (.int .i64 0)) h0 32 zeroA) := (But.set h1 1 _ _).blk ((But.set h1 0 _ _).blk HR0.out (by omega)) (by omega)
  have HR3 : Hid (Blk (World.setCell (World.setCell Y ⟨h1, 0, none⟩ (.int .i64 18)) ⟨h1, 1, none⟩ (.int .i64 0)) h2 40 #[.int .i64 18, .int .i64 0]) := (But.set h1 1 _ _).blk ((But.set h1 0 _ _).blk HA2.out (by omega)) (by omega)
  have HK1 : Hid (Kp [h0, h1] wd (World.setCell (World.setCell Y ⟨h1, 0, none⟩ (.int .i64 18)) ⟨h1, 1, none⟩ (.int .i64 0))) := (HK0.out.trans (Kp.set _ _ _ _ _ (by simp))).trans (Kp.set _ _ _ _ _ (by simp))
  have s0 : Y.cell? ⟨h1, 0, none⟩ = some (.int .i64 0) := HA1.out.cell rfl
  have sf0 := HA1.out.frozen 0
  have s1 : Y.cell? ⟨h1, 1, none⟩ = some (.int .i64 0) := HA1.out.cell rfl
  have sf1 := HA1.out.frozen 1
  (try simp only [Act.put]); (try simp only [List.setIfInBounds_toArray]); (try simp only [List.set_cons_zero, List.set_cons_succ])
  refine wpAnyH_ready (rs := [3]) (by kernel_rfl) (by simp) ?_
  refine AllReadyH.cons (o := _) rfl (fun K hK => ?_) AllReadyH.nil
  (try simp only [List.getElem_toArray, List.getElem_cons_zero, List.getElem_cons_succ])
  go_simp
  refine hK.out _ _ (by exact KS.out _ HR3.out) (fun hHeld2 => ?_)
  clear hK K
  (try simp only [Act.put]); (try simp only [List.setIfInBounds_toArray]); (try simp only [List.set_cons_zero, List.set_cons_succ])
  refine wpAnyH_done (by kernel_rfl) ?_ _
  refine NoPanic.normal ?_
  clear s0 sf0 s1 sf1 hHeld1 hHeld2
  generalize (World.setCell (World.setCell Y ⟨h1, 0, none⟩ (.int .i64 18)) ⟨h1, 1, none⟩ (.int .i64 0)) = Z at *
  have HBZ : Hid (Below w.heap.size w Z) := HBD.out.trans (HK1.out.below (by intro g hg; simp at hg; omega) HBD.out.size)
  clear HBD HR0 HA1 HA2 HR3 HK0 HK1 KS
  have r0 : Z.cell? ⟨h0, 0, none⟩ = some (.int .i64 0) := HR2.out.cell rfl
  have r1 : Z.cell? ⟨h0, 1, none⟩ = some (.int .i64 0) := HR2.out.cell rfl
  have r2 : Z.cell? ⟨h0, 2, none⟩ = some (.int .i64 0) := HR2.out.cell rfl
  have r3 : Z.cell? ⟨h0, 3, none⟩ = some (.int .i64 0) := HR2.out.cell rfl
  have r4 : Z.cell? ⟨h0, 4, none⟩ = some (.int .i64 0) := HR2.out.cell rfl
  have r5 : Z.cell? ⟨h0, 5, none⟩ = some (.slice none 0 0) := HR2.out.cell rfl
  have r6 : Z.cell? ⟨h0, 6, none⟩ = some (.slice none 0 0) := HR2.out.cell rfl
  have r7 : Z.cell? ⟨h0, 7, none⟩ = some (.slice none 0 0) := HR2.out.cell rfl
  have s0 : Z.cell? ⟨h1, 0, none⟩ = some (.int .i64 18) := HR1.out.cell rfl
  have s1 : Z.cell? ⟨h1, 1, none⟩ = some (.int .i64 0) := HR1.out.cell rfl
  go_wp2
  refine bodyPost_ret (v := .tuple #[.agg zeroA, .agg #[.int .i64 18, .int .i64 0]]) (by unfold zeroA cfA; simp [results, Tryd.results8, go_sem, *]) rfl ?_
  exact ⟨rfl, HBZ.out⟩

end Go.Proofs.YtjbnejjjbdalaaaDoor
