import Derived.Test.YtibjgoigdajkkaaDoorJ40
import Derived.Test.YtibjgoigdajkkaaDoorJ10
import Derived.Test.YtibjgoigdajkkaaDoorJ05
namespace Go.Proofs.YtibjgoigdajkkaaDoor
open Go.RowKit

set_option maxRecDepth 100000 in
set_option maxHeartbeats 8000000 in
theorem depth_any (B : Nat) (w : World) (S : NtS) (N : NtD) (h : NtAt B w S N) (hB : B ≤ w.heap.size) (hok : NtOk N = true) (hin : NtIn N) :
    Calls Tryd.prog 35 #[.agg (S.cells N)] w fun e w' => e = .returned (.int .i64 (depN N)) ∧ Below w.heap.size w w' := by
  have VL : Hid (∀ w', Below w.heap.size w w' → Calls Tryd.prog 16 #[.agg (S.cells N)] w' fun e w'' => e = .returned (.bool true) ∧ Below w'.heap.size w' w'') := fun w' hw' => by
    have := valid_any B w' S N (h.to (hw'.mono hB)) (Nat.le_trans hB hw'.size)
    rw [hok] at this
    exact this
  obtain ⟨r, HRD⟩ : ∃ r, Hid (r = depN N) := ⟨_, rfl⟩
  rw [← HRD.out]
  have DE : Hid (∀ w' gb, Below w.heap.size w w' → BoxAt w' gb S N → Calls Tryd.prog 51 #[.pointer (some ⟨gb, 0, none⟩)] w' fun e w'' => e = .returned (.int .i64 r) ∧ Below w'.heap.size w' w'') := fun w' gb hw' hx => by
    rw [HRD.out]
    exact deepest_any B w' gb S N hx (h.to (hw'.mono hB)) (Nat.le_trans hB hw'.size) hin
  unfold NtS.cells at *
  clear h hok hin
  go_enter Tryd.func35, Tryd.ntmps35
  go_upto_region 1 with fail
  generalize hW : World.alloc w _ = W
  have HB : Hid (Below w.heap.size w W) := by rw [← hW]; exact (Below.refl _ _).alloc (Nat.le_refl _) _
  have hN : w.heap.size < W.heap.size := by rw [← hW]; simp
  have HX : Hid (BoxAt W w.heap.size S N) := by rw [← hW]; exact BoxAt.new w S N
  clear hW
  have q0 := HX.out.c0
  have q1 := HX.out.c1
  have q2 := HX.out.c2
  have q3 := HX.out.c3
  have q4 := HX.out.c4
  go_wp2_with fail
  go_at_call 16
  refine (VL.out _ HB.out).mono ?_
  rintro e w1 ⟨rfl, hb1⟩
  have HB1 := hidden (HB.out.trans (hb1.mono HB.out.size))
  have HX1 : Hid (BoxAt w1 w.heap.size S N) := HX.out.to hN hb1
  clear hb1 q0 q1 q2 q3 q4 VL HX
  go_wp2_with fail
  go_at_call 51
  refine (DE.out _ _ HB1.out HX1.out).mono ?_
  rintro e w2 ⟨rfl, hb2⟩
  have HB2 := hidden (HB1.out.trans (hb2.mono HB1.out.size))
  clear hb2 DE HX1
  go_wp2_with fail
  go_ret
  exact ⟨rfl, HB2.out⟩



end Go.Proofs.YtibjgoigdajkkaaDoor
