import Derived.Test.YtlaljeobdddegaaAgD
import Derived.Deep.Cut
namespace Go.Proofs.Ytlaljeobdddegaa
open Go.RowKit

set_option maxRecDepth 100000 in
set_option maxHeartbeats 16000000 in
theorem valid_small (w : World) (S : GrS) (G : GrD) (h2 : G.lats.length < big) (h3 : G.ands.length < big) (hs : ¬ G.small) :
    Calls Try.prog 17 #[.agg (S.cells G)] w fun e w' => e = .returned (.bool false) ∧ Below w.heap.size w w' := by
  have hcs : ¬ 0 ≤ G.ins ∨ (0 ≤ G.ins ∧ ¬ G.ins < 60000) ∨ (0 ≤ G.ins ∧ G.ins < 60000 ∧ ¬ (G.ands.length : Int) < 60000) ∨ (0 ≤ G.ins ∧ G.ins < 60000 ∧ (G.ands.length : Int) < 60000 ∧ ¬ (G.lats.length : Int) ≤ 6000) ∨ (0 ≤ G.ins ∧ G.ins < 60000 ∧ (G.ands.length : Int) < 60000 ∧ (G.lats.length : Int) ≤ 6000 ∧ ¬ (G.outs.length : Int) ≤ 60000) ∨ (0 ≤ G.ins ∧ G.ins < 60000 ∧ (G.ands.length : Int) < 60000 ∧ (G.lats.length : Int) ≤ 6000 ∧ (G.outs.length : Int) ≤ 60000 ∧ ¬ G.vars ≤ 60000) := by
    unfold GrD.small at hs; omega
  have VA : Hid (0 ≤ G.ins → G.ins < 60000 → ∀ w p, BoxAt w p S G → Calls Try.prog 29 #[.pointer (some ⟨p, 0, none⟩)] w fun e w' => e = .returned (.int .i64 G.vars) ∧ ∃ n, w' = w.drewN n) := fun a b w p hb => variables_any w p S G hb a (by omega) h2 h3
  generalize G.vars = n at *
  clear hs h2 h3
  unfold GrS.cells at *
  go_enter Try.func17, Try.ntmps17
  go_upto_region 1 with fail
  generalize hW : World.alloc w _ = W
  have HB : Hid (Below w.heap.size w W) := by rw [← hW]; exact (Below.refl _ _).alloc (Nat.le_refl _) _
  have hN : w.heap.size < W.heap.size := by rw [← hW]; simp
  have HX : Hid (BoxAt W w.heap.size S G) := by
    rw [← hW]
    exact ⟨by simp, by simp, by simp, by simp, by simp⟩
  clear hW
  have q0 := HX.out.c0
  have q1 := HX.out.c1
  have q2 := HX.out.c2
  have q3 := HX.out.c3
  rcases hcs with g1 | ⟨g0, g1⟩ | ⟨g0, g1, g2⟩ | ⟨g0, g1, g2, g3⟩ | ⟨g0, g1, g2, g3, g4⟩ | ⟨g0, g1, g2, g3, g4, g5⟩
  · have d0 : decide (0 ≤ G.ins) = false := decide_eq_false g1
    go_wp2
    go_ret
    exact ⟨rfl, HB.out⟩
  · have d0 : decide (G.ins < 60000) = false := decide_eq_false g1
    go_wp2
    go_ret
    exact ⟨rfl, HB.out⟩
  · have d0 : decide ((G.ands.length : Int) < 60000) = false := decide_eq_false g2
    go_wp2
    go_ret
    exact ⟨rfl, HB.out⟩
  · have d0 : decide ((G.lats.length : Int) ≤ 6000) = false := decide_eq_false g3
    go_wp2
    go_ret
    exact ⟨rfl, HB.out⟩
  · have d0 : decide ((G.outs.length : Int) ≤ 60000) = false := decide_eq_false g4
    go_wp2
    go_ret
    exact ⟨rfl, HB.out⟩
  · have d0 : decide (n ≤ 60000) = false := decide_eq_false g5
    go_wp2_with (go_at_call 29; refine (VA.out g0 g1 _ _ HX.out).mono ?_; rintro e w2 ⟨rfl, nd, rfl⟩)
    go_ret
    exact ⟨rfl, HB.out.trans ((Below.drewN (Below.refl _ _) _).mono HB.out.size)⟩

end Go.Proofs.Ytlaljeobdddegaa
