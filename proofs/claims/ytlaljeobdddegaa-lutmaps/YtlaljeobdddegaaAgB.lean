import Derived.Test.YtlaljeobdddegaaAgA
namespace Go.Proofs.Ytlaljeobdddegaa
open Go.RowKit

set_option maxRecDepth 100000 in
set_option maxHeartbeats 16000000 in
theorem graphValid_small (B : Nat) (w : World) (S : GrS) (G : GrD) (h : GrAt B w S G) (hs : ¬ G.small) :
    Calls Try.prog 6 #[.agg (S.cells G)] w fun e w' => e = .returned (.bool false) ∧ Below w.heap.size w w' := by
  have l1 := hidden h.ll
  have l2 := hidden h.la
  have l3 := hidden h.lo
  have hcs : G.ins < 0 ∨ (0 ≤ G.ins ∧ 60000 < G.ins) ∨ (0 ≤ G.ins ∧ G.ins ≤ 60000 ∧ 6000 < (G.lats.length : Int)) ∨ (0 ≤ G.ins ∧ G.ins ≤ 60000 ∧ (G.lats.length : Int) ≤ 6000 ∧ 60000 < (G.outs.length : Int)) ∨ (0 ≤ G.ins ∧ G.ins ≤ 60000 ∧ (G.lats.length : Int) ≤ 6000 ∧ (G.outs.length : Int) ≤ 60000 ∧ 60000 < G.vars) := by
    unfold GrD.small at hs; omega
  have VA : Hid (0 ≤ G.ins → G.ins ≤ 60000 → ∀ w, Calls Try.prog 16 #[.agg (S.cells G)] w fun e w' => e = .returned (.int .i64 G.vars) ∧ Below w.heap.size w w') := fun h0 h1 w => vars_any w S G h0 h1 h.ll h.la
  generalize G.vars = n at *
  clear hs h l1 l2 l3
  unfold GrS.cells at *
  rcases hcs with g1 | ⟨g0, g1⟩ | ⟨g0, g1, g2⟩ | ⟨g0, g1, g2, g3⟩ | ⟨g0, g1, g2, g3, g4⟩
  all_goals
    go_enter Try.func6, Try.ntmps6
    go_wp2_with (go_at_call 16; refine (VA.out g0 g1 _).mono ?_; rintro e w2 ⟨rfl, hb2⟩)
    go_ret
    first
    | exact ⟨rfl, (Below.refl _ _).alloc (Nat.le_refl _) _⟩
    | exact ⟨rfl, ((Below.refl _ _).alloc (Nat.le_refl _) _).trans (hb2.mono (by simp))⟩

end Go.Proofs.Ytlaljeobdddegaa
