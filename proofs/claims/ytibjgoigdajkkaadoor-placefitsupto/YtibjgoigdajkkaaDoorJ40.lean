import Derived.Test.YtibjgoigdajkkaaDoorJ15
namespace Go.Proofs.YtibjgoigdajkkaaDoor
open Go.RowKit

def cnt4 (b1 b2 b3 b4 : Bool) : Nat := (if b1 then 0 else 1) + (if b2 then 0 else 1) + (if b3 then 0 else 1) + (if b4 then 0 else 1)
theorem allReady_append {P : Program} {md : Region.Mode} {ops : Array Oper} {Q : Exit → Act → World → Prop} {S : World → Prop} {fuel : Nat} {listed : Array Bool} {a : Act} {w : World} {r1 r2 : List Nat} (h1 : AllReadyH P md ops Q S fuel listed a w r1) (h2 : AllReadyH P md ops Q S fuel listed a w r2) : AllReadyH P md ops Q S fuel listed a w (r1 ++ r2) := fun j hj => by
  rcases List.mem_append.1 hj with h | h
  · exact h1 j h
  · exact h2 j h
/-- four steps that make memory, in whatever order -/
theorem makes4 {P : Program} {md : Region.Mode} {ops : Array Oper} {Q : Exit → Act → World → Prop} {S : World → Prop} {fuel : Nat} {listed : Array Bool} {a : Act} {w0 : World} (L : Bool → Bool → Bool → Bool → Array Bool) (L5 : Bool → Array Bool) (A A' : Value → Value → Value → Value → Act) (i1 i2 i3 i4 : Nat) {o1 o2 o3 o4 : Oper} (S1 S2 S3 S4 : Value → World → Prop)
    (m1 : ∀ v w w', S1 v w → Below w.heap.size w w' → S1 v w') (m2 : ∀ v w w', S2 v w → Below w.heap.size w w' → S2 v w') (m3 : ∀ v w w', S3 v w → Below w.heap.size w w' → S3 v w') (m4 : ∀ v w w', S4 v w → Below w.heap.size w w' → S4 v w') (hS : ∀ w w', S w → Below w.heap.size w w' → S w')
    (r1 : ∀ x2 x3 x4 w K', S w → (∀ v w', S1 v w' → Below w.heap.size w w' → K' (A v x2 x3 x4) w') → if Region.wanted o1 (yielded ops (A undef x2 x3 x4).tmps) = true then Oper.wp P o1 (A undef x2 x3 x4) w K' Q else K' ((A undef x2 x3 x4).put o1.dst undef) w)
    (r2 : ∀ x1 x3 x4 w K', S w → (∀ v w', S2 v w' → Below w.heap.size w w' → K' (A x1 v x3 x4) w') → if Region.wanted o2 (yielded ops (A x1 undef x3 x4).tmps) = true then Oper.wp P o2 (A x1 undef x3 x4) w K' Q else K' ((A x1 undef x3 x4).put o2.dst undef) w)
    (r3 : ∀ x1 x2 x4 w K', S w → (∀ v w', S3 v w' → Below w.heap.size w w' → K' (A x1 x2 v x4) w') → if Region.wanted o3 (yielded ops (A x1 x2 undef x4).tmps) = true then Oper.wp P o3 (A x1 x2 undef x4) w K' Q else K' ((A x1 x2 undef x4).put o3.dst undef) w)
    (r4 : ∀ x1 x2 x3 w K', S w → (∀ v w', S4 v w' → Below w.heap.size w w' → K' (A x1 x2 x3 v) w') → if Region.wanted o4 (yielded ops (A x1 x2 x3 undef).tmps) = true then Oper.wp P o4 (A x1 x2 x3 undef) w K' Q else K' ((A x1 x2 x3 undef).put o4.dst undef) w)
    (r5 : ∀ x1 x2 x3 w K', S w → (∀ v w', S4 v w' → Below w.heap.size w w' → K' (A' x1 x2 x3 v) w') → if Region.wanted o4 (yielded ops (A' x1 x2 x3 undef).tmps) = true then Oper.wp P o4 (A' x1 x2 x3 undef) w K' Q else K' ((A' x1 x2 x3 undef).put o4.dst undef) w)
    (t5 : ∀ fuel v1 v2 v3 x4 b4 w, S1 v1 w → S2 v2 w → S3 v3 w → S w → wpAnyH P md ops Q S fuel (L5 b4) (A' v1 v2 v3 x4) w → wpAnyH P md ops Q S (fuel + 1) (L true true true b4) (A v1 v2 v3 x4) w)
    (h : ∀ v1 v2 v3 v4 w', S1 v1 w' → S2 v2 w' → S3 v3 w' → S4 v4 w' → S w' → Below w0.heap.size w0 w' → wpAnyH P md ops Q S fuel (L5 true) (A' v1 v2 v3 v4) w') (hS0 : S w0)
    (ho1 : ops[i1]? = some o1 := by rfl) (ho2 : ops[i2]? = some o2 := by rfl) (ho3 : ops[i3]? = some o3 := by rfl) (ho4 : ops[i4]? = some o4 := by rfl)
    (hl : listed = L false false false false := by kernel_rfl) (ha : a = A undef undef undef undef := by rfl)
    (h5 : Region.ready md ops (L5 false) = [i4] := by kernel_rfl) (l5 : (L5 false).setIfInBounds i4 true = L5 true := by rfl) (hr : ∀ b1 b2 b3 b4, (b1 && b2 && b3) = false → Region.ready md ops (L b1 b2 b3 b4) = (if b1 then [] else [i1]) ++ ((if b2 then [] else [i2]) ++ ((if b3 then [] else [i3]) ++ (if b4 then [] else [i4]))) := by (intro b1 b2 b3 b4 h; cases b1 <;> cases b2 <;> cases b3 <;> cases b4 <;> first | (cases h; done) | kernel_rfl))
    (l1 : ∀ b2 b3 b4, (L false b2 b3 b4).setIfInBounds i1 true = L true b2 b3 b4 := by (intro b1 b2 b3; rfl)) (l2 : ∀ b1 b3 b4, (L b1 false b3 b4).setIfInBounds i2 true = L b1 true b3 b4 := by (intro b1 b2 b3; rfl)) (l3 : ∀ b1 b2 b4, (L b1 b2 false b4).setIfInBounds i3 true = L b1 b2 true b4 := by (intro b1 b2 b3; rfl)) (l4 : ∀ b1 b2 b3, (L b1 b2 b3 false).setIfInBounds i4 true = L b1 b2 b3 true := by (intro b1 b2 b3; rfl)) :
    wpAnyH P md ops Q S (fuel + 5) listed a w0 := by
  have key : ∀ n b1 b2 b3 b4 x1 x2 x3 x4 w, cnt4 b1 b2 b3 b4 = n → (b1 = true → S1 x1 w) → (b1 = false → x1 = undef) → (b2 = true → S2 x2 w) → (b2 = false → x2 = undef) → (b3 = true → S3 x3 w) → (b3 = false → x3 = undef) → (b4 = true → S4 x4 w) → (b4 = false → x4 = undef) → S w → Below w0.heap.size w0 w → wpAnyH P md ops Q S (fuel + 1 + n) (L b1 b2 b3 b4) (A x1 x2 x3 x4) w := by
    intro n
    induction n with
    | zero =>
      intro b1 b2 b3 b4 x1 x2 x3 x4 w hc h1 _ h2 _ h3 _ h4 _ hs hb
      cases b1 <;> cases b2 <;> cases b3 <;> cases b4 <;> first | (simp [cnt4] at hc; done) | exact t5 _ x1 x2 x3 x4 true w (h1 rfl) (h2 rfl) (h3 rfl) hs (h x1 x2 x3 x4 w (h1 rfl) (h2 rfl) (h3 rfl) (h4 rfl) hs hb)
    | succ n ih =>
      intro b1 b2 b3 b4 x1 x2 x3 x4 w hc h1 e1 h2 e2 h3 e3 h4 e4 hs hb
      cases hne : (b1 && b2 && b3) with
      | true =>
        simp only [Bool.and_eq_true] at hne
        obtain ⟨⟨rfl, rfl⟩, rfl⟩ := hne
        cases b4 with
        | true => simp [cnt4] at hc
        | false =>
          have e := e4 rfl
          subst e
          have hn : n = 0 := by simp [cnt4] at hc; omega
          subst hn
          refine t5 _ x1 x2 x3 undef false w (h1 rfl) (h2 rfl) (h3 rfl) hs ?_
          refine wpAnyH_ready h5 (by simp) ?_
          refine AllReadyH.cons ho4 (fun K' hK => r5 x1 x2 x3 w K' hs (fun v w' hv hw => hK.out _ _ (hS _ _ hs hw) (fun hs' => ?_))) AllReadyH.nil
          rw [l5]
          exact h x1 x2 x3 v w' (m1 _ _ _ (h1 rfl) hw) (m2 _ _ _ (h2 rfl) hw) (m3 _ _ _ (h3 rfl) hw) hv hs' (hb.trans (hw.mono hb.size))
      | false =>
      refine wpAnyH_ready (hr b1 b2 b3 b4 hne) (by cases b1 <;> cases b2 <;> cases b3 <;> cases b4 <;> first | (cases hne; done) | simp) ?_
      refine allReady_append ?_ (allReady_append ?_ (allReady_append ?_ ?_))
      · cases b1 with
        | true => exact AllReadyH.nil
        | false =>
          have e := e1 rfl
          subst e
          refine AllReadyH.cons ho1 (fun K' hK => r1 x2 x3 x4 w K' hs (fun v w' hv hw => hK.out _ _ (hS _ _ hs hw) (fun hs' => ?_))) AllReadyH.nil
          rw [l1]
          exact ih true b2 b3 b4 v x2 x3 x4 w' (by unfold cnt4 at hc ⊢; simp at hc ⊢; omega) (fun _ => hv) (fun e => by cases e) (fun e => m2 _ _ _ (h2 e) hw) e2 (fun e => m3 _ _ _ (h3 e) hw) e3 (fun e => m4 _ _ _ (h4 e) hw) e4 hs' (hb.trans (hw.mono hb.size))
      · cases b2 with
        | true => exact AllReadyH.nil
        | false =>
          have e := e2 rfl
          subst e
          refine AllReadyH.cons ho2 (fun K' hK => r2 x1 x3 x4 w K' hs (fun v w' hv hw => hK.out _ _ (hS _ _ hs hw) (fun hs' => ?_))) AllReadyH.nil
          rw [l2]
          exact ih b1 true b3 b4 x1 v x3 x4 w' (by unfold cnt4 at hc ⊢; simp at hc ⊢; omega) (fun e => m1 _ _ _ (h1 e) hw) e1 (fun _ => hv) (fun e => by cases e) (fun e => m3 _ _ _ (h3 e) hw) e3 (fun e => m4 _ _ _ (h4 e) hw) e4 hs' (hb.trans (hw.mono hb.size))
      · cases b3 with
        | true => exact AllReadyH.nil
        | false =>
          have e := e3 rfl
          subst e
          refine AllReadyH.cons ho3 (fun K' hK => r3 x1 x2 x4 w K' hs (fun v w' hv hw => hK.out _ _ (hS _ _ hs hw) (fun hs' => ?_))) AllReadyH.nil
          rw [l3]
          exact ih b1 b2 true b4 x1 x2 v x4 w' (by unfold cnt4 at hc ⊢; simp at hc ⊢; omega) (fun e => m1 _ _ _ (h1 e) hw) e1 (fun e => m2 _ _ _ (h2 e) hw) e2 (fun _ => hv) (fun e => by cases e) (fun e => m4 _ _ _ (h4 e) hw) e4 hs' (hb.trans (hw.mono hb.size))
      · cases b4 with
        | true => exact AllReadyH.nil
        | false =>
          have e := e4 rfl
          subst e
          refine AllReadyH.cons ho4 (fun K' hK => r4 x1 x2 x3 w K' hs (fun v w' hv hw => hK.out _ _ (hS _ _ hs hw) (fun hs' => ?_))) AllReadyH.nil
          rw [l4]
          exact ih b1 b2 b3 true x1 x2 x3 v w' (by unfold cnt4 at hc ⊢; simp at hc ⊢; omega) (fun e => m1 _ _ _ (h1 e) hw) e1 (fun e => m2 _ _ _ (h2 e) hw) e2 (fun e => m3 _ _ _ (h3 e) hw) e3 (fun _ => hv) (fun e => by cases e) hs' (hb.trans (hw.mono hb.size))
  rw [hl, ha]
  exact key 4 false false false false undef undef undef undef w0 rfl (fun e => by cases e) (fun _ => rfl) (fun e => by cases e) (fun _ => rfl) (fun e => by cases e) (fun _ => rfl) (fun e => by cases e) (fun _ => rfl) hS0 (Below.refl _ _)


end Go.Proofs.YtibjgoigdajkkaaDoor
