import Derived.Test.YtefjicdhccfieaaK01
import Derived.Test.YtefjicdhccfieaaK16
set_option maxRecDepth 100000
set_option maxHeartbeats 16000000
namespace Go.Proofs.Ytefjicdhccfieaa
open Go.RowKit
theorem wp_four {P : Program} {md : Region.Mode} {ops : Array Oper} {Q : Exit → Act → World → Prop} {S : World → Prop} {fuel : Nat} {i1 i2 i3 i4 : Nat} {o1 o2 o3 o4 : Oper} {listed : Array Bool} {a : Act} {w : World}
  (A4 : Value → Value → Value → Value → Act) (L4 : Bool → Bool → Bool → Bool → Array Bool) (Inv : World → Prop) (R1 R2 R3 R4 : Nat → World → Prop) (X1 X2 X3 X4 : Nat → Value)
  (ho1 : ops[i1]? = some o1) (ho2 : ops[i2]? = some o2) (ho3 : ops[i3]? = some o3) (ho4 : ops[i4]? = some o4) (y1 y2 y3 y4 : Value) (hl : listed = L4 false false false false) (ha : a = A4 y1 y2 y3 y4) (hI : Inv w) (hS : ∀ w, Inv w → S w)
  (hp1 : ∀ x1 x2 x3 x4 v, (A4 x1 x2 x3 x4).put o1.dst v = A4 v x2 x3 x4)
  (hp2 : ∀ x1 x2 x3 x4 v, (A4 x1 x2 x3 x4).put o2.dst v = A4 x1 v x3 x4)
  (hp3 : ∀ x1 x2 x3 x4 v, (A4 x1 x2 x3 x4).put o3.dst v = A4 x1 x2 v x4)
  (hp4 : ∀ x1 x2 x3 x4 v, (A4 x1 x2 x3 x4).put o4.dst v = A4 x1 x2 x3 v)
  (hL1 : ∀ b2 b3 b4, (L4 false b2 b3 b4).setIfInBounds i1 true = L4 true b2 b3 b4)
  (hL2 : ∀ b1 b3 b4, (L4 b1 false b3 b4).setIfInBounds i2 true = L4 b1 true b3 b4)
  (hL3 : ∀ b1 b2 b4, (L4 b1 b2 false b4).setIfInBounds i3 true = L4 b1 b2 true b4)
  (hL4 : ∀ b1 b2 b3, (L4 b1 b2 b3 false).setIfInBounds i4 true = L4 b1 b2 b3 true)
  (r1101 : Region.ready md ops (L4 true true false true) = [i3])
  (r1011 : Region.ready md ops (L4 true false true true) = [i2])
  (r0111 : Region.ready md ops (L4 false true true true) = [i1])
  (r1100 : Region.ready md ops (L4 true true false false) = [i3, i4])
  (r1010 : Region.ready md ops (L4 true false true false) = [i2, i4])
  (r1001 : Region.ready md ops (L4 true false false true) = [i2, i3])
  (r0110 : Region.ready md ops (L4 false true true false) = [i1, i4])
  (r0101 : Region.ready md ops (L4 false true false true) = [i1, i3])
  (r0011 : Region.ready md ops (L4 false false true true) = [i1, i2])
  (r1000 : Region.ready md ops (L4 true false false false) = [i2, i3, i4])
  (r0100 : Region.ready md ops (L4 false true false false) = [i1, i3, i4])
  (r0010 : Region.ready md ops (L4 false false true false) = [i1, i2, i4])
  (r0001 : Region.ready md ops (L4 false false false true) = [i1, i2, i3])
  (r0000 : Region.ready md ops (L4 false false false false) = [i1, i2, i3, i4])
  (H1 : ∀ (x1 x2 x3 x4 : Value) (w : World) (K : Act → World → Prop), Inv w → (∀ w', Inv w' → R1 w.heap.size w' → Below w.heap.size w w' → w.heap.size < w'.heap.size → K ((A4 x1 x2 x3 x4).put o1.dst (X1 w.heap.size)) w') → if Region.wanted o1 (yielded ops (A4 x1 x2 x3 x4).tmps) = true then Oper.wp P o1 (A4 x1 x2 x3 x4) w K Q else K ((A4 x1 x2 x3 x4).put o1.dst undef) w)
  (H2 : ∀ (x1 x2 x3 x4 : Value) (w : World) (K : Act → World → Prop), Inv w → (∀ w', Inv w' → R2 w.heap.size w' → Below w.heap.size w w' → w.heap.size < w'.heap.size → K ((A4 x1 x2 x3 x4).put o2.dst (X2 w.heap.size)) w') → if Region.wanted o2 (yielded ops (A4 x1 x2 x3 x4).tmps) = true then Oper.wp P o2 (A4 x1 x2 x3 x4) w K Q else K ((A4 x1 x2 x3 x4).put o2.dst undef) w)
  (H3 : ∀ (x1 x2 x3 x4 : Value) (w : World) (K : Act → World → Prop), Inv w → (∀ w', Inv w' → R3 w.heap.size w' → Below w.heap.size w w' → w.heap.size < w'.heap.size → K ((A4 x1 x2 x3 x4).put o3.dst (X3 w.heap.size)) w') → if Region.wanted o3 (yielded ops (A4 x1 x2 x3 x4).tmps) = true then Oper.wp P o3 (A4 x1 x2 x3 x4) w K Q else K ((A4 x1 x2 x3 x4).put o3.dst undef) w)
  (H4 : ∀ (x1 x2 x3 x4 : Value) (w : World) (K : Act → World → Prop), Inv w → (∀ w', Inv w' → R4 w.heap.size w' → Below w.heap.size w w' → w.heap.size < w'.heap.size → K ((A4 x1 x2 x3 x4).put o4.dst (X4 w.heap.size)) w') → if Region.wanted o4 (yielded ops (A4 x1 x2 x3 x4).tmps) = true then Oper.wp P o4 (A4 x1 x2 x3 x4) w K Q else K ((A4 x1 x2 x3 x4).put o4.dst undef) w)
  (ps1 : ∀ k w w', R1 k w → k < w.heap.size → Below w.heap.size w w' → R1 k w')
  (ps2 : ∀ k w w', R2 k w → k < w.heap.size → Below w.heap.size w w' → R2 k w')
  (ps3 : ∀ k w w', R3 k w → k < w.heap.size → Below w.heap.size w w' → R3 k w')
  (ps4 : ∀ k w w', R4 k w → k < w.heap.size → Below w.heap.size w w' → R4 k w')
  (s1111 : ∀ (k1 : Nat) (k2 : Nat) (k3 : Nat) (k4 : Nat) (w : World), Inv w → (R1 k1 w ∧ k1 < w.heap.size) → (R2 k2 w ∧ k2 < w.heap.size) → (R3 k3 w ∧ k3 < w.heap.size) → (R4 k4 w ∧ k4 < w.heap.size) → k1 ≠ k2 → k1 ≠ k3 → k1 ≠ k4 → k2 ≠ k3 → k2 ≠ k4 → k3 ≠ k4 → wpAnyH P md ops Q S (fuel) (L4 true true true true) (A4 (X1 k1) (X2 k2) (X3 k3) (X4 k4)) w)
  (s1110 : ∀ (k1 : Nat) (k2 : Nat) (k3 : Nat) (x4 : Value) (w : World), Inv w → (R1 k1 w ∧ k1 < w.heap.size) → (R2 k2 w ∧ k2 < w.heap.size) → (R3 k3 w ∧ k3 < w.heap.size) → k1 ≠ k2 → k1 ≠ k3 → k2 ≠ k3 → wpAnyH P md ops Q S (fuel + 1) (L4 true true true false) (A4 (X1 k1) (X2 k2) (X3 k3) x4) w) :
  wpAnyH P md ops Q S (fuel + 4) listed a w := by
 have s1101 : ∀ (k1 : Nat) (k2 : Nat) (x3 : Value) (k4 : Nat) (w : World), Inv w → (R1 k1 w ∧ k1 < w.heap.size) → (R2 k2 w ∧ k2 < w.heap.size) → (R4 k4 w ∧ k4 < w.heap.size) → k1 ≠ k2 → k1 ≠ k4 → k2 ≠ k4 → wpAnyH P md ops Q S (fuel + 1) (L4 true true false true) (A4 (X1 k1) (X2 k2) x3 (X4 k4)) w := by
  intro k1 k2 x3 k4 w hI h1 h2 h4 n12 n14 n24
  refine wpAnyH_ready r1101 (by simp) ?_
  refine AllReadyH.cons ho3 (fun K hK => H3 _ _ _ _ _ K hI (fun w' hI' hR hB hlt => hK.out _ _ (hS _ hI') (fun _ => ?_))) AllReadyH.nil
  rw [hp3, hL3]
  exact s1111 k1 k2 w.heap.size k4 w' hI' ⟨ps1 _ _ _ h1.1 h1.2 hB, Nat.lt_trans h1.2 hlt⟩ ⟨ps2 _ _ _ h2.1 h2.2 hB, Nat.lt_trans h2.2 hlt⟩ ⟨hR, hlt⟩ ⟨ps4 _ _ _ h4.1 h4.2 hB, Nat.lt_trans h4.2 hlt⟩ n12 (Nat.ne_of_lt h1.2) n14 (Nat.ne_of_lt h2.2) n24 (Nat.ne_of_gt h4.2)
 have s1011 : ∀ (k1 : Nat) (x2 : Value) (k3 : Nat) (k4 : Nat) (w : World), Inv w → (R1 k1 w ∧ k1 < w.heap.size) → (R3 k3 w ∧ k3 < w.heap.size) → (R4 k4 w ∧ k4 < w.heap.size) → k1 ≠ k3 → k1 ≠ k4 → k3 ≠ k4 → wpAnyH P md ops Q S (fuel + 1) (L4 true false true true) (A4 (X1 k1) x2 (X3 k3) (X4 k4)) w := by
  intro k1 x2 k3 k4 w hI h1 h3 h4 n13 n14 n34
  refine wpAnyH_ready r1011 (by simp) ?_
  refine AllReadyH.cons ho2 (fun K hK => H2 _ _ _ _ _ K hI (fun w' hI' hR hB hlt => hK.out _ _ (hS _ hI') (fun _ => ?_))) AllReadyH.nil
  rw [hp2, hL2]
  exact s1111 k1 w.heap.size k3 k4 w' hI' ⟨ps1 _ _ _ h1.1 h1.2 hB, Nat.lt_trans h1.2 hlt⟩ ⟨hR, hlt⟩ ⟨ps3 _ _ _ h3.1 h3.2 hB, Nat.lt_trans h3.2 hlt⟩ ⟨ps4 _ _ _ h4.1 h4.2 hB, Nat.lt_trans h4.2 hlt⟩ (Nat.ne_of_lt h1.2) n13 n14 (Nat.ne_of_gt h3.2) (Nat.ne_of_gt h4.2) n34
 have s0111 : ∀ (x1 : Value) (k2 : Nat) (k3 : Nat) (k4 : Nat) (w : World), Inv w → (R2 k2 w ∧ k2 < w.heap.size) → (R3 k3 w ∧ k3 < w.heap.size) → (R4 k4 w ∧ k4 < w.heap.size) → k2 ≠ k3 → k2 ≠ k4 → k3 ≠ k4 → wpAnyH P md ops Q S (fuel + 1) (L4 false true true true) (A4 x1 (X2 k2) (X3 k3) (X4 k4)) w := by
  intro x1 k2 k3 k4 w hI h2 h3 h4 n23 n24 n34
  refine wpAnyH_ready r0111 (by simp) ?_
  refine AllReadyH.cons ho1 (fun K hK => H1 _ _ _ _ _ K hI (fun w' hI' hR hB hlt => hK.out _ _ (hS _ hI') (fun _ => ?_))) AllReadyH.nil
  rw [hp1, hL1]
  exact s1111 w.heap.size k2 k3 k4 w' hI' ⟨hR, hlt⟩ ⟨ps2 _ _ _ h2.1 h2.2 hB, Nat.lt_trans h2.2 hlt⟩ ⟨ps3 _ _ _ h3.1 h3.2 hB, Nat.lt_trans h3.2 hlt⟩ ⟨ps4 _ _ _ h4.1 h4.2 hB, Nat.lt_trans h4.2 hlt⟩ (Nat.ne_of_gt h2.2) (Nat.ne_of_gt h3.2) (Nat.ne_of_gt h4.2) n23 n24 n34
 have s1100 : ∀ (k1 : Nat) (k2 : Nat) (x3 : Value) (x4 : Value) (w : World), Inv w → (R1 k1 w ∧ k1 < w.heap.size) → (R2 k2 w ∧ k2 < w.heap.size) → k1 ≠ k2 → wpAnyH P md ops Q S (fuel + 2) (L4 true true false false) (A4 (X1 k1) (X2 k2) x3 x4) w := by
  intro k1 k2 x3 x4 w hI h1 h2 n12
  refine wpAnyH_ready r1100 (by simp) ?_
  refine AllReadyH.cons ho3 (fun K hK => H3 _ _ _ _ _ K hI (fun w' hI' hR hB hlt => hK.out _ _ (hS _ hI') (fun _ => ?_))) ?_
  ·rw [hp3, hL3]
   exact s1110 k1 k2 w.heap.size x4 w' hI' ⟨ps1 _ _ _ h1.1 h1.2 hB, Nat.lt_trans h1.2 hlt⟩ ⟨ps2 _ _ _ h2.1 h2.2 hB, Nat.lt_trans h2.2 hlt⟩ ⟨hR, hlt⟩ n12 (Nat.ne_of_lt h1.2) (Nat.ne_of_lt h2.2)
  refine AllReadyH.cons ho4 (fun K hK => H4 _ _ _ _ _ K hI (fun w' hI' hR hB hlt => hK.out _ _ (hS _ hI') (fun _ => ?_))) AllReadyH.nil
  rw [hp4, hL4]
  exact s1101 k1 k2 x3 w.heap.size w' hI' ⟨ps1 _ _ _ h1.1 h1.2 hB, Nat.lt_trans h1.2 hlt⟩ ⟨ps2 _ _ _ h2.1 h2.2 hB, Nat.lt_trans h2.2 hlt⟩ ⟨hR, hlt⟩ n12 (Nat.ne_of_lt h1.2) (Nat.ne_of_lt h2.2)
 have s1010 : ∀ (k1 : Nat) (x2 : Value) (k3 : Nat) (x4 : Value) (w : World), Inv w → (R1 k1 w ∧ k1 < w.heap.size) → (R3 k3 w ∧ k3 < w.heap.size) → k1 ≠ k3 → wpAnyH P md ops Q S (fuel + 2) (L4 true false true false) (A4 (X1 k1) x2 (X3 k3) x4) w := by
  intro k1 x2 k3 x4 w hI h1 h3 n13
  refine wpAnyH_ready r1010 (by simp) ?_
  refine AllReadyH.cons ho2 (fun K hK => H2 _ _ _ _ _ K hI (fun w' hI' hR hB hlt => hK.out _ _ (hS _ hI') (fun _ => ?_))) ?_
  ·rw [hp2, hL2]
   exact s1110 k1 w.heap.size k3 x4 w' hI' ⟨ps1 _ _ _ h1.1 h1.2 hB, Nat.lt_trans h1.2 hlt⟩ ⟨hR, hlt⟩ ⟨ps3 _ _ _ h3.1 h3.2 hB, Nat.lt_trans h3.2 hlt⟩ (Nat.ne_of_lt h1.2) n13 (Nat.ne_of_gt h3.2)
  refine AllReadyH.cons ho4 (fun K hK => H4 _ _ _ _ _ K hI (fun w' hI' hR hB hlt => hK.out _ _ (hS _ hI') (fun _ => ?_))) AllReadyH.nil
  rw [hp4, hL4]
  exact s1011 k1 x2 k3 w.heap.size w' hI' ⟨ps1 _ _ _ h1.1 h1.2 hB, Nat.lt_trans h1.2 hlt⟩ ⟨ps3 _ _ _ h3.1 h3.2 hB, Nat.lt_trans h3.2 hlt⟩ ⟨hR, hlt⟩ n13 (Nat.ne_of_lt h1.2) (Nat.ne_of_lt h3.2)
 have s1001 : ∀ (k1 : Nat) (x2 : Value) (x3 : Value) (k4 : Nat) (w : World), Inv w → (R1 k1 w ∧ k1 < w.heap.size) → (R4 k4 w ∧ k4 < w.heap.size) → k1 ≠ k4 → wpAnyH P md ops Q S (fuel + 2) (L4 true false false true) (A4 (X1 k1) x2 x3 (X4 k4)) w := by
  intro k1 x2 x3 k4 w hI h1 h4 n14
  refine wpAnyH_ready r1001 (by simp) ?_
  refine AllReadyH.cons ho2 (fun K hK => H2 _ _ _ _ _ K hI (fun w' hI' hR hB hlt => hK.out _ _ (hS _ hI') (fun _ => ?_))) ?_
  ·rw [hp2, hL2]
   exact s1101 k1 w.heap.size x3 k4 w' hI' ⟨ps1 _ _ _ h1.1 h1.2 hB, Nat.lt_trans h1.2 hlt⟩ ⟨hR, hlt⟩ ⟨ps4 _ _ _ h4.1 h4.2 hB, Nat.lt_trans h4.2 hlt⟩ (Nat.ne_of_lt h1.2) n14 (Nat.ne_of_gt h4.2)
  refine AllReadyH.cons ho3 (fun K hK => H3 _ _ _ _ _ K hI (fun w' hI' hR hB hlt => hK.out _ _ (hS _ hI') (fun _ => ?_))) AllReadyH.nil
  rw [hp3, hL3]
  exact s1011 k1 x2 w.heap.size k4 w' hI' ⟨ps1 _ _ _ h1.1 h1.2 hB, Nat.lt_trans h1.2 hlt⟩ ⟨hR, hlt⟩ ⟨ps4 _ _ _ h4.1 h4.2 hB, Nat.lt_trans h4.2 hlt⟩ (Nat.ne_of_lt h1.2) n14 (Nat.ne_of_gt h4.2)
 have s0110 : ∀ (x1 : Value) (k2 : Nat) (k3 : Nat) (x4 : Value) (w : World), Inv w → (R2 k2 w ∧ k2 < w.heap.size) → (R3 k3 w ∧ k3 < w.heap.size) → k2 ≠ k3 → wpAnyH P md ops Q S (fuel + 2) (L4 false true true false) (A4 x1 (X2 k2) (X3 k3) x4) w := by
  intro x1 k2 k3 x4 w hI h2 h3 n23
  refine wpAnyH_ready r0110 (by simp) ?_
  refine AllReadyH.cons ho1 (fun K hK => H1 _ _ _ _ _ K hI (fun w' hI' hR hB hlt => hK.out _ _ (hS _ hI') (fun _ => ?_))) ?_
  ·rw [hp1, hL1]
   exact s1110 w.heap.size k2 k3 x4 w' hI' ⟨hR, hlt⟩ ⟨ps2 _ _ _ h2.1 h2.2 hB, Nat.lt_trans h2.2 hlt⟩ ⟨ps3 _ _ _ h3.1 h3.2 hB, Nat.lt_trans h3.2 hlt⟩ (Nat.ne_of_gt h2.2) (Nat.ne_of_gt h3.2) n23
  refine AllReadyH.cons ho4 (fun K hK => H4 _ _ _ _ _ K hI (fun w' hI' hR hB hlt => hK.out _ _ (hS _ hI') (fun _ => ?_))) AllReadyH.nil
  rw [hp4, hL4]
  exact s0111 x1 k2 k3 w.heap.size w' hI' ⟨ps2 _ _ _ h2.1 h2.2 hB, Nat.lt_trans h2.2 hlt⟩ ⟨ps3 _ _ _ h3.1 h3.2 hB, Nat.lt_trans h3.2 hlt⟩ ⟨hR, hlt⟩ n23 (Nat.ne_of_lt h2.2) (Nat.ne_of_lt h3.2)
 have s0101 : ∀ (x1 : Value) (k2 : Nat) (x3 : Value) (k4 : Nat) (w : World), Inv w → (R2 k2 w ∧ k2 < w.heap.size) → (R4 k4 w ∧ k4 < w.heap.size) → k2 ≠ k4 → wpAnyH P md ops Q S (fuel + 2) (L4 false true false true) (A4 x1 (X2 k2) x3 (X4 k4)) w := by
  intro x1 k2 x3 k4 w hI h2 h4 n24
  refine wpAnyH_ready r0101 (by simp) ?_
  refine AllReadyH.cons ho1 (fun K hK => H1 _ _ _ _ _ K hI (fun w' hI' hR hB hlt => hK.out _ _ (hS _ hI') (fun _ => ?_))) ?_
  ·rw [hp1, hL1]
   exact s1101 w.heap.size k2 x3 k4 w' hI' ⟨hR, hlt⟩ ⟨ps2 _ _ _ h2.1 h2.2 hB, Nat.lt_trans h2.2 hlt⟩ ⟨ps4 _ _ _ h4.1 h4.2 hB, Nat.lt_trans h4.2 hlt⟩ (Nat.ne_of_gt h2.2) (Nat.ne_of_gt h4.2) n24
  refine AllReadyH.cons ho3 (fun K hK => H3 _ _ _ _ _ K hI (fun w' hI' hR hB hlt => hK.out _ _ (hS _ hI') (fun _ => ?_))) AllReadyH.nil
  rw [hp3, hL3]
  exact s0111 x1 k2 w.heap.size k4 w' hI' ⟨ps2 _ _ _ h2.1 h2.2 hB, Nat.lt_trans h2.2 hlt⟩ ⟨hR, hlt⟩ ⟨ps4 _ _ _ h4.1 h4.2 hB, Nat.lt_trans h4.2 hlt⟩ (Nat.ne_of_lt h2.2) n24 (Nat.ne_of_gt h4.2)
 have s0011 : ∀ (x1 : Value) (x2 : Value) (k3 : Nat) (k4 : Nat) (w : World), Inv w → (R3 k3 w ∧ k3 < w.heap.size) → (R4 k4 w ∧ k4 < w.heap.size) → k3 ≠ k4 → wpAnyH P md ops Q S (fuel + 2) (L4 false false true true) (A4 x1 x2 (X3 k3) (X4 k4)) w := by
  intro x1 x2 k3 k4 w hI h3 h4 n34
  refine wpAnyH_ready r0011 (by simp) ?_
  refine AllReadyH.cons ho1 (fun K hK => H1 _ _ _ _ _ K hI (fun w' hI' hR hB hlt => hK.out _ _ (hS _ hI') (fun _ => ?_))) ?_
  ·rw [hp1, hL1]
   exact s1011 w.heap.size x2 k3 k4 w' hI' ⟨hR, hlt⟩ ⟨ps3 _ _ _ h3.1 h3.2 hB, Nat.lt_trans h3.2 hlt⟩ ⟨ps4 _ _ _ h4.1 h4.2 hB, Nat.lt_trans h4.2 hlt⟩ (Nat.ne_of_gt h3.2) (Nat.ne_of_gt h4.2) n34
  refine AllReadyH.cons ho2 (fun K hK => H2 _ _ _ _ _ K hI (fun w' hI' hR hB hlt => hK.out _ _ (hS _ hI') (fun _ => ?_))) AllReadyH.nil
  rw [hp2, hL2]
  exact s0111 x1 w.heap.size k3 k4 w' hI' ⟨hR, hlt⟩ ⟨ps3 _ _ _ h3.1 h3.2 hB, Nat.lt_trans h3.2 hlt⟩ ⟨ps4 _ _ _ h4.1 h4.2 hB, Nat.lt_trans h4.2 hlt⟩ (Nat.ne_of_gt h3.2) (Nat.ne_of_gt h4.2) n34
 have s1000 : ∀ (k1 : Nat) (x2 : Value) (x3 : Value) (x4 : Value) (w : World), Inv w → (R1 k1 w ∧ k1 < w.heap.size) → wpAnyH P md ops Q S (fuel + 3) (L4 true false false false) (A4 (X1 k1) x2 x3 x4) w := by
  intro k1 x2 x3 x4 w hI h1 
  refine wpAnyH_ready r1000 (by simp) ?_
  refine AllReadyH.cons ho2 (fun K hK => H2 _ _ _ _ _ K hI (fun w' hI' hR hB hlt => hK.out _ _ (hS _ hI') (fun _ => ?_))) ?_
  ·rw [hp2, hL2]
   exact s1100 k1 w.heap.size x3 x4 w' hI' ⟨ps1 _ _ _ h1.1 h1.2 hB, Nat.lt_trans h1.2 hlt⟩ ⟨hR, hlt⟩ (Nat.ne_of_lt h1.2)
  refine AllReadyH.cons ho3 (fun K hK => H3 _ _ _ _ _ K hI (fun w' hI' hR hB hlt => hK.out _ _ (hS _ hI') (fun _ => ?_))) ?_
  ·rw [hp3, hL3]
   exact s1010 k1 x2 w.heap.size x4 w' hI' ⟨ps1 _ _ _ h1.1 h1.2 hB, Nat.lt_trans h1.2 hlt⟩ ⟨hR, hlt⟩ (Nat.ne_of_lt h1.2)
  refine AllReadyH.cons ho4 (fun K hK => H4 _ _ _ _ _ K hI (fun w' hI' hR hB hlt => hK.out _ _ (hS _ hI') (fun _ => ?_))) AllReadyH.nil
  rw [hp4, hL4]
  exact s1001 k1 x2 x3 w.heap.size w' hI' ⟨ps1 _ _ _ h1.1 h1.2 hB, Nat.lt_trans h1.2 hlt⟩ ⟨hR, hlt⟩ (Nat.ne_of_lt h1.2)
 have s0100 : ∀ (x1 : Value) (k2 : Nat) (x3 : Value) (x4 : Value) (w : World), Inv w → (R2 k2 w ∧ k2 < w.heap.size) → wpAnyH P md ops Q S (fuel + 3) (L4 false true false false) (A4 x1 (X2 k2) x3 x4) w := by
  intro x1 k2 x3 x4 w hI h2 
  refine wpAnyH_ready r0100 (by simp) ?_
  refine AllReadyH.cons ho1 (fun K hK => H1 _ _ _ _ _ K hI (fun w' hI' hR hB hlt => hK.out _ _ (hS _ hI') (fun _ => ?_))) ?_
  ·rw [hp1, hL1]
   exact s1100 w.heap.size k2 x3 x4 w' hI' ⟨hR, hlt⟩ ⟨ps2 _ _ _ h2.1 h2.2 hB, Nat.lt_trans h2.2 hlt⟩ (Nat.ne_of_gt h2.2)
  refine AllReadyH.cons ho3 (fun K hK => H3 _ _ _ _ _ K hI (fun w' hI' hR hB hlt => hK.out _ _ (hS _ hI') (fun _ => ?_))) ?_
  ·rw [hp3, hL3]
   exact s0110 x1 k2 w.heap.size x4 w' hI' ⟨ps2 _ _ _ h2.1 h2.2 hB, Nat.lt_trans h2.2 hlt⟩ ⟨hR, hlt⟩ (Nat.ne_of_lt h2.2)
  refine AllReadyH.cons ho4 (fun K hK => H4 _ _ _ _ _ K hI (fun w' hI' hR hB hlt => hK.out _ _ (hS _ hI') (fun _ => ?_))) AllReadyH.nil
  rw [hp4, hL4]
  exact s0101 x1 k2 x3 w.heap.size w' hI' ⟨ps2 _ _ _ h2.1 h2.2 hB, Nat.lt_trans h2.2 hlt⟩ ⟨hR, hlt⟩ (Nat.ne_of_lt h2.2)
 have s0010 : ∀ (x1 : Value) (x2 : Value) (k3 : Nat) (x4 : Value) (w : World), Inv w → (R3 k3 w ∧ k3 < w.heap.size) → wpAnyH P md ops Q S (fuel + 3) (L4 false false true false) (A4 x1 x2 (X3 k3) x4) w := by
  intro x1 x2 k3 x4 w hI h3 
  refine wpAnyH_ready r0010 (by simp) ?_
  refine AllReadyH.cons ho1 (fun K hK => H1 _ _ _ _ _ K hI (fun w' hI' hR hB hlt => hK.out _ _ (hS _ hI') (fun _ => ?_))) ?_
  ·rw [hp1, hL1]
   exact s1010 w.heap.size x2 k3 x4 w' hI' ⟨hR, hlt⟩ ⟨ps3 _ _ _ h3.1 h3.2 hB, Nat.lt_trans h3.2 hlt⟩ (Nat.ne_of_gt h3.2)
  refine AllReadyH.cons ho2 (fun K hK => H2 _ _ _ _ _ K hI (fun w' hI' hR hB hlt => hK.out _ _ (hS _ hI') (fun _ => ?_))) ?_
  ·rw [hp2, hL2]
   exact s0110 x1 w.heap.size k3 x4 w' hI' ⟨hR, hlt⟩ ⟨ps3 _ _ _ h3.1 h3.2 hB, Nat.lt_trans h3.2 hlt⟩ (Nat.ne_of_gt h3.2)
  refine AllReadyH.cons ho4 (fun K hK => H4 _ _ _ _ _ K hI (fun w' hI' hR hB hlt => hK.out _ _ (hS _ hI') (fun _ => ?_))) AllReadyH.nil
  rw [hp4, hL4]
  exact s0011 x1 x2 k3 w.heap.size w' hI' ⟨ps3 _ _ _ h3.1 h3.2 hB, Nat.lt_trans h3.2 hlt⟩ ⟨hR, hlt⟩ (Nat.ne_of_lt h3.2)
 have s0001 : ∀ (x1 : Value) (x2 : Value) (x3 : Value) (k4 : Nat) (w : World), Inv w → (R4 k4 w ∧ k4 < w.heap.size) → wpAnyH P md ops Q S (fuel + 3) (L4 false false false true) (A4 x1 x2 x3 (X4 k4)) w := by
  intro x1 x2 x3 k4 w hI h4 
  refine wpAnyH_ready r0001 (by simp) ?_
  refine AllReadyH.cons ho1 (fun K hK => H1 _ _ _ _ _ K hI (fun w' hI' hR hB hlt => hK.out _ _ (hS _ hI') (fun _ => ?_))) ?_
  ·rw [hp1, hL1]
   exact s1001 w.heap.size x2 x3 k4 w' hI' ⟨hR, hlt⟩ ⟨ps4 _ _ _ h4.1 h4.2 hB, Nat.lt_trans h4.2 hlt⟩ (Nat.ne_of_gt h4.2)
  refine AllReadyH.cons ho2 (fun K hK => H2 _ _ _ _ _ K hI (fun w' hI' hR hB hlt => hK.out _ _ (hS _ hI') (fun _ => ?_))) ?_
  ·rw [hp2, hL2]
   exact s0101 x1 w.heap.size x3 k4 w' hI' ⟨hR, hlt⟩ ⟨ps4 _ _ _ h4.1 h4.2 hB, Nat.lt_trans h4.2 hlt⟩ (Nat.ne_of_gt h4.2)
  refine AllReadyH.cons ho3 (fun K hK => H3 _ _ _ _ _ K hI (fun w' hI' hR hB hlt => hK.out _ _ (hS _ hI') (fun _ => ?_))) AllReadyH.nil
  rw [hp3, hL3]
  exact s0011 x1 x2 w.heap.size k4 w' hI' ⟨hR, hlt⟩ ⟨ps4 _ _ _ h4.1 h4.2 hB, Nat.lt_trans h4.2 hlt⟩ (Nat.ne_of_gt h4.2)
 have s0000 : ∀ (x1 : Value) (x2 : Value) (x3 : Value) (x4 : Value) (w : World), Inv w → wpAnyH P md ops Q S (fuel + 4) (L4 false false false false) (A4 x1 x2 x3 x4) w := by
  intro x1 x2 x3 x4 w hI  
  refine wpAnyH_ready r0000 (by simp) ?_
  refine AllReadyH.cons ho1 (fun K hK => H1 _ _ _ _ _ K hI (fun w' hI' hR hB hlt => hK.out _ _ (hS _ hI') (fun _ => ?_))) ?_
  ·rw [hp1, hL1]
   exact s1000 w.heap.size x2 x3 x4 w' hI' ⟨hR, hlt⟩ 
  refine AllReadyH.cons ho2 (fun K hK => H2 _ _ _ _ _ K hI (fun w' hI' hR hB hlt => hK.out _ _ (hS _ hI') (fun _ => ?_))) ?_
  ·rw [hp2, hL2]
   exact s0100 x1 w.heap.size x3 x4 w' hI' ⟨hR, hlt⟩ 
  refine AllReadyH.cons ho3 (fun K hK => H3 _ _ _ _ _ K hI (fun w' hI' hR hB hlt => hK.out _ _ (hS _ hI') (fun _ => ?_))) ?_
  ·rw [hp3, hL3]
   exact s0010 x1 x2 w.heap.size x4 w' hI' ⟨hR, hlt⟩ 
  refine AllReadyH.cons ho4 (fun K hK => H4 _ _ _ _ _ K hI (fun w' hI' hR hB hlt => hK.out _ _ (hS _ hI') (fun _ => ?_))) AllReadyH.nil
  rw [hp4, hL4]
  exact s0001 x1 x2 x3 w.heap.size w' hI' ⟨hR, hlt⟩ 
 rw [hl, ha]
 exact s0000 y1 y2 y3 y4 w hI
end Go.Proofs.Ytefjicdhccfieaa
