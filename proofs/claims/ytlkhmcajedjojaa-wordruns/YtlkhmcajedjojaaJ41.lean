import Derived.Test.YtlkhmcajedjojaaJ38
import Derived.Test.YtlkhmcajedjojaaJ39
import Derived.Test.YtlkhmcajedjojaaJ40
namespace Go.Proofs.Ytlkhmcajedjojaa
open Go.RowKit

def pAt {α : Type} (l : List α) (f : α → Bool) (i : Nat) : Bool := (l[i]?.map f).getD true
theorem pAt_eq {α : Type} {l : List α} {f : α → Bool} {i : Nat} {x : α} (h : l[i]? = some x) : pAt l f i = f x := by unfold pAt; rw [h]; rfl
theorem all_pAt {α : Type} (l : List α) (f : α → Bool) : (List.range l.length).all (pAt l f) = l.all f := by
  rw [Bool.eq_iff_iff, List.all_eq_true, List.all_eq_true]
  constructor
  · intro h x hx
    obtain ⟨i, hi, rfl⟩ := List.getElem_of_mem hx
    have := h i (List.mem_range.2 hi)
    rw [pAt_eq (List.getElem?_eq_getElem hi)] at this
    exact this
  · intro h i hi
    have hi' := List.mem_range.1 hi
    rw [pAt_eq (List.getElem?_eq_getElem hi')]
    exact h _ (List.getElem_mem hi')
theorem all_both {α : Type} (l : List α) (f g : α → Bool) : l.all (fun x => f x && g x) = (l.all f && l.all g) := by
  induction l with
  | nil => rfl
  | cons a r ih => simp only [List.all_cons, ih]; cases f a <;> cases g a <;> simp

set_option maxRecDepth 100000 in
set_option maxHeartbeats 8000000 in
theorem valid1_any (B : Nat) (w : World) (cb : Nat) (S : NetS) (N : NetD) (h : CkAt B w cb S N) (k : Nat) (hk : k < N.ins.length) :
    Calls Try.prog 10 #[.int .i64 k, .pointer (some ⟨cb, 0, none⟩)] w fun e w' => e = .returned (.bool (pAt N.ins widthOk k)) ∧ Below w.heap.size w w' := by
  obtain ⟨b, o, ea, hb, hc⟩ := h.net.i.int hk
  have ca := hc k hk
  have hkI : (k : Int) < (N.ins.length : Int) := by omega
  have q : w.cell? ⟨cb, 0, none⟩ = some (.slice S.a0 N.ins.length S.c0) := h.cells 0
  rw [ea] at q
  rw [pAt_eq (at0_of hk)]
  generalize at0 N.ins k = x at *
  have WD : Hid (∀ w, Calls Try.prog 11 #[.int .i64 x] w fun e w' => e = .returned (.bool (widthOk x)) ∧ w' = w) := fun w => isWidth_any x w
  generalize widthOk x = wo at *
  clear h hc ea hk
  go_enter Try.func10, Try.ntmps10
  go_wp2_with (go_at_call 11; refine (WD.out _).mono ?_; rintro e w' ⟨rfl, rfl⟩)
  go_ret
  exact ⟨rfl, Below.refl _ _⟩

set_option maxRecDepth 100000 in
set_option maxHeartbeats 8000000 in
theorem valid2_any (B : Nat) (w : World) (cb : Nat) (S : NetS) (N : NetD) (h : CkAt B w cb S N) (hB : B ≤ w.heap.size) (ub : Nat) (hu : w.cell? ⟨ub, 0, none⟩ = some (.pointer (some ⟨cb, 0, none⟩))) (hub : ub < w.heap.size) (k : Nat) (hk : k < N.outs.length) :
    Calls Try.prog 16 #[.int .i64 k, .pointer (some ⟨ub, 0, none⟩), .pointer (some ⟨cb, 0, none⟩)] w fun e w' => e = .returned (.bool (pAt N.outs (outOk N) k)) ∧ Below w.heap.size w w' := by
  obtain ⟨b, o, ea, hb, hc⟩ := h.net.o.int hk
  have ca := hc k hk
  have hkI : (k : Int) < (N.outs.length : Int) := by omega
  have q : w.cell? ⟨cb, 5, none⟩ = some (.slice S.a5 N.outs.length S.c5) := h.cells 5
  have hcb : cb < w.heap.size := Nat.lt_of_lt_of_le h.lt hB
  have hb' : b < w.heap.size := Nat.lt_of_lt_of_le hb hB
  rw [ea] at q
  rw [pAt_eq (at0_of hk)]
  generalize at0 N.outs k = x at *
  have IN : Hid (∀ w', Below w.heap.size w w' → Calls Try.prog 17 #[ckV cb, .int .i64 x] w' fun e w'' => e = .returned (.bool (outOk N x)) ∧ Below w'.heap.size w' w'') := fun w' hw' => isNode_any B w' cb S N (h.to (hw'.mono hB)) (Nat.le_trans hB hw'.size) x
  unfold ckV at *
  generalize outOk N x = wo at *
  clear h hc ea hk
  go_enter Try.func16, Try.ntmps16
  go_wp2_with fail
  refine wp_region_noPanic ?_
  refine wp_region_held_drew (S := (fun w' => Below w.heap.size w w' ∧ (∀ b' o, b' < w.heap.size → w'.cell? ⟨b', o, none⟩ = w.cell? ⟨b', o, none⟩))) (by kernel_rfl) (by (first | assumption | exact sees_of (Below.refl _ _) | exact sees_of (Below.refl _ _).drew | exact sees_after (by assumption) (by assumption))) (fun hHeld => ?_)
  refine wpAnyH_take (i := 0) (oi := _) (v := ?_) rfl (by kernel_rfl) (by kernel_rfl) (by kernel_rfl) (fun _ _ _ h => h) (Or.inl ⟨by rfl, ?_⟩) (by assumption) ?_
  rotate_left
  · (intro w0 hSw; (try dsimp only at hSw); (try simp only [List.getElem_toArray, List.getElem_cons_zero]); go_simp; try (with_reducible rfl))
  try simp only [Act.put, List.getElem_toArray, List.getElem_cons_zero, List.setIfInBounds_toArray, List.set_cons_zero, List.set_cons_succ]
  refine wpAnyH_take (i := 1) (oi := _) (v := ?_) rfl (by kernel_rfl) (by kernel_rfl) (by kernel_rfl) (fun _ _ _ h => h) (Or.inl ⟨by rfl, ?_⟩) (by assumption) ?_
  rotate_left
  · (intro w0 hSw; (try dsimp only at hSw); (try simp only [List.getElem_toArray, List.getElem_cons_zero, List.getElem_cons_succ]); go_simp; try (with_reducible rfl))
  try simp only [Act.put, List.getElem_toArray, List.getElem_cons_zero, List.getElem_cons_succ, List.setIfInBounds_toArray, List.set_cons_zero, List.set_cons_succ]
  refine wpAnyH_take (i := 2) (oi := _) (v := ?_) rfl (by kernel_rfl) (by kernel_rfl) (by kernel_rfl) (fun _ _ _ h => h) (Or.inl ⟨by rfl, ?_⟩) (by assumption) ?_
  rotate_left
  · (intro w0 hSw; (try dsimp only at hSw); (try simp only [List.getElem_toArray, List.getElem_cons_zero, List.getElem_cons_succ]); go_simp; try (with_reducible rfl))
  try simp only [Act.put, List.getElem_toArray, List.getElem_cons_zero, List.getElem_cons_succ, List.setIfInBounds_toArray, List.set_cons_zero, List.set_cons_succ]
  refine wpAnyH_take (i := 3) (oi := _) (v := ?_) rfl (by kernel_rfl) (by kernel_rfl) (by kernel_rfl) (fun _ _ _ h => h) (Or.inl ⟨by rfl, ?_⟩) (by assumption) ?_
  rotate_left
  · (intro w0 hSw; (try dsimp only at hSw); (try simp only [List.getElem_toArray, List.getElem_cons_zero, List.getElem_cons_succ]); go_simp; try (with_reducible rfl))
  try simp only [Act.put, List.getElem_toArray, List.getElem_cons_zero, List.getElem_cons_succ, List.setIfInBounds_toArray, List.set_cons_zero, List.set_cons_succ]
  refine wpAnyH_take (i := 4) (oi := _) (v := ?_) rfl (by kernel_rfl) (by kernel_rfl) (by kernel_rfl) (fun _ _ _ h => h) (Or.inl ⟨by rfl, ?_⟩) (by assumption) ?_
  rotate_left
  · (intro w0 hSw; (try dsimp only at hSw); (try simp only [List.getElem_toArray, List.getElem_cons_zero, List.getElem_cons_succ]); go_simp; try (with_reducible rfl))
  try simp only [Act.put, List.getElem_toArray, List.getElem_cons_zero, List.getElem_cons_succ, List.setIfInBounds_toArray, List.set_cons_zero, List.set_cons_succ]
  refine wpAnyH_take (i := 5) (oi := _) (v := ?_) rfl (by kernel_rfl) (by kernel_rfl) (by kernel_rfl) (fun _ _ _ h => h) (Or.inl ⟨by rfl, ?_⟩) (by assumption) ?_
  rotate_left
  · (intro w0 hSw; (try dsimp only at hSw); (try simp only [List.getElem_toArray, List.getElem_cons_zero, List.getElem_cons_succ]); go_simp; try (with_reducible rfl))
  try simp only [Act.put, List.getElem_toArray, List.getElem_cons_zero, List.getElem_cons_succ, List.setIfInBounds_toArray, List.set_cons_zero, List.set_cons_succ]
  refine wpAnyH_ready (rs := [6]) (by kernel_rfl) (by simp) ?_
  refine AllReadyH.cons (o := _) rfl (fun K hK => ?_) AllReadyH.nil
  (try simp only [List.getElem_toArray, List.getElem_cons_zero, List.getElem_cons_succ])
  go_simp
  go_at_call 17
  refine (IN.out _ (And.left (by assumption))).mono ?_
  rintro e w2 ⟨rfl, hb2⟩
  go_wp2_with fail
  refine hK.out _ _ (by (first | assumption | exact sees_of (Below.refl _ _) | exact sees_of (Below.refl _ _).drew | exact sees_after (by assumption) (by assumption))) (fun hHeld1 => ?_)
  clear hK K
  try simp only [Act.put, List.setIfInBounds_toArray, List.set_cons_zero, List.set_cons_succ]
  refine wpAnyH_take (i := 7) (oi := _) (v := ?_) rfl (by kernel_rfl) (by kernel_rfl) (by kernel_rfl) (fun _ _ _ h => h) (Or.inl ⟨by rfl, ?_⟩) (by assumption) ?_
  rotate_left
  · (intro w0 hSw; (try dsimp only at hSw); (try simp only [List.getElem_toArray, List.getElem_cons_zero, List.getElem_cons_succ]); go_simp; try (with_reducible rfl))
  try simp only [Act.put, List.getElem_toArray, List.getElem_cons_zero, List.getElem_cons_succ, List.setIfInBounds_toArray, List.set_cons_zero, List.set_cons_succ]
  refine wpAnyH_done (by kernel_rfl) ?_ _
  refine NoPanic.normal ?_
  have HB2 : Hid (Below w.heap.size w _) := And.left (by assumption)
  go_wp2_with fail
  go_ret
  exact ⟨rfl, HB2.out⟩

set_option maxRecDepth 100000 in
set_option maxHeartbeats 8000000 in
theorem holds_ins (p : Nat → Bool) (n : Nat) (hn : n < big) (W : World) (v : Value) (HF : Hid (∀ i, i < n → (∀ j, j < i → p j = true) → ∀ w', Below W.heap.size W w' → Calls Try.prog 10 #[.int .i64 i, v] w' fun e w'' => e = .returned (.bool (p i)) ∧ Below w'.heap.size w' w'')) :
    Calls Try.prog 9 #[.int .i64 n, .func (.func 10) #[] #[v]] W fun e w' => e = .returned (.bool ((List.range n).all p)) ∧ Below W.heap.size W w' := by
  obtain ⟨r, HR⟩ : ∃ r, Hid ((List.range n).all p = r) := ⟨_, rfl⟩
  rw [HR.out]
  simp only [big] at hn
  go_enter Try.func9, Try.ntmps9
  go_wp2_with fail
  go_loopw [7] (fun i' w' => ∃ (k : Nat), k ≤ n ∧ i' = .int .i64 k ∧ Hid (∀ j, j < k → p j = true) ∧ Hid (Below W.heap.size W w')) (fun i' _ => n - (intOf i').toNat)
  case atStart => exact ⟨0, Nat.zero_le _, rfl, fun j hj => absurd hj (Nat.not_lt_zero j), Below.refl _ _⟩
  case round =>
    obtain ⟨k, hk, rfl, HA, HBr⟩ := hrel
    by_cases hlt : k < n
    · have C := hidden (HF.out k hlt HA.out _ HBr.out)
      have hltI : (k : Int) < (n : Int) := by omega
      have e2 : IntKind.i64.wrap ((k : Int) + 1) = (k : Int) + 1 := wrapI _ (by omega) (by omega)
      have HP := hidden (show p k = p k from rfl)
      obtain ⟨b, HPb⟩ : ∃ b, Hid (p k = b) := ⟨_, rfl⟩
      rw [HPb.out] at C
      clear HP
      cases b
      · have e : r = false := by
          rw [← HR.out]
          cases hr : (List.range n).all p with
          | false => rfl
          | true => have := List.all_eq_true.1 hr k (List.mem_range.2 hlt); rw [HPb.out] at this; cases this
        subst e
        clear HR HPb HA
        go_wp2_with (go_at_call 10; refine C.out.mono ?_; rintro e w2 ⟨rfl, hb2⟩)
        go_ret
        exact ⟨rfl, HBr.out.trans (hb2.mono HBr.out.size)⟩
      · have HA2 : Hid (∀ j, j < k + 1 → p j = true) := fun j hj => by
          rcases Nat.lt_succ_iff_lt_or_eq.1 hj with h | h
          · exact HA.out j h
          · subst h; exact HPb.out
        clear HPb HA
        go_wp2_with (go_at_call 10; refine C.out.mono ?_; rintro e w2 ⟨rfl, hb2⟩)
        go_roundw
        case measure => simp [intOf]; omega
        case rel => exact ⟨k + 1, by omega, by simp, HA2.out, HBr.out.trans (hb2.mono HBr.out.size)⟩
    · have hge : ¬ ((k : Int) < (n : Int)) := by omega
      have e : r = true := by
        rw [← HR.out]
        exact List.all_eq_true.2 fun j hj => HA.out j (by have := List.mem_range.1 hj; omega)
      subst e
      clear HR HA
      go_wp2
      go_ret
      exact ⟨rfl, HBr.out⟩

set_option maxRecDepth 100000 in
set_option maxHeartbeats 8000000 in
theorem holds_memory (p : Nat → Bool) (n : Nat) (hn : n < big) (W : World) (v : Value) (HF : Hid (∀ i, i < n → (∀ j, j < i → p j = true) → ∀ w', Below W.heap.size W w' → Calls Try.prog 12 #[v, .int .i64 i] w' fun e w'' => e = .returned (.bool (p i)) ∧ Below w'.heap.size w' w'')) :
    Calls Try.prog 9 #[.int .i64 n, .func (.func 12) #[v] #[]] W fun e w' => e = .returned (.bool ((List.range n).all p)) ∧ Below W.heap.size W w' := by
  obtain ⟨r, HR⟩ : ∃ r, Hid ((List.range n).all p = r) := ⟨_, rfl⟩
  rw [HR.out]
  simp only [big] at hn
  go_enter Try.func9, Try.ntmps9
  go_wp2_with fail
  go_loopw [7] (fun i' w' => ∃ (k : Nat), k ≤ n ∧ i' = .int .i64 k ∧ Hid (∀ j, j < k → p j = true) ∧ Hid (Below W.heap.size W w')) (fun i' _ => n - (intOf i').toNat)
  case atStart => exact ⟨0, Nat.zero_le _, rfl, fun j hj => absurd hj (Nat.not_lt_zero j), Below.refl _ _⟩
  case round =>
    obtain ⟨k, hk, rfl, HA, HBr⟩ := hrel
    by_cases hlt : k < n
    · have C := hidden (HF.out k hlt HA.out _ HBr.out)
      have hltI : (k : Int) < (n : Int) := by omega
      have e2 : IntKind.i64.wrap ((k : Int) + 1) = (k : Int) + 1 := wrapI _ (by omega) (by omega)
      have HP := hidden (show p k = p k from rfl)
      obtain ⟨b, HPb⟩ : ∃ b, Hid (p k = b) := ⟨_, rfl⟩
      rw [HPb.out] at C
      clear HP
      cases b
      · have e : r = false := by
          rw [← HR.out]
          cases hr : (List.range n).all p with
          | false => rfl
          | true => have := List.all_eq_true.1 hr k (List.mem_range.2 hlt); rw [HPb.out] at this; cases this
        subst e
        clear HR HPb HA
        go_wp2_with (go_at_call 12; refine C.out.mono ?_; rintro e w2 ⟨rfl, hb2⟩)
        go_ret
        exact ⟨rfl, HBr.out.trans (hb2.mono HBr.out.size)⟩
      · have HA2 : Hid (∀ j, j < k + 1 → p j = true) := fun j hj => by
          rcases Nat.lt_succ_iff_lt_or_eq.1 hj with h | h
          · exact HA.out j h
          · subst h; exact HPb.out
        clear HPb HA
        go_wp2_with (go_at_call 12; refine C.out.mono ?_; rintro e w2 ⟨rfl, hb2⟩)
        go_roundw
        case measure => simp [intOf]; omega
        case rel => exact ⟨k + 1, by omega, by simp, HA2.out, HBr.out.trans (hb2.mono HBr.out.size)⟩
    · have hge : ¬ ((k : Int) < (n : Int)) := by omega
      have e : r = true := by
        rw [← HR.out]
        exact List.all_eq_true.2 fun j hj => HA.out j (by have := List.mem_range.1 hj; omega)
      subst e
      clear HR HA
      go_wp2
      go_ret
      exact ⟨rfl, HBr.out⟩

set_option maxRecDepth 100000 in
set_option maxHeartbeats 8000000 in
theorem holds_node (p : Nat → Bool) (n : Nat) (hn : n < big) (W : World) (v : Value) (HF : Hid (∀ i, i < n → (∀ j, j < i → p j = true) → ∀ w', Below W.heap.size W w' → Calls Try.prog 13 #[v, .int .i64 i] w' fun e w'' => e = .returned (.bool (p i)) ∧ Below w'.heap.size w' w'')) :
    Calls Try.prog 9 #[.int .i64 n, .func (.func 13) #[v] #[]] W fun e w' => e = .returned (.bool ((List.range n).all p)) ∧ Below W.heap.size W w' := by
  obtain ⟨r, HR⟩ : ∃ r, Hid ((List.range n).all p = r) := ⟨_, rfl⟩
  rw [HR.out]
  simp only [big] at hn
  go_enter Try.func9, Try.ntmps9
  go_wp2_with fail
  go_loopw [7] (fun i' w' => ∃ (k : Nat), k ≤ n ∧ i' = .int .i64 k ∧ Hid (∀ j, j < k → p j = true) ∧ Hid (Below W.heap.size W w')) (fun i' _ => n - (intOf i').toNat)
  case atStart => exact ⟨0, Nat.zero_le _, rfl, fun j hj => absurd hj (Nat.not_lt_zero j), Below.refl _ _⟩
  case round =>
    obtain ⟨k, hk, rfl, HA, HBr⟩ := hrel
    by_cases hlt : k < n
    · have C := hidden (HF.out k hlt HA.out _ HBr.out)
      have hltI : (k : Int) < (n : Int) := by omega
      have e2 : IntKind.i64.wrap ((k : Int) + 1) = (k : Int) + 1 := wrapI _ (by omega) (by omega)
      have HP := hidden (show p k = p k from rfl)
      obtain ⟨b, HPb⟩ : ∃ b, Hid (p k = b) := ⟨_, rfl⟩
      rw [HPb.out] at C
      clear HP
      cases b
      · have e : r = false := by
          rw [← HR.out]
          cases hr : (List.range n).all p with
          | false => rfl
          | true => have := List.all_eq_true.1 hr k (List.mem_range.2 hlt); rw [HPb.out] at this; cases this
        subst e
        clear HR HPb HA
        go_wp2_with (go_at_call 13; refine C.out.mono ?_; rintro e w2 ⟨rfl, hb2⟩)
        go_ret
        exact ⟨rfl, HBr.out.trans (hb2.mono HBr.out.size)⟩
      · have HA2 : Hid (∀ j, j < k + 1 → p j = true) := fun j hj => by
          rcases Nat.lt_succ_iff_lt_or_eq.1 hj with h | h
          · exact HA.out j h
          · subst h; exact HPb.out
        clear HPb HA
        go_wp2_with (go_at_call 13; refine C.out.mono ?_; rintro e w2 ⟨rfl, hb2⟩)
        go_roundw
        case measure => simp [intOf]; omega
        case rel => exact ⟨k + 1, by omega, by simp, HA2.out, HBr.out.trans (hb2.mono HBr.out.size)⟩
    · have hge : ¬ ((k : Int) < (n : Int)) := by omega
      have e : r = true := by
        rw [← HR.out]
        exact List.all_eq_true.2 fun j hj => HA.out j (by have := List.mem_range.1 hj; omega)
      subst e
      clear HR HA
      go_wp2
      go_ret
      exact ⟨rfl, HBr.out⟩

set_option maxRecDepth 100000 in
set_option maxHeartbeats 8000000 in
theorem holds_register (p : Nat → Bool) (n : Nat) (hn : n < big) (W : World) (v : Value) (HF : Hid (∀ i, i < n → (∀ j, j < i → p j = true) → ∀ w', Below W.heap.size W w' → Calls Try.prog 14 #[v, .int .i64 i] w' fun e w'' => e = .returned (.bool (p i)) ∧ Below w'.heap.size w' w'')) :
    Calls Try.prog 9 #[.int .i64 n, .func (.func 14) #[v] #[]] W fun e w' => e = .returned (.bool ((List.range n).all p)) ∧ Below W.heap.size W w' := by
  obtain ⟨r, HR⟩ : ∃ r, Hid ((List.range n).all p = r) := ⟨_, rfl⟩
  rw [HR.out]
  simp only [big] at hn
  go_enter Try.func9, Try.ntmps9
  go_wp2_with fail
  go_loopw [7] (fun i' w' => ∃ (k : Nat), k ≤ n ∧ i' = .int .i64 k ∧ Hid (∀ j, j < k → p j = true) ∧ Hid (Below W.heap.size W w')) (fun i' _ => n - (intOf i').toNat)
  case atStart => exact ⟨0, Nat.zero_le _, rfl, fun j hj => absurd hj (Nat.not_lt_zero j), Below.refl _ _⟩
  case round =>
    obtain ⟨k, hk, rfl, HA, HBr⟩ := hrel
    by_cases hlt : k < n
    · have C := hidden (HF.out k hlt HA.out _ HBr.out)
      have hltI : (k : Int) < (n : Int) := by omega
      have e2 : IntKind.i64.wrap ((k : Int) + 1) = (k : Int) + 1 := wrapI _ (by omega) (by omega)
      have HP := hidden (show p k = p k from rfl)
      obtain ⟨b, HPb⟩ : ∃ b, Hid (p k = b) := ⟨_, rfl⟩
      rw [HPb.out] at C
      clear HP
      cases b
      · have e : r = false := by
          rw [← HR.out]
          cases hr : (List.range n).all p with
          | false => rfl
          | true => have := List.all_eq_true.1 hr k (List.mem_range.2 hlt); rw [HPb.out] at this; cases this
        subst e
        clear HR HPb HA
        go_wp2_with (go_at_call 14; refine C.out.mono ?_; rintro e w2 ⟨rfl, hb2⟩)
        go_ret
        exact ⟨rfl, HBr.out.trans (hb2.mono HBr.out.size)⟩
      · have HA2 : Hid (∀ j, j < k + 1 → p j = true) := fun j hj => by
          rcases Nat.lt_succ_iff_lt_or_eq.1 hj with h | h
          · exact HA.out j h
          · subst h; exact HPb.out
        clear HPb HA
        go_wp2_with (go_at_call 14; refine C.out.mono ?_; rintro e w2 ⟨rfl, hb2⟩)
        go_roundw
        case measure => simp [intOf]; omega
        case rel => exact ⟨k + 1, by omega, by simp, HA2.out, HBr.out.trans (hb2.mono HBr.out.size)⟩
    · have hge : ¬ ((k : Int) < (n : Int)) := by omega
      have e : r = true := by
        rw [← HR.out]
        exact List.all_eq_true.2 fun j hj => HA.out j (by have := List.mem_range.1 hj; omega)
      subst e
      clear HR HA
      go_wp2
      go_ret
      exact ⟨rfl, HBr.out⟩

set_option maxRecDepth 100000 in
set_option maxHeartbeats 8000000 in
theorem holds_write (p : Nat → Bool) (n : Nat) (hn : n < big) (W : World) (v : Value) (HF : Hid (∀ i, i < n → (∀ j, j < i → p j = true) → ∀ w', Below W.heap.size W w' → Calls Try.prog 15 #[v, .int .i64 i] w' fun e w'' => e = .returned (.bool (p i)) ∧ Below w'.heap.size w' w'')) :
    Calls Try.prog 9 #[.int .i64 n, .func (.func 15) #[v] #[]] W fun e w' => e = .returned (.bool ((List.range n).all p)) ∧ Below W.heap.size W w' := by
  obtain ⟨r, HR⟩ : ∃ r, Hid ((List.range n).all p = r) := ⟨_, rfl⟩
  rw [HR.out]
  simp only [big] at hn
  go_enter Try.func9, Try.ntmps9
  go_wp2_with fail
  go_loopw [7] (fun i' w' => ∃ (k : Nat), k ≤ n ∧ i' = .int .i64 k ∧ Hid (∀ j, j < k → p j = true) ∧ Hid (Below W.heap.size W w')) (fun i' _ => n - (intOf i').toNat)
  case atStart => exact ⟨0, Nat.zero_le _, rfl, fun j hj => absurd hj (Nat.not_lt_zero j), Below.refl _ _⟩
  case round =>
    obtain ⟨k, hk, rfl, HA, HBr⟩ := hrel
    by_cases hlt : k < n
    · have C := hidden (HF.out k hlt HA.out _ HBr.out)
      have hltI : (k : Int) < (n : Int) := by omega
      have e2 : IntKind.i64.wrap ((k : Int) + 1) = (k : Int) + 1 := wrapI _ (by omega) (by omega)
      have HP := hidden (show p k = p k from rfl)
      obtain ⟨b, HPb⟩ : ∃ b, Hid (p k = b) := ⟨_, rfl⟩
      rw [HPb.out] at C
      clear HP
      cases b
      · have e : r = false := by
          rw [← HR.out]
          cases hr : (List.range n).all p with
          | false => rfl
          | true => have := List.all_eq_true.1 hr k (List.mem_range.2 hlt); rw [HPb.out] at this; cases this
        subst e
        clear HR HPb HA
        go_wp2_with (go_at_call 15; refine C.out.mono ?_; rintro e w2 ⟨rfl, hb2⟩)
        go_ret
        exact ⟨rfl, HBr.out.trans (hb2.mono HBr.out.size)⟩
      · have HA2 : Hid (∀ j, j < k + 1 → p j = true) := fun j hj => by
          rcases Nat.lt_succ_iff_lt_or_eq.1 hj with h | h
          · exact HA.out j h
          · subst h; exact HPb.out
        clear HPb HA
        go_wp2_with (go_at_call 15; refine C.out.mono ?_; rintro e w2 ⟨rfl, hb2⟩)
        go_roundw
        case measure => simp [intOf]; omega
        case rel => exact ⟨k + 1, by omega, by simp, HA2.out, HBr.out.trans (hb2.mono HBr.out.size)⟩
    · have hge : ¬ ((k : Int) < (n : Int)) := by omega
      have e : r = true := by
        rw [← HR.out]
        exact List.all_eq_true.2 fun j hj => HA.out j (by have := List.mem_range.1 hj; omega)
      subst e
      clear HR HA
      go_wp2
      go_ret
      exact ⟨rfl, HBr.out⟩

set_option maxRecDepth 100000 in
set_option maxHeartbeats 8000000 in
theorem holds_outs (p : Nat → Bool) (n : Nat) (hn : n < big) (W : World) (v u : Value) (HF : Hid (∀ i, i < n → (∀ j, j < i → p j = true) → ∀ w', Below W.heap.size W w' → Calls Try.prog 16 #[.int .i64 i, v, u] w' fun e w'' => e = .returned (.bool (p i)) ∧ Below w'.heap.size w' w'')) :
    Calls Try.prog 9 #[.int .i64 n, .func (.func 16) #[] #[v, u]] W fun e w' => e = .returned (.bool ((List.range n).all p)) ∧ Below W.heap.size W w' := by
  obtain ⟨r, HR⟩ : ∃ r, Hid ((List.range n).all p = r) := ⟨_, rfl⟩
  rw [HR.out]
  simp only [big] at hn
  go_enter Try.func9, Try.ntmps9
  go_wp2_with fail
  go_loopw [7] (fun i' w' => ∃ (k : Nat), k ≤ n ∧ i' = .int .i64 k ∧ Hid (∀ j, j < k → p j = true) ∧ Hid (Below W.heap.size W w')) (fun i' _ => n - (intOf i').toNat)
  case atStart => exact ⟨0, Nat.zero_le _, rfl, fun j hj => absurd hj (Nat.not_lt_zero j), Below.refl _ _⟩
  case round =>
    obtain ⟨k, hk, rfl, HA, HBr⟩ := hrel
    by_cases hlt : k < n
    · have C := hidden (HF.out k hlt HA.out _ HBr.out)
      have hltI : (k : Int) < (n : Int) := by omega
      have e2 : IntKind.i64.wrap ((k : Int) + 1) = (k : Int) + 1 := wrapI _ (by omega) (by omega)
      have HP := hidden (show p k = p k from rfl)
      obtain ⟨b, HPb⟩ : ∃ b, Hid (p k = b) := ⟨_, rfl⟩
      rw [HPb.out] at C
      clear HP
      cases b
      · have e : r = false := by
          rw [← HR.out]
          cases hr : (List.range n).all p with
          | false => rfl
          | true => have := List.all_eq_true.1 hr k (List.mem_range.2 hlt); rw [HPb.out] at this; cases this
        subst e
        clear HR HPb HA
        go_wp2_with (go_at_call 16; refine C.out.mono ?_; rintro e w2 ⟨rfl, hb2⟩)
        go_ret
        exact ⟨rfl, HBr.out.trans (hb2.mono HBr.out.size)⟩
      · have HA2 : Hid (∀ j, j < k + 1 → p j = true) := fun j hj => by
          rcases Nat.lt_succ_iff_lt_or_eq.1 hj with h | h
          · exact HA.out j h
          · subst h; exact HPb.out
        clear HPb HA
        go_wp2_with (go_at_call 16; refine C.out.mono ?_; rintro e w2 ⟨rfl, hb2⟩)
        go_roundw
        case measure => simp [intOf]; omega
        case rel => exact ⟨k + 1, by omega, by simp, HA2.out, HBr.out.trans (hb2.mono HBr.out.size)⟩
    · have hge : ¬ ((k : Int) < (n : Int)) := by omega
      have e : r = true := by
        rw [← HR.out]
        exact List.all_eq_true.2 fun j hj => HA.out j (by have := List.mem_range.1 hj; omega)
      subst e
      clear HR HA
      go_wp2
      go_ret
      exact ⟨rfl, HBr.out⟩

end Go.Proofs.Ytlkhmcajedjojaa
