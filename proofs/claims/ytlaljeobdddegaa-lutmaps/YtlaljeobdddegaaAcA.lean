import Derived.Test.YtlaljeobdddegaaAhQ
import Derived.Test.YtlaljeobdddegaaAgL
namespace Go.Proofs.Ytlaljeobdddegaa
open Go.RowKit

/-! What is needed: the least set that has the roots and is closed -/
abbrev Ops := List (Nat × Nat)
def Shut (first : Nat) (ops : Ops) (T : Nat → Prop) : Prop := ∀ (i a b : Nat), ops[i]? = some (a, b) → T (first + i) → T a ∧ T b
def Nd (first : Nat) (ops : Ops) (roots : List Nat) (v : Nat) : Prop := ∀ T : Nat → Prop, (∀ r, r ∈ roots → T r) → Shut first ops T → T v
/-- operands stand ahead -/
def Ahead (first : Nat) (ops : Ops) : Prop := ∀ (i a b : Nat), ops[i]? = some (a, b) → a < first + i ∧ b < first + i
def On (nd : List Bool) (v : Nat) : Prop := nd[v]? = some true

theorem nd_root {first : Nat} {ops : Ops} {roots : List Nat} {r : Nat} (h : r ∈ roots) : Nd first ops roots r := fun _ hr _ => hr r h
theorem nd_op {first : Nat} {ops : Ops} {roots : List Nat} {i a b : Nat} (ho : ops[i]? = some (a, b)) (h : Nd first ops roots (first + i)) : Nd first ops roots a ∧ Nd first ops roots b :=
  ⟨fun T hr hs => (hs i a b ho (h T hr hs)).1, fun T hr hs => (hs i a b ho (h T hr hs)).2⟩

theorem on_set {nd : List Bool} {v x : Nat} (h : On nd v) : On (nd.set x true) v := by
  unfold On at *
  rw [List.getElem?_set]
  split
  · next e =>
    subst e
    have := (List.getElem?_eq_some_iff.1 h).1
    simp [this]
  · exact h
theorem on_new {nd : List Bool} {x : Nat} (h : x < nd.length) : On (nd.set x true) x := by
  unfold On; simp [h]
theorem on_of {nd : List Bool} {v x : Nat} (h : On (nd.set x true) v) : v = x ∨ On nd v := by
  unfold On at *
  rw [List.getElem?_set] at h
  split at h
  · next e => exact .inl e.symm
  · exact .inr h

/-- the document's step at a gate -/
def stepC (first : Nat) (ops : Ops) (k : Nat) (nd : List Bool) : List Bool :=
  if nd[first + k]? = some true then
    match ops[k]? with
    | some (a, b) => (nd.set a true).set b true
    | none => nd
  else nd
def sweepC (first : Nat) (ops : Ops) : Nat → List Bool → List Bool
  | 0, nd => nd
  | k + 1, nd => sweepC first ops k (stepC first ops k nd)
theorem stepC_len (first : Nat) (ops : Ops) (k : Nat) (nd : List Bool) : (stepC first ops k nd).length = nd.length := by
  unfold stepC
  split
  · split <;> simp
  · rfl
theorem sweepC_len (first : Nat) (ops : Ops) (k : Nat) (nd : List Bool) : (sweepC first ops k nd).length = nd.length := by
  induction k generalizing nd with
  | zero => rfl
  | succ k ih => unfold sweepC; rw [ih, stepC_len]
theorem stepC_on {first : Nat} {ops : Ops} {k : Nat} {nd : List Bool} {v : Nat} (h : On nd v) : On (stepC first ops k nd) v := by
  unfold stepC
  split
  · split
    · exact on_set (on_set h)
    · exact h
  · exact h
theorem sweepC_on {first : Nat} {ops : Ops} {k : Nat} {nd : List Bool} {v : Nat} (h : On nd v) : On (sweepC first ops k nd) v := by
  induction k generalizing nd with
  | zero => exact h
  | succ k ih => unfold sweepC; exact ih (stepC_on h)
theorem stepC_far {first : Nat} {ops : Ops} (ha : Ahead first ops) {k : Nat} {nd : List Bool} {v : Nat} (hv : first + k ≤ v) (h : On (stepC first ops k nd) v) : On nd v := by
  unfold stepC at h
  split at h
  · split at h
    · next a b e =>
      have := ha k a b e
      rcases on_of h with rfl | h
      · omega
      · rcases on_of h with rfl | h
        · omega
        · exact h
    · exact h
  · exact h
theorem sweepC_far {first : Nat} {ops : Ops} (ha : Ahead first ops) {k : Nat} {nd : List Bool} {v : Nat} (hv : first + k ≤ v) (h : On (sweepC first ops k nd) v) : On nd v := by
  induction k generalizing nd with
  | zero => exact h
  | succ k ih => unfold sweepC at h; exact stepC_far ha (by omega) (ih (by omega) h)
theorem sweepC_shut {first : Nat} {ops : Ops} (ha : Ahead first ops) {k : Nat} {nd : List Bool} (hl : ∀ (i a b : Nat), ops[i]? = some (a, b) → a < nd.length ∧ b < nd.length) :
    ∀ (i a b : Nat), i < k → ops[i]? = some (a, b) → On (sweepC first ops k nd) (first + i) → On (sweepC first ops k nd) a ∧ On (sweepC first ops k nd) b := by
  induction k generalizing nd with
  | zero => intro i a b hi; omega
  | succ k ih =>
    intro i a b hi ho h
    unfold sweepC at h ⊢
    by_cases hk : i = k
    · subst hk
      have h1 := stepC_far ha (Nat.le_refl _) (sweepC_far ha (Nat.le_refl _) h)
      have h2 : stepC first ops i nd = (nd.set a true).set b true := by
        unfold stepC
        rw [if_pos (show nd[first + i]? = some true from h1), ho]
      have hab := hl i a b ho
      rw [h2]
      exact ⟨sweepC_on (on_set (on_new hab.1)), sweepC_on (on_new (by simpa using hab.2))⟩
    · exact ih (fun i a b ho => by rw [stepC_len]; exact hl i a b ho) i a b (by omega) ho h
theorem sweepC_sound {first : Nat} {ops : Ops} {roots : List Nat} {k : Nat} {nd : List Bool} (h : ∀ v, On nd v → Nd first ops roots v) : ∀ v, On (sweepC first ops k nd) v → Nd first ops roots v := by
  induction k generalizing nd with
  | zero => exact h
  | succ k ih =>
    unfold sweepC
    refine ih fun v hv => ?_
    unfold stepC at hv
    split at hv
    · next hk =>
      split at hv
      · next a b e =>
        have hab := nd_op e (h _ hk)
        rcases on_of hv with rfl | hv
        · exact hab.2
        · rcases on_of hv with rfl | hv
          · exact hab.1
          · exact h v hv
      · exact h v hv
    · exact h v hv
/-- the document's need, whole -/
theorem sweepC_all {first : Nat} {ops : Ops} {roots : List Nat} (ha : Ahead first ops) {nd : List Bool} (hl : ∀ (i a b : Nat), ops[i]? = some (a, b) → a < nd.length ∧ b < nd.length) (h0 : ∀ v, On nd v ↔ v ∈ roots) (v : Nat) :
    On (sweepC first ops ops.length nd) v ↔ Nd first ops roots v := by
  constructor
  · exact sweepC_sound (fun v hv => nd_root ((h0 v).1 hv)) v
  · intro h
    refine h _ (fun r hr => sweepC_on ((h0 r).2 hr)) ?_
    intro i a b ho hi
    exact sweepC_shut ha hl i a b (List.getElem?_eq_some_iff.1 ho).1 ho hi

/-! The program's: what is marked, what is looked at now (pd), what waits (wt) -/
structure Wait (first ins : Nat) (ops : Ops) (nexts roots : List Nat) (pd : List Nat) (nd : List Bool) (wt : List Nat) : Prop where
  sound : ∀ v, On nd v → v < first ∨ Nd first ops (nexts ++ roots) v
  gate : ∀ (i a b : Nat), ops[i]? = some (a, b) → On nd (first + i) → first + i ∈ pd ∨ first + i ∈ wt ∨ (On nd a ∧ On nd b)
  latch : ∀ (i n : Nat), nexts[i]? = some n → 1 + ins + i ∈ pd ∨ 1 + ins + i ∈ wt ∨ On nd n
  wts : ∀ v, v ∈ wt → ins < v ∧ v < nd.length ∧ On nd v
  ins : ∀ v, v ≤ ins → On nd v
theorem Wait.done {first ins : Nat} {ops : Ops} {nexts roots : List Nat} {nd : List Bool} (h : Wait first ins ops nexts roots [] nd []) (hr : ∀ r, r ∈ roots → On nd r) (v : Nat) (hv : first ≤ v) : On nd v ↔ Nd first ops (nexts ++ roots) v := by
  constructor
  · intro h1
    rcases h.sound v h1 with h2 | h2
    · omega
    · exact h2
  · intro h1
    refine h1 (On nd) (fun r hm => ?_) (fun i a b ho hi => ?_)
    · rcases List.mem_append.1 hm with hm | hm
      · obtain ⟨i, hi, rfl⟩ := List.getElem_of_mem hm
        rcases h.latch i _ (List.getElem?_eq_getElem hi) with h2 | h2 | h2
        · cases h2
        · cases h2
        · exact h2
      · exact hr r hm
    · rcases h.gate i a b ho hi with h2 | h2 | h2
      · cases h2
      · cases h2
      · exact h2
/-- need: a variable is marked, and waits if it was not -/
def needC (v : Nat) (s : List Bool × List Nat) : List Bool × List Nat := if s.1[v]? = some true then s else (s.1.set v true, s.2 ++ [v])
theorem needC_on {v : Nat} {s : List Bool × List Nat} (h : v < s.1.length) : On (needC v s).1 v := by
  unfold needC
  split
  · next e => exact e
  · exact on_new h
theorem needC_keep {v x : Nat} {s : List Bool × List Nat} (h : On s.1 x) : On (needC v s).1 x := by
  unfold needC
  split
  · exact h
  · exact on_set h
theorem needC_len (v : Nat) (s : List Bool × List Nat) : (needC v s).1.length = s.1.length := by
  unfold needC
  split <;> simp
/-- a variable that is needed is marked -/
theorem Wait.need {first ins : Nat} {ops : Ops} {nexts roots pd : List Nat} {s : List Bool × List Nat} (h : Wait first ins ops nexts roots pd s.1 s.2) (v : Nat) (hv : v < s.1.length) (hs : v < first ∨ Nd first ops (nexts ++ roots) v) : Wait first ins ops nexts roots pd (needC v s).1 (needC v s).2 := by
  unfold needC
  split
  · exact h
  · next hn =>
    refine ⟨fun x hx => ?_, fun i a b ho hx => ?_, fun i n hi => ?_, fun x hx => ?_, fun x hx => on_set (h.ins x hx)⟩
    · rcases on_of hx with rfl | hx
      · exact hs
      · exact h.sound x hx
    · rcases on_of hx with e | hx
      · exact .inr (.inl (by rw [e]; simp))
      · rcases h.gate i a b ho hx with h1 | h1 | h1
        · exact .inl h1
        · exact .inr (.inl (List.mem_append.2 (.inl h1)))
        · exact .inr (.inr ⟨on_set h1.1, on_set h1.2⟩)
    · rcases h.latch i n hi with h1 | h1 | h1
      · exact .inl h1
      · exact .inr (.inl (List.mem_append.2 (.inl h1)))
      · exact .inr (.inr (on_set h1))
    · rw [List.length_set]
      rcases List.mem_append.1 hx with hx | hx
      · have := h.wts x hx
        exact ⟨this.1, this.2.1, on_set this.2.2⟩
      · rw [List.mem_singleton.1 hx]
        refine ⟨?_, hv, on_new hv⟩
        rcases Nat.lt_or_ge ins v with h1 | h1
        · exact h1
        · exact absurd (h.ins v h1) hn
/-- the last that waits is looked at -/
theorem Wait.pop {first ins : Nat} {ops : Ops} {nexts roots : List Nat} {nd : List Bool} {wt : List Nat} {v : Nat} (h : Wait first ins ops nexts roots [] nd (wt ++ [v])) : Wait first ins ops nexts roots [v] nd wt := by
  have f : ∀ x, x ∈ wt ++ [v] → x ∈ [v] ∨ x ∈ wt := fun x hx => (List.mem_append.1 hx).symm
  refine ⟨h.sound, fun i a b ho hx => ?_, fun i n hi => ?_, fun x hx => h.wts x (List.mem_append.2 (.inl hx)), h.ins⟩
  · rcases h.gate i a b ho hx with h1 | h1 | h1
    · cases h1
    · rcases f _ h1 with h2 | h2
      · exact .inl h2
      · exact .inr (.inl h2)
    · exact .inr (.inr h1)
  · rcases h.latch i n hi with h1 | h1 | h1
    · cases h1
    · rcases f _ h1 with h2 | h2
      · exact .inl h2
      · exact .inr (.inl h2)
    · exact .inr (.inr h1)
/-- it was looked at -/
theorem Wait.looked {first ins : Nat} {ops : Ops} {nexts roots : List Nat} {nd : List Bool} {wt : List Nat} {v : Nat} (h : Wait first ins ops nexts roots [v] nd wt) (hg : ∀ (i a b : Nat), ops[i]? = some (a, b) → first + i = v → On nd a ∧ On nd b) (hl : ∀ (i n : Nat), nexts[i]? = some n → 1 + ins + i = v → On nd n) : Wait first ins ops nexts roots [] nd wt := by
  refine ⟨h.sound, fun i a b ho hx => ?_, fun i n hi => ?_, h.wts, h.ins⟩
  · rcases h.gate i a b ho hx with h1 | h1
    · exact .inr (.inr (hg i a b ho (List.mem_singleton.1 h1)))
    · exact .inr h1
  · rcases h.latch i n hi with h1 | h1
    · exact .inr (.inr (hl i n hi (List.mem_singleton.1 h1)))
    · exact .inr h1
/-- what is left to be done -/
def leftC (s : List Bool × List Nat) : Nat := 2 * s.1.count false + s.2.length
theorem count_set {nd : List Bool} {v : Nat} (hv : v < nd.length) (hn : ¬ nd[v]? = some true) : (nd.set v true).count false + 1 = nd.count false := by
  induction nd generalizing v with
  | nil => simp at hv
  | cons x t ih =>
    cases v with
    | zero =>
      cases x
      · simp
      · simp at hn
    | succ v =>
      have := ih (v := v) (by simpa using hv) (by simpa using hn)
      simp only [List.set_cons_succ, List.count_cons]
      omega
theorem needC_left {v : Nat} {s : List Bool × List Nat} (hv : v < s.1.length) : leftC (needC v s) ≤ leftC s := by
  unfold needC
  split
  · exact Nat.le_refl _
  · next hn =>
    have := count_set hv hn
    unfold leftC
    simp only [List.length_append, List.length_singleton]
    omega
/-- the latches and the inputs are marked, the latches wait -/
def begunC (ins k n : Nat) : List Bool × List Nat := (List.replicate (1 + ins + k) true ++ List.replicate n false, (List.range k).map fun i => 1 + ins + i)
theorem begunC_next (ins k n : Nat) : needC (1 + ins + k) (begunC ins k (n + 1)) = begunC ins (k + 1) n := by
  have h : ((begunC ins k (n + 1)).1)[1 + ins + k]? = some false := by
    unfold begunC
    rw [List.getElem?_append_right (by simp)]
    simp
  unfold needC
  rw [if_neg (by rw [h]; simp)]
  unfold begunC
  refine Prod.ext ?_ ?_
  · show (List.replicate (1 + ins + k) true ++ List.replicate (n + 1) false).set (1 + ins + k) true = _
    rw [List.set_append_right _ _ (by simp)]
    simp only [List.length_replicate, Nat.sub_self, List.replicate_succ, List.set_cons_zero]
    rw [show 1 + ins + (k + 1) = (1 + ins + k) + 1 by omega, List.replicate_succ']
    simp
  · show _ = (List.range (k + 1)).map _
    rw [List.range_succ, List.map_append]; rfl
theorem begunC_wait (ins nl n : Nat) (ops : Ops) (nexts roots : List Nat) (hn : nexts.length = nl) : Wait (1 + ins + nl) ins ops nexts roots [] (begunC ins nl n).1 (begunC ins nl n).2 := by
  have hon : ∀ v, On (begunC ins nl n).1 v ↔ v < 1 + ins + nl := by
    intro v
    unfold On begunC
    rcases Nat.lt_or_ge v (1 + ins + nl) with h | h
    · rw [List.getElem?_append_left (by simpa using h), List.getElem?_replicate, if_pos h]; simp [h]
    · rw [List.getElem?_append_right (by simpa using h), List.getElem?_replicate]
      split <;> simp <;> omega
  refine ⟨fun v hv => .inl ((hon v).1 hv), fun i a b _ hv => ?_, fun i x hi => ?_, fun v hv => ?_, fun v hv => (hon v).2 (by omega)⟩
  · have := (hon _).1 hv; omega
  · have hi' := (List.getElem?_eq_some_iff.1 hi).1
    exact .inr (.inl (List.mem_map.2 ⟨i, List.mem_range.2 (by omega), rfl⟩))
  · obtain ⟨i, hi, rfl⟩ := List.mem_map.1 hv
    have := List.mem_range.1 hi
    refine ⟨by omega, ?_, (hon _).2 (by omega)⟩
    unfold begunC
    simp; omega

end Go.Proofs.Ytlaljeobdddegaa
