import Derived.Test.YtlaljeobdddegaaMpB
namespace Go.Proofs.Ytlaljeobdddegaa
namespace Mp
/-! the document's cuts and depths (pure) -/
/-- going up -/
inductive Ris : List Nat → Prop
  | nil : Ris []
  | cons {a : Nat} {l : List Nat} (h : ∀ x, x ∈ l → a < x) (k : Ris l) : Ris (a :: l)
theorem Ris.nodup {l : List Nat} (h : Ris l) : l.Nodup := by
  induction h with
  | nil => exact List.nodup_nil
  | cons h _ ih => exact List.nodup_cons.2 ⟨fun hm => by have := h _ hm; omega, ih⟩
/-- two lists that go up, as one -/
def joinL : List Nat → List Nat → List Nat
  | [], b => b
  | a :: r, [] => a :: r
  | a :: r, b :: s => if a < b then a :: joinL r (b :: s) else if b < a then b :: joinL (a :: r) s else a :: joinL r s
termination_by a b => a.length + b.length
theorem joinL_mem (a b : List Nat) (x : Nat) : x ∈ joinL a b ↔ x ∈ a ∨ x ∈ b := by
  fun_induction joinL a b with
  | case1 b => simp
  | case2 a r => simp
  | case3 a r b s h ih => simp only [List.mem_cons, ih]; rw [or_assoc]
  | case4 a r b s h1 h2 ih => simp only [List.mem_cons, ih]; constructor <;> (intro hh; rcases hh with hh | hh | hh <;> simp_all)
  | case5 a r b s h1 h2 ih =>
    have e : a = b := by omega
    subst e
    simp only [List.mem_cons, ih]
    constructor
    · rintro (h | h | h)
      · exact Or.inl (Or.inl h)
      · exact Or.inl (Or.inr h)
      · exact Or.inr (Or.inr h)
    · rintro ((h | h) | (h | h))
      · exact Or.inl h
      · exact Or.inr (Or.inl h)
      · exact Or.inl h
      · exact Or.inr (Or.inr h)
theorem joinL_ris {a b : List Nat} (ha : Ris a) (hb : Ris b) : Ris (joinL a b) := by
  fun_induction joinL a b with
  | case1 b => exact hb
  | case2 a r => exact ha
  | case3 a r b s h ih =>
    cases ha with
    | cons h1 k1 =>
      refine .cons (fun x hx => ?_) (ih k1 hb)
      rcases (joinL_mem _ _ _).1 hx with hx | hx
      · exact h1 x hx
      · cases hb with
        | cons h2 k2 =>
          rcases List.mem_cons.1 hx with rfl | hx
          · exact h
          · have := h2 x hx; omega
  | case4 a r b s h1 h2 ih =>
    cases hb with
    | cons h3 k3 =>
      refine .cons (fun x hx => ?_) (ih ha k3)
      rcases (joinL_mem _ _ _).1 hx with hx | hx
      · cases ha with
        | cons h4 k4 =>
          rcases List.mem_cons.1 hx with rfl | hx
          · exact h2
          · have := h4 x hx; omega
      · exact h3 x hx
  | case5 a r b s h1 h2 ih =>
    cases ha with
    | cons h3 k3 =>
      cases hb with
      | cons h4 k4 =>
        refine .cons (fun x hx => ?_) (ih k3 k4)
        rcases (joinL_mem _ _ _).1 hx with hx | hx
        · exact h3 x hx
        · have := h4 x hx; omega
def wit (a b : List Nat) : Bool := a.all fun x => b.contains x
def addC (l : List (List Nat)) (c : List Nat) : List (List Nat) := if l.any (fun x => wit x c) then l else l.filter (fun x => !wit c x) ++ [c]
theorem addC_mem {l : List (List Nat)} {c x : List Nat} (h : x ∈ addC l c) : x ∈ l ∨ x = c := by
  unfold addC at h
  split at h
  · exact Or.inl h
  · rcases List.mem_append.1 h with h | h
    · exact Or.inl (List.mem_filter.1 h).1
    · exact Or.inr (List.mem_singleton.1 h)
theorem addC_ne (l : List (List Nat)) (c : List Nat) : addC l c ≠ [] := by
  unfold addC
  split
  · rename_i h
    intro e
    rw [e] at h
    simp at h
  · intro e
    have := congrArg List.length e
    simp at this
/-- one pair of cuts more -/
def stepC (acc : List (List Nat)) (a b : List Nat) : List (List Nat) := if (joinL a b).length ≤ 4 then addC acc (joinL a b) else acc
def rowC' (acc : List (List Nat)) (a : List Nat) (y : List (List Nat)) : List (List Nat) := y.foldl (fun acc b => stepC acc a b) acc
def allC (x y : List (List Nat)) : List (List Nat) := x.foldl (fun acc a => rowC' acc a y) []
theorem stepC_mem {acc : List (List Nat)} {a b c : List Nat} (h : c ∈ stepC acc a b) : c ∈ acc ∨ (c = joinL a b ∧ c.length ≤ 4) := by
  unfold stepC at h
  split at h
  · rename_i hl
    rcases addC_mem h with h | h
    · exact Or.inl h
    · exact Or.inr ⟨h, by rw [h]; exact hl⟩
  · exact Or.inl h
theorem stepC_keep {acc : List (List Nat)} (a b : List Nat) (h : acc ≠ []) : stepC acc a b ≠ [] := by
  unfold stepC
  split
  · exact addC_ne _ _
  · exact h
theorem rowC_mem {a c : List Nat} : ∀ (y : List (List Nat)) (acc : List (List Nat)), c ∈ rowC' acc a y → c ∈ acc ∨ ∃ b, b ∈ y ∧ c = joinL a b ∧ c.length ≤ 4
  | [], acc, h => Or.inl h
  | b :: s, acc, h => by
    rcases rowC_mem s (stepC acc a b) h with h | ⟨b', h1, h2⟩
    · rcases stepC_mem h with h | h
      · exact Or.inl h
      · exact Or.inr ⟨b, List.mem_cons_self, h⟩
    · exact Or.inr ⟨b', List.mem_cons_of_mem _ h1, h2⟩
theorem rowC_keep {a : List Nat} : ∀ (y : List (List Nat)) (acc : List (List Nat)), acc ≠ [] → rowC' acc a y ≠ []
  | [], _, h => h
  | b :: s, acc, h => rowC_keep s (stepC acc a b) (stepC_keep a b h)
theorem rowC_ne {a b : List Nat} (hl : (joinL a b).length ≤ 4) : ∀ (y : List (List Nat)) (acc : List (List Nat)), b ∈ y → rowC' acc a y ≠ []
  | b' :: s, acc, h => by
    show rowC' (stepC acc a b') a s ≠ []
    rcases List.mem_cons.1 h with rfl | h
    · refine rowC_keep s _ ?_
      unfold stepC
      rw [if_pos hl]
      exact addC_ne _ _
    · exact rowC_ne hl s _ h
theorem allC_mem' {c : List Nat} {y : List (List Nat)} : ∀ (x : List (List Nat)) (acc : List (List Nat)), c ∈ x.foldl (fun acc a => rowC' acc a y) acc → c ∈ acc ∨ ∃ a b, a ∈ x ∧ b ∈ y ∧ c = joinL a b ∧ c.length ≤ 4
  | [], acc, h => Or.inl h
  | a :: r, acc, h => by
    rcases allC_mem' r (rowC' acc a y) h with h | ⟨a', b', h1, h2⟩
    · rcases rowC_mem y acc h with h | ⟨b, hb, hc⟩
      · exact Or.inl h
      · exact Or.inr ⟨a, b, List.mem_cons_self, hb, hc⟩
    · exact Or.inr ⟨a', b', List.mem_cons_of_mem _ h1, h2⟩
theorem allC_mem {x y : List (List Nat)} {c : List Nat} (h : c ∈ allC x y) : ∃ a b, a ∈ x ∧ b ∈ y ∧ c = joinL a b ∧ c.length ≤ 4 := by
  rcases allC_mem' x [] h with h | h
  · cases h
  · exact h
theorem allC_keep {y : List (List Nat)} : ∀ (x : List (List Nat)) (acc : List (List Nat)), acc ≠ [] → x.foldl (fun acc a => rowC' acc a y) acc ≠ []
  | [], _, h => h
  | a :: r, acc, h => allC_keep r (rowC' acc a y) (rowC_keep y acc h)
theorem allC_ne {a b : List Nat} {y : List (List Nat)} (hb : b ∈ y) (hl : (joinL a b).length ≤ 4) : ∀ (x : List (List Nat)) (acc : List (List Nat)), a ∈ x → x.foldl (fun acc a => rowC' acc a y) acc ≠ []
  | a' :: r, acc, h => by
    show r.foldl (fun acc a => rowC' acc a y) (rowC' acc a' y) ≠ []
    rcases List.mem_cons.1 h with rfl | h
    · exact allC_keep r _ (rowC_ne hl y acc hb)
    · exact allC_ne hb hl r _ h
/-- the deepest of a cut, the flattest of cuts -/
def mxC (label : Nat → Nat) (c : List Nat) : Nat := c.foldl (fun d u => max d (label u)) 0
theorem mxC_le' (label : Nat → Nat) : ∀ (c : List Nat) (d : Nat), d ≤ c.foldl (fun d u => max d (label u)) d ∧ ∀ u, u ∈ c → label u ≤ c.foldl (fun d u => max d (label u)) d
  | [], d => ⟨Nat.le_refl _, fun u hu => by cases hu⟩
  | a :: r, d => by
    obtain ⟨h1, h2⟩ := mxC_le' label r (max d (label a))
    refine ⟨Nat.le_trans (Nat.le_max_left _ _) h1, fun u hu => ?_⟩
    rcases List.mem_cons.1 hu with rfl | hu
    · exact Nat.le_trans (Nat.le_max_right _ _) h1
    · exact h2 u hu
theorem mxC_le (label : Nat → Nat) (c : List Nat) : ∀ u, u ∈ c → label u ≤ mxC label c := (mxC_le' label c 0).2
def bestC (label : Nat → Nat) (l : List (List Nat)) : Int := l.foldl (fun (b : Int) c => if b < 0 ∨ (mxC label c : Int) < b then (mxC label c : Int) else b) (-1)
theorem bestC_spec' (label : Nat → Nat) : ∀ (l : List (List Nat)) (b : Int), (l.foldl (fun (b : Int) c => if b < 0 ∨ (mxC label c : Int) < b then (mxC label c : Int) else b) b = b ∧ (l ≠ [] → 0 ≤ b)) ∨ ∃ c, c ∈ l ∧ l.foldl (fun (b : Int) c => if b < 0 ∨ (mxC label c : Int) < b then (mxC label c : Int) else b) b = (mxC label c : Int)
  | [], b => Or.inl ⟨rfl, fun h => absurd rfl h⟩
  | a :: r, b => by
    have e : (a :: r).foldl (fun (b : Int) c => if b < 0 ∨ (mxC label c : Int) < b then (mxC label c : Int) else b) b = r.foldl (fun (b : Int) c => if b < 0 ∨ (mxC label c : Int) < b then (mxC label c : Int) else b) (if b < 0 ∨ (mxC label a : Int) < b then (mxC label a : Int) else b) := rfl
    rw [e]
    by_cases h : b < 0 ∨ (mxC label a : Int) < b
    · rw [if_pos h]
      rcases bestC_spec' label r (mxC label a : Int) with ⟨h1, _⟩ | ⟨c, hc, h1⟩
      · exact Or.inr ⟨a, List.mem_cons_self, h1⟩
      · exact Or.inr ⟨c, List.mem_cons_of_mem _ hc, h1⟩
    · rw [if_neg h]
      rcases bestC_spec' label r b with ⟨h1, _⟩ | ⟨c, hc, h1⟩
      · exact Or.inl ⟨h1, fun _ => by omega⟩
      · exact Or.inr ⟨c, List.mem_cons_of_mem _ hc, h1⟩
theorem bestC_spec (label : Nat → Nat) (l : List (List Nat)) (h : l ≠ []) : ∃ c, c ∈ l ∧ bestC label l = (mxC label c : Int) := by
  rcases bestC_spec' label l (-1) with ⟨_, h2⟩ | h1
  · have := h2 h; omega
  · exact h1
/-- the document's cuts of all variables, and its depths -/
structure CutsD (G : Gr) (N : Nat) (cuts : Nat → List (List Nat)) (label : Nat → Nat) : Prop where
  zero : cuts 0 = [[]]
  src : ∀ v, 0 < v → v < G.first → cuts v = [[v]]
  gate : ∀ v, v < N → G.first ≤ v → cuts v = allC (cuts (G.a v)) (cuts (G.b v)) ++ [[v]]
  lab : ∀ v, v < N → G.first ≤ v → (label v : Int) = bestC label (allC (cuts (G.a v)) (cuts (G.b v))) + 1
theorem CutsD.sound {G : Gr} {N : Nat} {cuts : Nat → List (List Nat)} {label : Nat → Nat} (h : CutsD G N cuts label) (v : Nat) (hv : v < N) : (∀ c, c ∈ cuts v → Ris c ∧ c.length ≤ 4 ∧ Tl G c v ∧ ∀ u, u ∈ c → u ≤ v) ∧ (∃ c, c ∈ cuts v ∧ c.length ≤ 1) := by
  induction v using Nat.strongRecOn with
  | _ v ih =>
    by_cases h0 : v = 0
    · subst h0
      rw [h.zero]
      refine ⟨fun c hc => ?_, [], List.mem_singleton.2 rfl, by simp⟩
      rw [List.mem_singleton.1 hc]
      exact ⟨.nil, by simp, .zero, fun u hu => by cases hu⟩
    · have hself : Ris [v] ∧ [v].length ≤ 4 ∧ Tl G [v] v ∧ ∀ u, u ∈ [v] → u ≤ v := ⟨.cons (fun x hx => by cases hx) .nil, by simp, .leaf (List.mem_singleton.2 rfl), fun u hu => by rw [List.mem_singleton.1 hu]; exact Nat.le_refl _⟩
      by_cases hg : v < G.first
      · rw [h.src v (by omega) hg]
        exact ⟨fun c hc => by rw [List.mem_singleton.1 hc]; exact hself, [v], List.mem_singleton.2 rfl, by simp⟩
      · have hla := G.la v (by omega)
        have hlb := G.lb v (by omega)
        rw [h.gate v hv (by omega)]
        refine ⟨fun c hc => ?_, [v], List.mem_append.2 (Or.inr (List.mem_singleton.2 rfl)), by simp⟩
        rcases List.mem_append.1 hc with hc | hc
        · obtain ⟨a, b, ha, hb, rfl, hl⟩ := allC_mem hc
          obtain ⟨a1, a2, a3, a4⟩ := (ih _ hla (by omega)).1 a ha
          obtain ⟨b1, b2, b3, b4⟩ := (ih _ hlb (by omega)).1 b hb
          refine ⟨joinL_ris a1 b1, hl, .gate (by omega) (a3.mono (fun u hu => (joinL_mem _ _ _).2 (Or.inl hu))) (b3.mono (fun u hu => (joinL_mem _ _ _).2 (Or.inr hu))), fun u hu => ?_⟩
          rcases (joinL_mem _ _ _).1 hu with hu | hu
          · have := a4 u hu; omega
          · have := b4 u hu; omega
        · rw [List.mem_singleton.1 hc]; exact hself
theorem CutsD.label {G : Gr} {N : Nat} {cuts : Nat → List (List Nat)} {label : Nat → Nat} (h : CutsD G N cuts label) : LabelD G N label := by
  refine ⟨fun v hv hg => ?_⟩
  have hla := G.la v hg
  have hlb := G.lb v hg
  obtain ⟨sa, xa, hxa, hxa1⟩ := h.sound _ (show G.a v < N by omega)
  obtain ⟨sb, xb, hxb, hxb1⟩ := h.sound _ (show G.b v < N by omega)
  have hne : allC (cuts (G.a v)) (cuts (G.b v)) ≠ [] := by
    refine allC_ne hxb (a := xa) ?_ _ _ hxa
    have hj := nd_len (joinL_ris (sa xa hxa).1 (sb xb hxb).1).nodup (D := xa ++ xb) (fun x hx => List.mem_append.2 ((joinL_mem _ _ _).1 hx))
    rw [List.length_append] at hj
    omega
  obtain ⟨c, hc, hb⟩ := bestC_spec label _ hne
  have hl := h.lab v hv hg
  rw [hb] at hl
  obtain ⟨a, b, ha, hb2, rfl, hl4⟩ := allC_mem hc
  obtain ⟨a1, a2, a3, a4⟩ := sa a ha
  obtain ⟨b1, b2, b3, b4⟩ := sb b hb2
  refine ⟨by omega, joinL a b, (joinL_ris a1 b1).nodup, hl4, fun u hu => ?_, a3.mono (fun u hu => (joinL_mem _ _ _).2 (Or.inl hu)), b3.mono (fun u hu => (joinL_mem _ _ _).2 (Or.inr hu)), fun u hu => ?_⟩
  · rcases (joinL_mem _ _ _).1 hu with hu | hu
    · have := a4 u hu; omega
    · have := b4 u hu; omega
  · have := mxC_le label _ u hu
    omega
end Mp
end Go.Proofs.Ytlaljeobdddegaa
