import Derived.Test.YtlaljeobdddegaaMsC
namespace Go.Proofs.Ytlaljeobdddegaa
open Go.RowKit Mp

theorem getD_old {α : Type} {l : List α} {v : Nat} (h : v < l.length) (x d : α) : (l ++ [x]).getD v d = l.getD v d := by
  rw [List.getD_eq_getElem?_getD, List.getElem?_append_left h, ← List.getD_eq_getElem?_getD]
theorem getD_new {α : Type} {l : List α} {v : Nat} (h : v = l.length) (x d : α) : (l ++ [x]).getD v d = x := by
  subst h
  rw [List.getD_eq_getElem?_getD, List.getElem?_concat_length]; rfl
theorem mxC_same {f g : Nat → Nat} : ∀ (c : List Nat) (d : Nat), (∀ u, u ∈ c → f u = g u) → c.foldl (fun d u => max d (f u)) d = c.foldl (fun d u => max d (g u)) d
  | [], _, _ => rfl
  | a :: r, d, h => by
    rw [List.foldl_cons, List.foldl_cons, h a List.mem_cons_self]
    exact mxC_same r _ (fun u hu => h u (List.mem_cons_of_mem _ hu))
theorem bestC_same {f g : Nat → Nat} : ∀ (l : List (List Nat)) (b : Int), (∀ c, c ∈ l → ∀ u, u ∈ c → f u = g u) → l.foldl (fun (b : Int) c => if b < 0 ∨ (mxC f c : Int) < b then (mxC f c : Int) else b) b = l.foldl (fun (b : Int) c => if b < 0 ∨ (mxC g c : Int) < b then (mxC g c : Int) else b) b
  | [], _, _ => rfl
  | a :: r, b, h => by
    rw [List.foldl_cons, List.foldl_cons]
    have e : mxC f a = mxC g a := mxC_same a 0 (h a List.mem_cons_self)
    rw [e]
    exact bestC_same r _ (fun c hc => h c (List.mem_cons_of_mem _ hc))
theorem Mp.CutsD.ne {G : Gr} {N : Nat} {cuts : Nat → List (List Nat)} {label : Nat → Nat} (h : CutsD G N cuts label) {x y : Nat} (hx : x < N) (hy : y < N) : allC (cuts x) (cuts y) ≠ [] := by
  obtain ⟨sa, xa, hxa, hxa1⟩ := h.sound _ hx
  obtain ⟨sb, xb, hxb, hxb1⟩ := h.sound _ hy
  refine allC_ne hxb (a := xa) ?_ _ _ hxa
  have hj := nd_len (joinL_ris (sa xa hxa).1 (sb xb hxb).1).nodup (D := xa ++ xb) (fun x hx => List.mem_append.2 ((joinL_mem _ _ _).1 hx))
  rw [List.length_append] at hj
  omega
theorem Mp.CutsD.low {G : Gr} {N : Nat} {cuts : Nat → List (List Nat)} {label : Nat → Nat} (h : CutsD G N cuts label) {x y : Nat} (hx : x < N) (hy : y < N) : ∀ c, c ∈ allC (cuts x) (cuts y) → ∀ u, u ∈ c → u < N := fun c hc u hu => by
  obtain ⟨a, b, ha, hb, rfl, _⟩ := allC_mem hc
  rcases (joinL_mem _ _ _).1 hu with hu | hu
  · have := ((h.sound _ hx).1 a ha).2.2.2 u hu; omega
  · have := ((h.sound _ hy).1 b hb).2.2.2 u hu; omega
/-- one gate more -/
theorem Mp.CutsD.step {G : Gr} {N : Nat} {cs : List (List (List Nat))} {ls : List Nat} (h : CutsD G N (fun v => cs.getD v []) (fun v => ls.getD v 0)) (l1 : cs.length = N) (l2 : ls.length = N) (hN : G.first ≤ N) {lv : Nat} (hL : (lv : Int) = bestC (fun v => ls.getD v 0) (allC (cs.getD (G.a N) []) (cs.getD (G.b N) [])) + 1) : CutsD G (N + 1) (fun v => (cs ++ [allC (cs.getD (G.a N) []) (cs.getD (G.b N) []) ++ [[N]]]).getD v []) (fun v => (ls ++ [lv]).getD v 0) := by
  have hpos := G.pos
  have old : ∀ v, v < N → (cs ++ [allC (cs.getD (G.a N) []) (cs.getD (G.b N) []) ++ [[N]]]).getD v [] = cs.getD v [] := fun v hv => getD_old (by omega) _ _
  have oldl : ∀ v, v < N → (ls ++ [lv]).getD v 0 = ls.getD v 0 := fun v hv => getD_old (by omega) _ _
  refine ⟨by simp only [old 0 (by omega)]; exact h.zero, fun v h1 h2 => by simp only [old v (by omega)]; exact h.src v h1 h2, fun v h1 h2 => ?_, fun v h1 h2 => ?_⟩
  · have ha := G.la v h2
    have hb := G.lb v h2
    simp only [old _ (show G.a v < N by omega), old _ (show G.b v < N by omega)]
    by_cases e : v = N
    · subst e
      rw [getD_new l1.symm]
    · rw [old v (by omega)]
      exact h.gate v (by omega) h2
  · have ha := G.la v h2
    have hb := G.lb v h2
    simp only [old _ (show G.a v < N by omega), old _ (show G.b v < N by omega)]
    have hsame : bestC (fun v => (ls ++ [lv]).getD v 0) (allC (cs.getD (G.a v) []) (cs.getD (G.b v) [])) = bestC (fun v => ls.getD v 0) (allC (cs.getD (G.a v) []) (cs.getD (G.b v) [])) := bestC_same _ _ (fun c hc u hu => oldl u (h.low (by omega) (by omega) c hc u hu))
    rw [hsame]
    by_cases e : v = N
    · subst e
      rw [getD_new l2.symm]; exact hL
    · rw [oldl v (by omega)]
      exact h.lab v (by omega) h2
/-! how many cuts there can be -/
def encW (W : List Nat) : List Nat → Nat
  | [] => 0
  | x :: r => (W.idxOf x + 1) + (W.length + 1) * encW W r
theorem encW_lt {W : List Nat} : ∀ (c : List Nat), (∀ x, x ∈ c → x ∈ W) → encW W c < (W.length + 1) ^ c.length
  | [], _ => by simp [encW]
  | x :: r, h => by
    have ih := encW_lt r (fun y hy => h y (List.mem_cons_of_mem _ hy))
    have hx := List.idxOf_lt_length_of_mem (h x List.mem_cons_self)
    rw [encW, List.length_cons, Nat.pow_succ]
    have : (W.length + 1) * (encW W r + 1) ≤ (W.length + 1) * (W.length + 1) ^ r.length := Nat.mul_le_mul_left _ ih
    rw [Nat.mul_add, Nat.mul_one] at this
    rw [Nat.mul_comm ((W.length + 1) ^ r.length)]
    omega
theorem encW_inj {W : List Nat} : ∀ (c d : List Nat), (∀ x, x ∈ c → x ∈ W) → (∀ x, x ∈ d → x ∈ W) → encW W c = encW W d → c = d
  | [], [], _, _, _ => rfl
  | [], y :: s, _, _, h => by simp [encW] at h; omega
  | x :: r, [], _, _, h => by simp [encW] at h
  | x :: r, y :: s, h1, h2, h => by
    have hx := List.idxOf_lt_length_of_mem (h1 x List.mem_cons_self)
    have hy := List.idxOf_lt_length_of_mem (h2 y List.mem_cons_self)
    rw [encW, encW] at h
    have hm := congrArg (· % (W.length + 1)) h
    have hd := congrArg (· / (W.length + 1)) h
    simp only [Nat.add_mul_mod_self_left] at hm
    rw [Nat.add_mul_div_left _ _ (by omega), Nat.add_mul_div_left _ _ (by omega)] at hd
    by_cases hw : W.idxOf x + 1 < W.length + 1
    · rw [Nat.mod_eq_of_lt hw, Nat.mod_eq_of_lt (by omega)] at hm
      rw [Nat.div_eq_of_lt hw, Nat.div_eq_of_lt (by omega), Nat.zero_add, Nat.zero_add] at hd
      have e1 : W.idxOf x = W.idxOf y := by omega
      have e2 : x = y := by
        have hxe := List.getElem_idxOf hx
        have hye := List.getElem_idxOf hy
        rw [← hxe, ← hye]
        simp only [e1]
      rw [e2, encW_inj r s (fun z hz => h1 z (List.mem_cons_of_mem _ hz)) (fun z hz => h2 z (List.mem_cons_of_mem _ hz)) hd]
    · omega
theorem cuts_few {W : List Nat} {L : List (List Nat)} (hn : L.Nodup) (h : ∀ c, c ∈ L → c.length ≤ 4 ∧ ∀ x, x ∈ c → x ∈ W) : L.length ≤ (W.length + 1) ^ 4 := by
  have h1 : (L.map (encW W)).Nodup := by
    rw [List.nodup_iff_pairwise_ne, List.pairwise_map]
    refine (List.pairwise_iff_forall_sublist.2 fun {a b} hab hne => ?_)
    have hp := (List.nodup_iff_pairwise_ne.1 hn)
    have := List.pairwise_iff_forall_sublist.1 hp hab
    have ma := hab.subset (List.mem_cons_self)
    have mb := hab.subset (List.mem_cons_of_mem _ List.mem_cons_self)
    exact this (encW_inj a b (h a ma).2 (h b mb).2 hne)
  have h2 := nd_len h1 (D := List.range ((W.length + 1) ^ 4)) (fun x hx => by
    obtain ⟨c, hc, rfl⟩ := List.mem_map.1 hx
    refine List.mem_range.2 (Nat.lt_of_lt_of_le (encW_lt c (h c hc).2) ?_)
    exact Nat.pow_le_pow_right (by omega) (h c hc).1)
  rw [List.length_map, List.length_range] at h2
  exact h2
theorem wit_self (c : List Nat) : wit c c = true := by
  unfold wit
  rw [List.all_eq_true]
  intro x hx
  simpa using hx
theorem addC_nodup {l : List (List Nat)} {c : List Nat} (h : l.Nodup) : (addC l c).Nodup := by
  unfold addC
  split
  · exact h
  · rename_i hc
    refine List.nodup_append.2 ⟨h.filter _, by simp, fun x hx y hy => ?_⟩
    obtain rfl := List.mem_singleton.1 hy
    rintro rfl
    apply hc
    rw [List.any_eq_true]
    exact ⟨x, (List.mem_filter.1 hx).1, wit_self x⟩
/-- what is among the cuts so far -/
structure AccI (W : List Nat) (l : List (List Nat)) : Prop where
  nd : l.Nodup
  ok : ∀ c, c ∈ l → c.length ≤ 4 ∧ ∀ x, x ∈ c → x ∈ W
theorem AccI.nil (W : List Nat) : AccI W [] := ⟨List.nodup_nil, fun c hc => absurd hc (by simp)⟩
theorem AccI.step {W : List Nat} {l : List (List Nat)} (h : AccI W l) {a b : List Nat} (ha : ∀ x, x ∈ a → x ∈ W) (hb : ∀ x, x ∈ b → x ∈ W) : AccI W (Mp.stepC l a b) := by
  unfold Mp.stepC
  split
  · rename_i hl
    refine ⟨addC_nodup h.nd, fun c hc => ?_⟩
    rcases addC_mem hc with hc | rfl
    · exact h.ok c hc
    · refine ⟨hl, fun x hx => ?_⟩
      rcases (joinL_mem _ _ _).1 hx with hx | hx
      · exact ha x hx
      · exact hb x hx
  · exact h
theorem AccI.len {W : List Nat} {l : List (List Nat)} (h : AccI W l) (hW : W.length ≤ 450) : l.length ≤ 41371966801 := by
  refine Nat.le_trans (cuts_few h.nd h.ok) ?_
  have : (W.length + 1) ^ 4 ≤ 451 ^ 4 := Nat.pow_le_pow_left (by omega) 4
  omega
/-- the variables that the gates name -/
def namW (F : Nat) (ands : List AndD) : List Nat := (List.range ands.length).flatMap fun k => [F + k, grA F ands (F + k), grB F ands (F + k)]
theorem namW_len (F : Nat) (ands : List AndD) : (namW F ands).length = 3 * ands.length := by
  have key : ∀ l : List Nat, (l.flatMap fun k => [F + k, grA F ands (F + k), grB F ands (F + k)]).length = 3 * l.length := by
    intro l
    induction l with
    | nil => rfl
    | cons a r ih => rw [List.flatMap_cons, List.length_append, ih]; simp; omega
  unfold namW
  rw [key, List.length_range]
theorem namW_mem {F : Nat} {ands : List AndD} {k : Nat} (h : k < ands.length) : F + k ∈ namW F ands ∧ grA F ands (F + k) ∈ namW F ands ∧ grB F ands (F + k) ∈ namW F ands := by
  have : ∀ x, x ∈ [F + k, grA F ands (F + k), grB F ands (F + k)] → x ∈ namW F ands := fun x hx => List.mem_flatMap.2 ⟨k, List.mem_range.2 h, hx⟩
  exact ⟨this _ (by simp), this _ (by simp), this _ (by simp)⟩
theorem mxC_most {label : Nat → Nat} {M : Nat} (h : ∀ u, label u ≤ M) : ∀ (c : List Nat) (d : Nat), d ≤ M → c.foldl (fun d u => max d (label u)) d ≤ M
  | [], _, hd => hd
  | a :: r, d, hd => by
    rw [List.foldl_cons]
    exact mxC_most h r _ (by have := h a; omega)
end Go.Proofs.Ytlaljeobdddegaa
