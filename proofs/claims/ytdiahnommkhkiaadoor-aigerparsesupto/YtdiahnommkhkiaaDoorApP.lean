import Derived.Test.YtdiahnommkhkiaaDoorApN
import Derived.Lib.Split
namespace Go.Proofs.YtdiahnommkhkiaaDoor

theorem snocInd {motive : List UInt8 → Prop} (nil : motive []) (snoc : ∀ l x, motive l → motive (l ++ [x])) (l : List UInt8) : motive l := by
  have h : ∀ r : List UInt8, motive r.reverse := by
    intro r
    induction r with
    | nil => exact nil
    | cons x r ih => rw [List.reverse_cons]; exact snoc _ x ih
  have := h l.reverse
  rwa [List.reverse_reverse] at this
/-- what lies between the signs c, and behind the last one -/
def sp (c : UInt8) (l : List UInt8) : List (List UInt8) × List UInt8 := l.foldl (fun s x => if x = c then (s.1 ++ [s.2], []) else (s.1, s.2 ++ [x])) ([], [])
theorem sp_nil (c : UInt8) : sp c [] = ([], []) := rfl
theorem sp_snoc (c : UInt8) (l : List UInt8) (x : UInt8) : sp c (l ++ [x]) = if x = c then ((sp c l).1 ++ [(sp c l).2], []) else ((sp c l).1, (sp c l).2 ++ [x]) := by
  unfold sp; rw [List.foldl_append]; rfl
theorem sp_from (c : UInt8) (l : List UInt8) (ps : List (List UInt8)) (r : List UInt8) : l.foldl (fun s x => if x = c then (s.1 ++ [s.2], []) else (s.1, s.2 ++ [x])) (ps, r) = (ps ++ (match sp c l with | ([], _) => [] | (a :: t, _) => (r ++ a) :: t), match sp c l with | ([], y) => r ++ y | (_ :: _, y) => y) := by
  induction l using snocInd with
  | nil => simp [sp]
  | snoc l x ih =>
    rw [List.foldl_append, ih, sp_snoc]
    simp only [List.foldl_cons, List.foldl_nil]
    cases hs : sp c l with
    | mk a y =>
      cases a with
      | nil => by_cases hx : x = c <;> simp [hx]
      | cons a t => by_cases hx : x = c <;> simp [hx]
/-- none of them -/
theorem sp_free (c : UInt8) (l : List UInt8) (h : c ∉ l) : sp c l = ([], l) := by
  induction l using snocInd with
  | nil => rfl
  | snoc l x ih =>
    rw [sp_snoc, ih (fun hc => h (by simp [hc]))]
    have : ¬ x = c := fun e => h (by simp [e])
    simp [this]
theorem sp_cut (c : UInt8) (a b : List UInt8) (h : c ∉ a) : sp c (a ++ c :: b) = (a :: (sp c b).1, (sp c b).2) := by
  have e : sp c (a ++ c :: b) = b.foldl (fun s x => if x = c then (s.1 ++ [s.2], []) else (s.1, s.2 ++ [x])) ([a], []) := by
    have : sp c (a ++ [c]) = ([a], []) := by rw [sp_snoc, sp_free c a h]; simp
    unfold sp at *
    rw [show a ++ c :: b = (a ++ [c]) ++ b by simp, List.foldl_append, this]
  rw [e, sp_from]
  cases hs : sp c b with
  | mk p y => cases p <;> simp
/-- all pieces -/
def pcs (c : UInt8) (l : List UInt8) : List (List UInt8) := (sp c l).1 ++ [(sp c l).2]
theorem pcs_free (c : UInt8) (l : List UInt8) (h : c ∉ l) : pcs c l = [l] := by unfold pcs; rw [sp_free c l h]; rfl
theorem pcs_cut (c : UInt8) (a b : List UInt8) (h : c ∉ a) : pcs c (a ++ c :: b) = a :: pcs c b := by unfold pcs; rw [sp_cut c a b h]; rfl
theorem first_or (c : UInt8) (l : List UInt8) : c ∉ l ∨ ∃ a b, c ∉ a ∧ l = a ++ c :: b := by
  by_cases h : c ∈ l
  · right
    obtain ⟨a, b, rfl, ha⟩ := List.append_of_mem h |> fun ⟨s, t, e⟩ => List.eq_append_cons_of_mem h
    exact ⟨a, b, ha, rfl⟩
  · exact .inl h
theorem index_free (c : UInt8) (l : List UInt8) (h : c ∉ l) : Lib.index l [c] = -1 := by
  induction l with
  | nil => rfl
  | cons x r ih =>
    have hx : ¬ x = c := fun e => h (by simp [e])
    have hr := ih (fun hc => h (by simp [hc]))
    unfold Lib.index
    have hp : List.isPrefixOf [c] (x :: r) = false := by simp [List.isPrefixOf]; exact fun e => hx e.symm
    rw [hp, hr]; rfl
theorem index_cut (c : UInt8) (a b : List UInt8) (h : c ∉ a) : Lib.index (a ++ c :: b) [c] = (a.length : Int) := by
  induction a with
  | nil => simp [Lib.index, List.isPrefixOf]
  | cons x r ih =>
    have hx : ¬ x = c := fun e => h (by simp [e])
    have hr := ih (fun hc => h (by simp [hc]))
    rw [List.cons_append]
    unfold Lib.index
    have hp : List.isPrefixOf [c] (x :: (r ++ c :: b)) = false := by simp [List.isPrefixOf]; exact fun e => hx e.symm
    rw [hp, hr]
    have : ¬ ((r.length : Int) == -1) = true := by simp
    simp [this]
theorem cut_free (c : UInt8) (l : List UInt8) (h : c ∉ l) : Lib.cut l [c] = (l, [], false) := by
  unfold Lib.cut; rw [index_free c l h]; simp
theorem cut_cut (c : UInt8) (a b : List UInt8) (h : c ∉ a) : Lib.cut (a ++ c :: b) [c] = (a, b, true) := by
  unfold Lib.cut; rw [index_cut c a b h]
  have : (0 : Int) ≤ (a.length : Int) := by omega
  simp [this]
/-- strings.SplitN: all pieces, or one too many -/
theorem splitK_pcs (c : UInt8) (k : Nat) (l : List UInt8) : ((pcs c l).length ≤ k + 1 → Lib.splitK [c] 0 k l = pcs c l) ∧ (k + 1 < (pcs c l).length → (Lib.splitK [c] 0 k l).length = k + 1) := by
  induction k generalizing l with
  | zero =>
    rcases first_or c l with h | ⟨a, b, ha, rfl⟩
    · rw [pcs_free c l h]; simp [Lib.splitK]
    · rw [pcs_cut c a b ha]
      have : 1 ≤ (pcs c b).length := by unfold pcs; simp
      simp only [List.length_cons, Lib.splitK]
      constructor
      · intro h; omega
      · intro _; simp
  | succ k ih =>
    rcases first_or c l with h | ⟨a, b, ha, rfl⟩
    · rw [pcs_free c l h]
      constructor
      · intro _; unfold Lib.splitK; rw [index_free c l h]; rfl
      · intro h; simp at h
    · have hi := ih b
      rw [pcs_cut c a b ha]
      have e : Lib.splitK [c] 0 (k + 1) (a ++ c :: b) = a :: Lib.splitK [c] 0 k b := by
        rw [show Lib.splitK [c] 0 (k + 1) (a ++ c :: b) = (if Lib.index (a ++ c :: b) [c] == -1 then [a ++ c :: b] else (a ++ c :: b).take ((Lib.index (a ++ c :: b) [c]).toNat + 0) :: Lib.splitK [c] 0 k ((a ++ c :: b).drop ((Lib.index (a ++ c :: b) [c]).toNat + [c].length))) from rfl, index_cut c a b ha]
        have : ¬ ((a.length : Int) == -1) = true := by simp
        simp [this]
      rw [e]
      simp only [List.length_cons]
      constructor
      · intro h; rw [hi.1 (by omega)]
      · intro h; rw [hi.2 (by omega)]
theorem sp_prefix (c : UInt8) (a b : List UInt8) : ∃ t, (sp c (a ++ b)).1 = (sp c a).1 ++ t := by
  have e : sp c (a ++ b) = b.foldl (fun s x => if x = c then (s.1 ++ [s.2], []) else (s.1, s.2 ++ [x])) ((sp c a).1, (sp c a).2) := by
    unfold sp; rw [List.foldl_append]
  rw [e, sp_from]
  exact ⟨_, rfl⟩
theorem pcs_len (c : UInt8) (l : List UInt8) : (pcs c l).length ≤ l.length + 1 := by
  unfold pcs
  have : ∀ l : List UInt8, (sp c l).1.length ≤ l.length := by
    intro l
    induction l using snocInd with
    | nil => simp [sp]
    | snoc l x ih =>
      rw [sp_snoc]
      split <;> simp <;> omega
  have := this l
  simp; omega

end Go.Proofs.YtdiahnommkhkiaaDoor
