import Derived.Test.YtibjgoigdajkkaaDoorJ18
import Derived.Test.YtibjgoigdajkkaaDoorJ19
namespace Go.Proofs.YtibjgoigdajkkaaDoor
open Go.RowKit

theorem cnt_diff {n : Nat} {p q : Nat → Bool} {x : Nat} (hx : x < n) (h : ∀ j, j < n → j ≠ x → q j = p j) : ((cntP n q : Nat) : Int) = (cntP n p : Nat) + (if q x = true then 1 else 0) - (if p x = true then 1 else 0) := by
  by_cases hp : p x = true
  · by_cases hq : q x = true
    · rw [cnt_congr (p := q) (q := p) (fun j hj => by by_cases e : j = x
                                                      · rw [e, hp, hq]
                                                      · exact h j hj e), if_pos hp, if_pos hq]; omega
    · have := cnt_add (p := q) (q := p) hx (by simpa using hq) hp (fun j hj hne => (h j hj hne).symm)
      rw [if_pos hp, if_neg hq]; omega
  · by_cases hq : q x = true
    · have := cnt_add (p := p) (q := q) hx (by simpa using hp) hq h
      rw [if_neg hp, if_pos hq]; omega
    · rw [cnt_congr (p := q) (q := p) (fun j hj => by by_cases e : j = x
                                                      · rw [e]; simp only [Bool.not_eq_true] at hp hq; rw [hp, hq]
                                                      · exact h j hj e), if_neg hp, if_neg hq]; omega
def cntT (D : PnS) (col : Nat → Int) (On : Nat → Bool) (x c : Nat) : Nat := cntP D.n (fun j => On j && decide (x ∈ D.ins j) && decide (col j = (c : Int)))
/-- so many tables stand, none ahead of what it takes; what takes an item is counted -/
structure Inv (D : PnS) (T : PnT) (On : Nat → Bool) : Prop where
  on : ∀ j, On j = true → D.first ≤ j ∧ j < D.n ∧ 0 ≤ T.col j ∧ T.col j < D.cc
  c0 : ∀ j, j < D.first → T.col j = -1
  tk : ∀ x, x < D.n → ∀ c, c ≤ D.cc → T.tk x c = cntT D T.col On x c + endK D x c
  od : ∀ j, On j = true → ∀ x, x ∈ D.ins j → (On x = true ∨ x < D.first) → T.col x < T.col j
theorem cntT_pos {D : PnS} {col : Nat → Int} {On : Nat → Bool} {x c : Nat} : 0 < cntT D col On x c ↔ ∃ j, j < D.n ∧ On j = true ∧ x ∈ D.ins j ∧ col j = (c : Int) := by
  unfold cntT
  rw [cnt_pos]
  constructor
  · rintro ⟨j, hj, h⟩
    simp only [Bool.and_eq_true, decide_eq_true_eq] at h
    exact ⟨j, hj, h.1.1, h.1.2, h.2⟩
  · rintro ⟨j, hj, h1, h2, h3⟩
    exact ⟨j, hj, by simp only [Bool.and_eq_true, decide_eq_true_eq]; exact ⟨⟨h1, h2⟩, h3⟩⟩
theorem cntT_le (D : PnS) (col : Nat → Int) (On : Nat → Bool) (x c : Nat) : cntT D col On x c ≤ D.n := cnt_le _ _
theorem endK_le (D : PnS) (x c : Nat) : endK D x c ≤ 1 := by unfold endK; split <;> omega
theorem endK_pos {D : PnS} {x c : Nat} (h : 0 < endK D x c) : c = D.cc ∧ D.isEnd x = true := by
  unfold endK at h
  split at h
  · assumption
  · omega
theorem Inv.put {D : PnS} {T : PnT} {On : Nat → Bool} (h : Inv D T On) {i c : Nat} (hi : D.first ≤ i) (hn : i < D.n) (ho : On i = false) (hc : c < D.cc) (h1 : ∀ x, x ∈ D.ins i → (On x = true ∨ x < D.first) → T.col x < c) (h2 : ∀ j, On j = true → i ∈ D.ins j → (c : Int) < T.col j) (hni : i ∉ D.ins i) : Inv D (putT D T i c) (upd On i true) := by
  refine ⟨fun j hj => ?_, fun j hj => ?_, fun x hx d hd => ?_, fun j hj x hx hox => ?_⟩
  · by_cases e : j = i
    · subst e
      show _ ∧ _ ∧ 0 ≤ upd T.col j c j ∧ upd T.col j c j < _
      rw [upd_same]
      exact ⟨hi, hn, by omega, by omega⟩
    · rw [upd_ne e] at hj
      show _ ∧ _ ∧ 0 ≤ upd T.col i c j ∧ upd T.col i c j < _
      rw [upd_ne e]
      exact h.on j hj
  · show upd T.col i c j = -1
    rw [upd_ne (by omega)]
    exact h.c0 j hj
  · show tkAdd T.tk (D.ins i) c x d = cntT D (upd T.col i c) (upd On i true) x d + _
    have ht := h.tk x hx d hd
    have hd2 : ((cntT D (upd T.col i c) (upd On i true) x d : Nat) : Int) = (cntT D T.col On x d : Nat) + (if x ∈ D.ins i ∧ d = c then 1 else 0) := by
      unfold cntT
      rw [cnt_diff (p := fun j => On j && decide (x ∈ D.ins j) && decide (T.col j = (d : Int))) hn (fun j _ hne => by rw [upd_ne hne, upd_ne hne])]
      simp only [upd_same, ho, Bool.false_and, Bool.true_and, Bool.and_eq_true, decide_eq_true_eq, Bool.false_eq_true, if_false, Int.sub_zero]
      by_cases e : x ∈ D.ins i ∧ d = c
      · rw [if_pos ⟨e.1, by omega⟩, if_pos e]
      · rw [if_neg (fun e2 => e ⟨e2.1, by omega⟩), if_neg e]
    unfold tkAdd
    by_cases e : x ∈ D.ins i ∧ d = c
    · rw [if_pos e]; rw [if_pos e] at hd2; omega
    · rw [if_neg e]; rw [if_neg e] at hd2; omega
  · show upd T.col i c x < upd T.col i c j
    by_cases e : j = i
    · subst e
      have hxj : x ≠ j := fun e => hni (by rw [e] at hx; exact hx)
      rw [upd_same, upd_ne hxj]
      refine h1 x hx ?_
      rcases hox with hox | hox
      · rw [upd_ne hxj] at hox; exact Or.inl hox
      · exact Or.inr hox
    · rw [upd_ne e] at hj
      rw [upd_ne e]
      by_cases e2 : x = i
      · rw [e2, upd_same]; exact h2 j hj (e2 ▸ hx)
      · rw [upd_ne e2]
        refine h.od j hj x hx ?_
        rcases hox with hox | hox
        · rw [upd_ne e2] at hox; exact Or.inl hox
        · exact Or.inr hox
/-- one less for each of a list, at one column -/
def tkSub (t : Nat → Nat → Nat) (l : List Nat) (c : Nat) : Nat → Nat → Nat := fun j d => if j ∈ l ∧ d = c then t j d - 1 else t j d
theorem tkSub_nil (t : Nat → Nat → Nat) (c : Nat) : tkSub t [] c = t := by funext j d; unfold tkSub; rw [if_neg (fun h => by cases h.1)]
theorem tkSub_next (t : Nat → Nat → Nat) {l : List Nat} {x : Nat} (c : Nat) (h : x ∉ l) : upd2 (tkSub t l c) x c (t x c - 1) = tkSub t (l ++ [x]) c := by
  funext j d
  unfold upd2 tkSub
  by_cases e : j = x ∧ d = c
  · obtain ⟨rfl, rfl⟩ := e
    rw [if_pos ⟨rfl, rfl⟩, if_pos ⟨by simp, rfl⟩]
  · rw [if_neg e]
    by_cases e2 : j ∈ l ∧ d = c
    · rw [if_pos e2, if_pos ⟨by simp [e2.1], e2.2⟩]
    · rw [if_neg e2, if_neg]
      rintro ⟨h1, h2⟩
      rcases List.mem_append.1 h1 with h1 | h1
      · exact e2 ⟨h1, h2⟩
      · exact e ⟨by simpa using h1, h2⟩
theorem tkSub_row {t : Nat → Nat → Nat} {l : List Nat} {x c : Nat} (h : x ∉ l) : tkSub t l c x = t x := by funext d; unfold tkSub; rw [if_neg (fun e => h e.1)]
theorem tkSub_in {t : Nat → Nat → Nat} {l m : List Nat} {x c : Nat} (h : x ∈ l) (h2 : x ∈ m) : tkSub t l c x = tkSub t m c x := by
  funext d; unfold tkSub
  by_cases e : d = c
  · rw [if_pos ⟨h, e⟩, if_pos ⟨h2, e⟩]
  · rw [if_neg (fun h => e h.2), if_neg (fun h => e h.2)]
theorem tkAdd_row {t : Nat → Nat → Nat} {l : List Nat} {x c : Nat} (h : x ∉ l) : tkAdd t l c x = t x := by funext d; unfold tkAdd; rw [if_neg (fun e => h e.1)]
theorem tkAdd_in {t : Nat → Nat → Nat} {l m : List Nat} {x c : Nat} (h : x ∈ l) (h2 : x ∈ m) : tkAdd t l c x = tkAdd t m c x := by
  funext d; unfold tkAdd
  by_cases e : d = c
  · rw [if_pos ⟨h, e⟩, if_pos ⟨h2, e⟩]
  · rw [if_neg (fun h => e h.2), if_neg (fun h => e h.2)]
def subT (D : PnS) (T : PnT) (i c : Nat) : PnT := { T with tk := tkSub T.tk (D.ins i) c }
theorem Inv.take {D : PnS} {T : PnT} {On : Nat → Bool} (h : Inv D T On) {i c : Nat} (ho : On i = true) (hc : T.col i = c) : Inv D (subT D T i c) (upd On i false) := by
  obtain ⟨hi, hn, _, _⟩ := h.on i ho
  have hof : ∀ j, upd On i false j = true → On j = true := fun j hj => by
    by_cases e : j = i
    · rw [e, upd_same] at hj; cases hj
    · rw [upd_ne e] at hj; exact hj
  refine ⟨fun j hj => h.on j (hof j hj), h.c0, fun x hx d hd => ?_, fun j hj x hx hox => h.od j (hof j hj) x hx (hox.imp (hof x) id)⟩
  show tkSub T.tk (D.ins i) c x d = cntT D T.col (upd On i false) x d + _
  have ht := h.tk x hx d hd
  have hd2 : ((cntT D T.col (upd On i false) x d : Nat) : Int) = (cntT D T.col On x d : Nat) - (if x ∈ D.ins i ∧ d = c then 1 else 0) := by
    unfold cntT
    rw [cnt_diff (p := fun j => On j && decide (x ∈ D.ins j) && decide (T.col j = (d : Int))) hn (fun j _ hne => by rw [upd_ne hne])]
    simp only [upd_same, ho, hc, Bool.false_and, Bool.true_and, Bool.and_eq_true, decide_eq_true_eq, Bool.false_eq_true, if_false, Int.add_zero]
    by_cases e : x ∈ D.ins i ∧ d = c
    · rw [if_pos ⟨e.1, by omega⟩, if_pos e]
    · rw [if_neg (fun e2 => e ⟨e2.1, by omega⟩), if_neg e]
  unfold tkSub
  by_cases e : x ∈ D.ins i ∧ d = c
  · rw [if_pos e]; rw [if_pos e] at hd2; omega
  · rw [if_neg e]; rw [if_neg e] at hd2; omega
theorem Inv.from_le {D : PnS} {T : PnT} {On : Nat → Bool} (h : Inv D T On) {x : Nat} (hx : x < D.n) (ho : On x = true ∨ x < D.first) : (T.col x).toNat ≤ untilN D T x := by
  unfold untilN
  rcases untilK_spec (T.tk x) (T.col x).toNat (D.cc + 1) with ⟨c, h1, h2, h3, _⟩ | ⟨_, h2⟩
  · rw [h3]
    rw [h.tk x hx c (by omega)] at h2
    by_cases e : 0 < cntT D T.col On x c
    · obtain ⟨j, _, h4, h5, h6⟩ := cntT_pos.1 e
      have := h.od j h4 x h5 ho
      omega
    · have := (endK_pos (show 0 < endK D x c by omega)).1
      rcases ho with ho | ho
      · have := (h.on x ho).2.2.2; omega
      · have := h.c0 x ho; omega
  · omega
theorem untilK_mono {t u : Nat → Nat} {f k : Nat} (h : ∀ d, d < k → t d ≤ u d) (hf : f ≤ untilK u f k) : untilK t f k ≤ untilK u f k := by
  rcases untilK_spec t f k with ⟨c, h1, h2, h3, _⟩ | ⟨_, h2⟩
  · rw [h3]; exact untilK_ge h1 (by have := h c h1; omega)
  · omega
def ldX (D : PnS) (T : PnT) (i c : Nat) : Int := (cntP D.n (fun j => decide (j ≠ i) && heldB D T c j) : Nat)
theorem ldX_le (D : PnS) (T : PnT) (i c : Nat) : 0 ≤ ldX D T i c ∧ ldX D T i c ≤ D.n := by
  unfold ldX
  have := cnt_le D.n (fun j => decide (j ≠ i) && heldB D T c j)
  omega
theorem heldB_true {D : PnS} {T : PnT} {c j : Nat} : heldB D T c j = true ↔ (T.col j).toNat ≤ c ∧ c < untilN D T j := by unfold heldB; rw [decide_eq_true_iff]
theorem ldX_ldN (D : PnS) (T : PnT) {i : Nat} (hi : i < D.n) (c : Nat) : ldN D T D.n c = ldX D T i c + (if (T.col i).toNat ≤ c ∧ c < untilN D T i then 1 else 0) := by
  unfold ldN ldX
  rw [cnt_diff (p := fun j => decide (j ≠ i) && heldB D T c j) (q := heldB D T c) hi (fun j _ hne => by simp [hne])]
  simp only [ne_eq, not_true_eq_false, decide_false, Bool.false_and, Bool.false_eq_true, if_false, Int.sub_zero, heldB_true]
theorem ldX_out (D : PnS) (T : PnT) {i : Nat} (hi : i < D.n) : ldAdd (ldN D T D.n) (T.col i).toNat (untilN D T i) (-1) = ldX D T i := by
  funext c
  have := ldX_ldN D T hi c
  unfold ldAdd
  split
  · rename_i h; rw [if_pos h] at this; omega
  · rename_i h; rw [if_neg h] at this; omega
theorem ldX_in (D : PnS) (T : PnT) {i : Nat} (hi : i < D.n) : ldAdd (ldX D T i) (T.col i).toNat (untilN D T i) 1 = ldN D T D.n := by
  funext c
  have := ldX_ldN D T hi c
  unfold ldAdd
  split
  · rename_i h; rw [if_pos h] at this; omega
  · rename_i h; rw [if_neg h] at this; omega
/-- the row of one item is another -/
theorem ldX_turn (D : PnS) (T U : PnT) {i x : Nat} (hx : x < D.n) (hne : x ≠ i) (hc : ∀ j, j ≠ i → U.col j = T.col j) (ht : ∀ j, j ≠ i → j ≠ x → U.tk j = T.tk j) (c : Nat) : ldX D U i c = ldX D T i c + (if (T.col x).toNat ≤ c ∧ c < untilN D U x then 1 else 0) - (if (T.col x).toNat ≤ c ∧ c < untilN D T x then 1 else 0) := by
  unfold ldX
  rw [cnt_diff (p := fun j => decide (j ≠ i) && heldB D T c j) (q := fun j => decide (j ≠ i) && heldB D U c j) hx (fun j _ hj => by
    by_cases e : j = i
    · simp [e]
    · unfold heldB untilN; rw [hc j e, ht j e hj])]
  simp only [hne, ne_eq, not_false_eq_true, decide_true, Bool.true_and, heldB_true, hc x hne]
theorem ldX_sub (D : PnS) (T U : PnT) {i x : Nat} (hx : x < D.n) (hne : x ≠ i) (hc : ∀ j, j ≠ i → U.col j = T.col j) (ht : ∀ j, j ≠ i → j ≠ x → U.tk j = T.tk j) (h1 : (T.col x).toNat ≤ untilN D U x) (h2 : untilN D U x ≤ untilN D T x) : ldAdd (ldX D T i) (untilN D U x) (untilN D T x) (-1) = ldX D U i := by
  funext c
  have := ldX_turn D T U hx hne hc ht c
  unfold ldAdd
  split
  · rename_i h
    rw [if_neg (by omega), if_pos (by omega)] at this; omega
  · rename_i h
    by_cases e : (T.col x).toNat ≤ c ∧ c < untilN D U x
    · rw [if_pos e, if_pos (by omega)] at this; omega
    · rw [if_neg e, if_neg (by omega)] at this; omega
theorem ldX_add (D : PnS) (T U : PnT) {i x : Nat} (hx : x < D.n) (hne : x ≠ i) (hc : ∀ j, j ≠ i → U.col j = T.col j) (ht : ∀ j, j ≠ i → j ≠ x → U.tk j = T.tk j) (h1 : (T.col x).toNat ≤ untilN D T x) (h2 : untilN D T x ≤ untilN D U x) : ldAdd (ldX D T i) (untilN D T x) (untilN D U x) 1 = ldX D U i := by
  funext c
  have := ldX_turn D T U hx hne hc ht c
  unfold ldAdd
  split
  · rename_i h
    rw [if_pos (by omega), if_neg (by omega)] at this; omega
  · rename_i h
    by_cases e : (T.col x).toNat ≤ c ∧ c < untilN D T x
    · rw [if_pos (by omega), if_pos e] at this; omega
    · rw [if_neg (by omega), if_neg e] at this; omega
theorem ldX_col (D : PnS) (T U : PnT) {i : Nat} (hc : ∀ j, j ≠ i → U.col j = T.col j) (ht : ∀ j, j ≠ i → U.tk j = T.tk j) : ldX D U i = ldX D T i := by
  funext c
  unfold ldX
  rw [cnt_congr (q := fun j => decide (j ≠ i) && heldB D T c j)]
  intro j _
  by_cases e : j = i
  · simp [e]
  · unfold heldB untilN; rw [hc j e, ht j e]


end Go.Proofs.YtibjgoigdajkkaaDoor

namespace Go.Proofs.YtibjgoigdajkkaaDoor
open Go.RowKit

def allOn (D : PnS) (j : Nat) : Bool := decide (D.first ≤ j ∧ j < D.n)
theorem allOn_true {D : PnS} {j : Nat} : allOn D j = true ↔ D.first ≤ j ∧ j < D.n := by unfold allOn; rw [decide_eq_true_iff]
structure Good (D : PnS) (T : PnT) : Prop where
  iv : Inv D T (allOn D)
  ld : T.ld = ldN D T D.n
/-- sources take nothing, each table is taken or an end -/
structure PlOk (D : PnS) : Prop where
  src : ∀ j, j < D.first → D.ins j = []
  use : ∀ i, D.first ≤ i → i < D.n → D.isEnd i = true ∨ ∃ j, j < D.n ∧ i ∈ D.ins j
theorem Good.ex {D : PnS} {T : PnT} (h : Good D T) (hO : PlOk D) (hc1 : 1 ≤ D.cc) (hni : ∀ j, j < D.n → ∀ x, x ∈ D.ins j → x < j) {i c : Nat} (hi : D.first ≤ i) (hn : i < D.n) (hc : T.col i = c) : ∃ d, 0 < d ∧ d ≤ D.cc ∧ (subT D T i c).tk i d ≠ 0 := by
  have hT := h.iv.take (allOn_true.2 ⟨hi, hn⟩) hc
  rcases hO.use i hi hn with he | ⟨j, hj, hm⟩
  · refine ⟨D.cc, hc1, Nat.le_refl _, ?_⟩
    rw [hT.tk i hn D.cc (Nat.le_refl _)]
    have : endK D i D.cc = 1 := by unfold endK; rw [if_pos ⟨rfl, he⟩]
    omega
  · have hji := hni j hj i hm
    have hjo : D.first ≤ j := by omega
    have hon := h.iv.on j (allOn_true.2 ⟨hjo, hj⟩)
    have hod := h.iv.od j (allOn_true.2 ⟨hjo, hj⟩) i hm (Or.inl (allOn_true.2 ⟨hi, hn⟩))
    refine ⟨(T.col j).toNat, by omega, by omega, ?_⟩
    rw [hT.tk i hn _ (by omega)]
    have : 0 < cntT D (subT D T i c).col (upd (allOn D) i false) i (T.col j).toNat := cntT_pos.2 ⟨j, hj, by rw [upd_ne (by omega)]; exact allOn_true.2 ⟨hjo, hj⟩, hm, by show T.col j = _; omega⟩
    omega
/-- where a table may stand, it stands -/
theorem Good.lat {D : PnS} {T : PnT} (h : Good D T) (hO : PlOk D) (hc1 : 1 ≤ D.cc) (hni : ∀ j, j < D.n → ∀ x, x ∈ D.ins j → x < j) {i c : Nat} (hi : D.first ≤ i) (hn : i < D.n) (hc : T.col i = c) :
    c ≤ latN D (subT D T i c) i ∧ latN D (subT D T i c) i < D.cc ∧ ∀ j, j < D.n → i ∈ D.ins j → (latN D (subT D T i c) i : Int) < T.col j := by
  obtain ⟨d0, hd1, hd2, hd3⟩ := h.ex hO hc1 hni hi hn hc
  have hT := h.iv.take (allOn_true.2 ⟨hi, hn⟩) hc
  obtain ⟨s1, s2, s3, s4⟩ := latK_spec ((subT D T i c).tk i) 0 D.cc ⟨d0, hd1, by omega, hd3⟩
  have e : latN D (subT D T i c) i = latK ((subT D T i c).tk i) 0 D.cc := rfl
  rw [e]
  generalize latK ((subT D T i c).tk i) 0 D.cc = la at *
  have hon := h.iv.on i (allOn_true.2 ⟨hi, hn⟩)
  refine ⟨?_, by omega, fun j hj hm => ?_⟩
  · have hp : 0 < (subT D T i c).tk i (la + 1) := by omega
    rw [hT.tk i hn (la + 1) (by omega)] at hp
    by_cases e : 0 < cntT D (subT D T i c).col (upd (allOn D) i false) i (la + 1)
    · obtain ⟨j, hj, h1, h2, h3⟩ := cntT_pos.1 e
      have hji := hni j hj i h2
      rw [upd_ne (by omega)] at h1
      have := h.iv.od j h1 i h2 (Or.inl (allOn_true.2 ⟨hi, hn⟩))
      have h3' : T.col j = ((la + 1 : Nat) : Int) := h3
      omega
    · have := (endK_pos (show 0 < endK D i (la + 1) by omega)).1
      omega
  · have hji := hni j hj i hm
    have hjo : D.first ≤ j := by omega
    have honj := h.iv.on j (allOn_true.2 ⟨hjo, hj⟩)
    have hod := h.iv.od j (allOn_true.2 ⟨hjo, hj⟩) i hm (Or.inl (allOn_true.2 ⟨hi, hn⟩))
    by_cases hlt : (la : Int) < T.col j
    · exact hlt
    · have hz := s4 (T.col j).toNat (by omega) (by omega)
      rw [hT.tk i hn _ (by omega)] at hz
      have : 0 < cntT D (subT D T i c).col (upd (allOn D) i false) i (T.col j).toNat := cntT_pos.2 ⟨j, hj, by rw [upd_ne (by omega)]; exact allOn_true.2 ⟨hjo, hj⟩, hm, by show T.col j = _; omega⟩
      omega
theorem Good.ear {D : PnS} {T : PnT} (h : Good D T) (hni : ∀ j, j < D.n → ∀ x, x ∈ D.ins j → x < j) {i c : Nat} (hi : D.first ≤ i) (hn : i < D.n) (hc : T.col i = c) :
    0 ≤ earL T.col (D.ins i) ∧ earL T.col (D.ins i) ≤ c ∧ ∀ x, x ∈ D.ins i → T.col x + 1 ≤ earL T.col (D.ins i) := by
  refine earL_spec T.col (D.ins i) c (fun x hx => ?_) (by omega)
  have hxi := hni i hn x hx
  have := h.iv.od i (allOn_true.2 ⟨hi, hn⟩) x hx (by
    by_cases e : x < D.first
    · exact Or.inr e
    · exact Or.inl (allOn_true.2 ⟨by omega, by omega⟩))
  omega
/-- a table that is taken out and put elsewhere -/
theorem Good.moved {D : PnS} {T : PnT} (h : Good D T) (hO : PlOk D) (hc1 : 1 ≤ D.cc) (hni : ∀ j, j < D.n → ∀ x, x ∈ D.ins j → x < j) {i c b : Nat} (hi : D.first ≤ i) (hn : i < D.n) (hc : T.col i = c) (h1 : earL T.col (D.ins i) ≤ b) (h2 : b ≤ latN D (subT D T i c) i) :
    Inv D (putT D (subT D T i c) i b) (allOn D) := by
  have hT := h.iv.take (allOn_true.2 ⟨hi, hn⟩) hc
  obtain ⟨_, l2, l3⟩ := h.lat hO hc1 hni hi hn hc
  obtain ⟨_, _, e3⟩ := h.ear hni hi hn hc
  have := hT.put hi hn (upd_same _ _ _) (c := b) (by omega) (fun x hx _ => by have := e3 x hx; show T.col x < _; omega) (fun j hj hm => by
    have hjn := (hT.on j hj).2.1
    have := l3 j hjn hm
    show _ < T.col j
    omega) (fun hm => by have := hni i hn i hm; omega)
  have e : upd (upd (allOn D) i false) i true = allOn D := by
    funext j
    unfold upd
    by_cases e : j = i
    · rw [if_pos e, e, allOn_true.2 ⟨hi, hn⟩]
    · rw [if_neg e, if_neg e]
  rw [e] at this
  exact this


end Go.Proofs.YtibjgoigdajkkaaDoor

namespace Go.Proofs.YtibjgoigdajkkaaDoor
open Go.RowKit

theorem exh {α : Type} (a : α) : ∃ x, Hid (x = a) := ⟨_, rfl⟩
theorem PlBase.below {D : PnS} {w w' : World} (h : PlBase D w) (hb : Below w.heap.size w w') : PlBase D w' := h.kp hb.size (fun k hk _ _ => hb.block k (Nat.lt_of_lt_of_le hk h.sz))
theorem PlAt.below {D : PnS} {T : PnT} {w w' : World} (h : PlAt D w T) (hb : Below w.heap.size w w') : PlAt D w' T :=
  ⟨h.bs.below hb, fun h0 => (h.it h0).below hb, h.ld.below hb, fun i hi => ⟨(h.tk i hi).1, (h.tk i hi).2.below hb⟩, h.dj, h.col, h.tkb, h.ldb⟩
/-- a block that is none of the plan's is turned -/
theorem PlAt.far {D : PnS} {T : PnT} {w : World} (h : PlAt D w T) {g c : Nat} (v : Value) (hg : D.C ≤ g) (ht : ∀ j, j < D.n → g ≠ T.tb j) : PlAt D (w.setCell ⟨g, c, none⟩ v) T := by
  have hb := But.set g c w v
  have hl := h.bs.lt
  exact ⟨h.bs.kp hb.size (fun k hk _ _ => hb.block k (Nat.lt_of_lt_of_le hk h.bs.sz) (by omega)), fun h0 => hb.blk (h.it h0) (by omega), hb.blk h.ld (by omega), fun i hi => ⟨(h.tk i hi).1, hb.blk (h.tk i hi).2 (fun e => ht i hi e.symm)⟩, h.dj, h.col, h.tkb, h.ldb⟩
theorem Below.frp {D : PnS} {tb : Nat → Nat} {a b : World} (h : Below a.heap.size a b) : FrP D tb a b := ⟨h.os, h.tape, h.output, h.size, fun k hk _ _ _ => h.block k hk⟩
theorem FrP.new {D : PnS} {tb : Nat → Nat} {a b c : World} {g : Nat} (h : FrP D tb a b) (hg : a.heap.size ≤ g) (k : But g b c) : FrP D tb a c :=
  ⟨k.os.trans h.os, k.tape.trans h.tape, k.output.trans h.output, Nat.le_trans h.size k.size, fun j hj h1 h2 h3 => (k.block j (Nat.lt_of_lt_of_le hj h.size) (by omega)).trans (h.block j hj h1 h2 h3)⟩
def lowT (T : PnT) (l : List Nat) (c : Nat) : PnT := { T with tk := tkSub T.tk l c }
def lowL (D : PnS) (T : PnT) (i : Nat) (l : List Nat) (c : Nat) : PnT := { T with tk := tkSub T.tk l c, ld := ldX D (lowT T l c) i }
theorem untilN_low (D : PnS) (T : PnT) {l : List Nat} {c x : Nat} (h : x ∉ l) : untilN D (lowT T l c) x = untilN D T x := by unfold untilN lowT; dsimp only; rw [tkSub_row h]
theorem untilN_low2 (D : PnS) (T : PnT) {l m : List Nat} {c x : Nat} (h : x ∈ l) (h2 : x ∈ m) : untilN D (lowT T l c) x = untilN D (lowT T m c) x := by unfold untilN lowT; dsimp only; rw [tkSub_in h h2]
/-- what is known of an item that is taken by the one that moves -/
theorem mv_facts {D : PnS} {T : PnT} {w : World} (h : PlAt D w T) (hG : Good D T) {i c x : Nat} (hi : D.first ≤ i) (hn : i < D.n) (hc : T.col i = c) (hx : x ∈ D.ins i) :
    x < D.n ∧ x < i ∧ 1 ≤ T.tk x c ∧ (T.col x).toNat ≤ untilN D (lowT T (D.ins i) c) x ∧ untilN D (lowT T (D.ins i) c) x ≤ untilN D T x ∧ untilN D T x ≤ D.cc := by
  have hxi := h.bs.insn i hn x hx
  have hxo : allOn D x = true ∨ x < D.first := by
    by_cases e : x < D.first
    · exact Or.inr e
    · exact Or.inl (allOn_true.2 ⟨by omega, by omega⟩)
  have hT := hG.iv.take (allOn_true.2 ⟨hi, hn⟩) hc
  have hcl := hG.iv.on i (allOn_true.2 ⟨hi, hn⟩)
  have f1 : (T.col x).toNat ≤ untilN D (subT D T i c) x := hT.from_le (show x < D.n by omega) (by
    rcases hxo with h | h
    · exact Or.inl (by rw [upd_ne (by omega)]; exact h)
    · exact Or.inr h)
  have f2 := hG.iv.from_le (show x < D.n by omega) hxo
  refine ⟨by omega, hxi, ?_, f1, ?_, untilN_le (h.col x (by omega)).2⟩
  · rw [hG.iv.tk x (by omega) c (by omega)]
    have : 0 < cntT D T.col (allOn D) x c := cntT_pos.2 ⟨i, hn, allOn_true.2 ⟨hi, hn⟩, hx, hc⟩
    omega
  · exact untilK_mono (fun d _ => by show tkSub T.tk (D.ins i) c x d ≤ T.tk x d; unfold tkSub; split <;> omega) f2
theorem mv_next {D : PnS} {T : PnT} {w : World} (h : PlAt D w T) (hG : Good D T) {i c k x : Nat} (hi : D.first ≤ i) (hn : i < D.n) (hc : T.col i = c) (hx : (D.ins i)[k]? = some x) :
    ldAdd (ldX D (lowT T ((D.ins i).take k) c) i) (untilN D (lowT T (D.ins i) c) x) (untilN D T x) (-1) = ldX D (lowT T ((D.ins i).take (k + 1)) c) i := by
  obtain ⟨f1, f2, f3, f4, f5, f6⟩ := mv_facts h hG hi hn hc (List.mem_of_getElem? hx)
  have hni := nodup_take (h.bs.insd i hn) hx
  have e1 := untilN_low D T (c := c) hni
  have hin : x ∈ (D.ins i).take (k + 1) := by rw [take_next _ k _ hx]; simp
  have e2 := untilN_low2 D T (c := c) hin (List.mem_of_getElem? hx)
  have := ldX_sub D (lowT T ((D.ins i).take k) c) (lowT T ((D.ins i).take (k + 1)) c) (i := i) f1 (by omega) (fun _ _ => rfl) (fun j _ hj => by
    show tkSub T.tk ((D.ins i).take (k + 1)) c j = tkSub T.tk ((D.ins i).take k) c j
    by_cases e : j ∈ (D.ins i).take k
    · exact tkSub_in (by rw [take_next _ k _ hx]; simp [e]) e
    · rw [tkSub_row e, tkSub_row (by rw [take_next _ k _ hx]; simp [e, hj])]) (by rw [e2]; exact f4) (by rw [e1, e2]; exact f5)
  rw [e1, e2] at this
  exact this
/-- the loads while the inputs are held anew -/
def upT (T : PnT) (l : List Nat) (b : Nat) : PnT := { T with tk := tkAdd T.tk l b }
theorem untilN_up (D : PnS) (T : PnT) {l : List Nat} {c x : Nat} (h : x ∉ l) : untilN D (upT T l c) x = untilN D T x := by unfold untilN upT; dsimp only; rw [tkAdd_row h]
theorem untilN_up2 (D : PnS) (T : PnT) {l m : List Nat} {c x : Nat} (h : x ∈ l) (h2 : x ∈ m) : untilN D (upT T l c) x = untilN D (upT T m c) x := by unfold untilN upT; dsimp only; rw [tkAdd_in h h2]
theorem mv_up {D : PnS} {T : PnT} {w : World} (h : PlAt D w T) (hG : Good D T) (hO : PlOk D) {i c b k x : Nat} (hi : D.first ≤ i) (hn : i < D.n) (hc : T.col i = c) (h1 : earL T.col (D.ins i) ≤ b) (h2 : b ≤ latN D (subT D T i c) i) (hx : (D.ins i)[k]? = some x) :
    ldAdd (ldX D (upT (subT D T i c) ((D.ins i).take k) b) i) (untilN D (lowT T (D.ins i) c) x) (untilN D (putT D (subT D T i c) i b) x) 1 = ldX D (upT (subT D T i c) ((D.ins i).take (k + 1)) b) i := by
  obtain ⟨f1, f2, f3, f4, f5, f6⟩ := mv_facts h hG hi hn hc (List.mem_of_getElem? hx)
  have hni := nodup_take (h.bs.insd i hn) hx
  have hP := hG.moved hO h.bs.cc.2.1 h.bs.insn hi hn hc h1 h2
  have e1 : untilN D (upT (subT D T i c) ((D.ins i).take k) b) x = untilN D (lowT T (D.ins i) c) x := untilN_up D (subT D T i c) hni
  have hin : x ∈ (D.ins i).take (k + 1) := by rw [take_next _ k _ hx]; simp
  have hcx : (putT D (subT D T i c) i b).col x = T.col x := by show upd T.col i b x = _; rw [upd_ne (by omega)]
  have e2 : untilN D (upT (subT D T i c) ((D.ins i).take (k + 1)) b) x = untilN D (putT D (subT D T i c) i b) x := by
    rw [untilN_up2 D (subT D T i c) hin (List.mem_of_getElem? hx)]
    unfold untilN
    rw [hcx]; rfl
  have hxo : allOn D x = true ∨ x < D.first := by
    by_cases e : x < D.first
    · exact Or.inr e
    · exact Or.inl (allOn_true.2 ⟨by omega, by omega⟩)
  have f7 := hP.from_le f1 hxo
  have f8 : untilN D (lowT T (D.ins i) c) x ≤ untilN D (putT D (subT D T i c) i b) x := by
    unfold untilN at f7 ⊢
    rw [hcx] at f7 ⊢
    exact untilK_mono (t := tkSub T.tk (D.ins i) c x) (fun d _ => by show tkSub T.tk (D.ins i) c x d ≤ tkAdd (tkSub T.tk (D.ins i) c) (D.ins i) b x d; unfold tkAdd; split <;> omega) f7
  have := ldX_add D (upT (subT D T i c) ((D.ins i).take k) b) (upT (subT D T i c) ((D.ins i).take (k + 1)) b) (i := i) f1 (by omega) (fun _ _ => rfl) (fun j _ hj => by
    show tkAdd (tkSub T.tk (D.ins i) c) ((D.ins i).take (k + 1)) b j = tkAdd (tkSub T.tk (D.ins i) c) ((D.ins i).take k) b j
    by_cases e : j ∈ (D.ins i).take k
    · exact tkAdd_in (by rw [take_next _ k _ hx]; simp [e]) e
    · rw [tkAdd_row e, tkAdd_row (by rw [take_next _ k _ hx]; simp [e, hj])]) (by rw [e1]; exact f4) (by rw [e1, e2]; exact f8)
  rw [e1, e2] at this
  exact this
theorem made_i64 (n : Nat) : (madeCells (Value.int .i64 0).cells (n * 1)).toList = tabL n fun _ => Value.int .i64 0 := by
  rw [Nat.mul_one]
  apply List.ext_getElem?
  intro i
  by_cases h : i < n
  · rw [tabL_get h]; simp [madeCells, Value.cells, h, Nat.mod_one]
  · rw [List.getElem?_eq_none (by simp [madeCells]; omega), List.getElem?_eq_none (by rw [tabL_len]; omega)]
/-- until when the first k inputs are held for others -/
def stA (ln k : Nat) (st : Nat → Nat) : Array Value := (tabL ln fun m => Value.int .i64 (if m < k then (st m : Int) else 0)).toArray
theorem stA_next (ln k : Nat) (st : Nat → Nat) : (stA ln k st).setIfInBounds k (.int .i64 (st k : Nat)) = stA ln (k + 1) st := by
  unfold stA
  rw [tab_set]
  congr 1
  apply tabL_congr
  intro m _
  unfold upd
  by_cases e : m = k
  · rw [if_pos e, e, if_pos (by omega)]
  · rw [if_neg e]
    dsimp only
    by_cases h : m < k
    · rw [if_pos h, if_pos (by omega)]
    · rw [if_neg h, if_neg (by omega)]


end Go.Proofs.YtibjgoigdajkkaaDoor
