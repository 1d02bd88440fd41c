import Derived.Test.YtdiahnommkhkiaaDoorAqH
namespace Go.Proofs.YtdiahnommkhkiaaDoor
open Go.RowKit

/-- a head's numbers -/
def hInts (ni nl no na : Nat) : Int × Int × Int × Int × Int := (((ni + nl + na : Nat) : Int), (ni : Int), (nl : Int), (no : Int), (na : Int))
def HeadAt (T : List UInt8) (ni nl no na : Nat) : Prop := ∃ a, (linesOf T)[0]? = some a ∧ HeadLine a (hInts ni nl no na)
theorem headLine_ints {a : List UInt8} {h : Int × Int × Int × Int × Int} (x : HeadLine a h) : ∃ ni nl no na, h = hInts ni nl no na := by
  obtain ⟨p0, p1, p2, p3, p4⟩ := h
  obtain ⟨_, x2, x3, x4⟩ := x
  have hb := val_bound x2
  rw [x3] at hb
  simp only at hb
  have b1 := hb p1 (by simp)
  have b2 := hb p2 (by simp)
  have b3 := hb p3 (by simp)
  have b4 := hb p4 (by simp)
  have h0 := x4.1
  simp only at h0
  refine ⟨p1.toNat, p2.toNat, p3.toNat, p4.toNat, ?_⟩
  unfold hInts
  rw [h0, Int.toNat_of_nonneg b1.1, Int.toNat_of_nonneg b2.1, Int.toNat_of_nonneg b3.1, Int.toNat_of_nonneg b4.1]
  rw [show ((p1.toNat + p2.toNat + p4.toNat : Nat) : Int) = p1 + p2 + p4 by omega]
theorem HeadAt.bound {T : List UInt8} {ni nl no na : Nat} (x : HeadAt T ni nl no na) : ni + nl + na < 60000 ∧ nl ≤ 6000 ∧ no ≤ 60000 := by
  obtain ⟨a, _, _, _, _, x4⟩ := x
  unfold rightH hInts at x4
  simp only at x4
  omega
theorem HeadAt.same {T : List UInt8} {ni nl no na ni' nl' no' na' : Nat} (x : HeadAt T ni nl no na) (y : HeadAt T ni' nl' no' na') : ni = ni' ∧ nl = nl' ∧ no = no' ∧ na = na' := by
  obtain ⟨a, x1, _, _, x3, _⟩ := x
  obtain ⟨b, y1, _, _, y3, _⟩ := y
  rw [x1] at y1
  cases y1
  rw [x3] at y3
  unfold hInts at y3
  simp only [List.cons.injEq] at y3
  omega
/-- a line behind the head -/
def BodyOk (T : List UInt8) (ni nl no na i : Nat) : Prop :=
  if i < ni then InOk T (1 + i) i
  else if i < ni + nl then ∃ d, LatLine T (1 + i) (2 * (1 + (i : Int))) (2 * (((ni + nl + na : Nat) : Int) + 1)) d
  else if i < ni + nl + no then ∃ y, OutLine T (1 + i) (2 * (((ni + nl + na : Nat) : Int) + 1)) y
  else ∃ d, AndLine T (1 + i) (2 * (1 + ((i - no : Nat) : Int))) d
theorem body_in {T : List UInt8} {ni nl no na i : Nat} (h : i < ni) : BodyOk T ni nl no na i ↔ InOk T (1 + i) i := by unfold BodyOk; rw [if_pos h]
theorem body_lat {T : List UInt8} {ni nl no na i : Nat} (h : i < nl) : BodyOk T ni nl no na (ni + i) ↔ ∃ d, LatLine T (1 + ni + i) (2 * (1 + (ni : Int) + (i : Int))) (2 * (((ni + nl + na : Nat) : Int) + 1)) d := by
  unfold BodyOk
  rw [if_neg (by omega), if_pos (by omega), show 1 + (ni + i) = 1 + ni + i by omega, show (1 : Int) + ((ni + i : Nat) : Int) = 1 + (ni : Int) + (i : Int) by omega]
theorem body_out {T : List UInt8} {ni nl no na i : Nat} (h : i < no) : BodyOk T ni nl no na (ni + nl + i) ↔ ∃ y, OutLine T (1 + ni + nl + i) (2 * (((ni + nl + na : Nat) : Int) + 1)) y := by
  unfold BodyOk
  rw [if_neg (by omega), if_neg (by omega), if_pos (by omega), show 1 + (ni + nl + i) = 1 + ni + nl + i by omega]
theorem body_and {T : List UInt8} {ni nl no na i : Nat} : BodyOk T ni nl no na (ni + nl + no + i) ↔ ∃ d, AndLine T (1 + ni + nl + no + i) (2 * (1 + (ni : Int) + (nl : Int) + (i : Int))) d := by
  unfold BodyOk
  rw [if_neg (by omega), if_neg (by omega), if_neg (by omega), show 1 + (ni + nl + no + i) = 1 + ni + nl + no + i by omega, show (1 : Int) + ((ni + nl + no + i - no : Nat) : Int) = 1 + (ni : Int) + (nl : Int) + (i : Int) by omega]
/-- what a text tells -/
structure GoodN (T : List UInt8) (G : GrD) (ni nl no na : Nat) : Prop where
  hd : HeadAt T ni nl no na
  ins : G.ins = (ni : Int)
  inp : ∀ i, i < ni → InOk T (1 + i) i
  ll : G.lats.length = nl
  lats : ∀ i d, G.lats[i]? = some d → LatLine T (1 + ni + i) (2 * (1 + (ni : Int) + (i : Int))) (2 * (((ni + nl + na : Nat) : Int) + 1)) d
  lo : G.outs.length = no
  outs : ∀ i d, G.outs[i]? = some d → OutLine T (1 + ni + nl + i) (2 * (((ni + nl + na : Nat) : Int) + 1)) d
  la : G.ands.length = na
  ands : ∀ i d, G.ands[i]? = some d → AndLine T (1 + ni + nl + no + i) (2 * (1 + (ni : Int) + (nl : Int) + (i : Int))) d
  be : BeOk T (1 + ni + nl + no + na)
def Good (T : List UInt8) (G : GrD) : Prop := ∃ ni nl no na, GoodN T G ni nl no na
/-- .. or where it is wrong -/
def Bad (T : List UInt8) (x : Int) : Prop := (x = 1 ∧ ¬ ∃ ni nl no na, HeadAt T ni nl no na) ∨ ∃ ni nl no na, HeadAt T ni nl no na ∧
  ((∃ j, j < ni + nl + no + na ∧ (∀ i, i < j → BodyOk T ni nl no na i) ∧ ¬ BodyOk T ni nl no na j ∧ x = ((1 + j + 1 : Nat) : Int)) ∨
   ((∀ i, i < ni + nl + no + na → BodyOk T ni nl no na i) ∧ ∃ m, BeBad T (1 + ni + nl + no + na) m ∧ x = ((m + 1 : Nat) : Int)))
theorem ex_el {α : Type} {P : Nat → α → Prop} {l : List α} {n : Nat} (hl : l.length = n) (h : ∀ i d, l[i]? = some d → P i d) {i : Nat} (hi : i < n) : ∃ d, P i d := ⟨_, h i _ (List.getElem?_eq_getElem (by omega : i < l.length))⟩
theorem body_of {T : List UInt8} {ni nl no na j : Nat} (h1 : ∀ i, i < ni → i < j → InOk T (1 + i) i) (h2 : ∀ i, i < nl → ni + i < j → ∃ d, LatLine T (1 + ni + i) (2 * (1 + (ni : Int) + (i : Int))) (2 * (((ni + nl + na : Nat) : Int) + 1)) d) (h3 : ∀ i, i < no → ni + nl + i < j → ∃ y, OutLine T (1 + ni + nl + i) (2 * (((ni + nl + na : Nat) : Int) + 1)) y) (h4 : ∀ i, i < na → ni + nl + no + i < j → ∃ d, AndLine T (1 + ni + nl + no + i) (2 * (1 + (ni : Int) + (nl : Int) + (i : Int))) d) (hj : j ≤ ni + nl + no + na) : ∀ i, i < j → BodyOk T ni nl no na i := by
  intro i hi
  by_cases k1 : i < ni
  · exact (body_in k1).2 (h1 i k1 hi)
  by_cases k2 : i < ni + nl
  · have := (body_lat (T := T) (ni := ni) (nl := nl) (no := no) (na := na) (i := i - ni) (by omega)).2 (h2 (i - ni) (by omega) (by omega))
    rw [show ni + (i - ni) = i by omega] at this
    exact this
  by_cases k3 : i < ni + nl + no
  · have := (body_out (T := T) (ni := ni) (nl := nl) (no := no) (na := na) (i := i - ni - nl) (by omega)).2 (h3 (i - ni - nl) (by omega) (by omega))
    rw [show ni + nl + (i - ni - nl) = i by omega] at this
    exact this
  · have := (body_and (T := T) (ni := ni) (nl := nl) (no := no) (na := na) (i := i - ni - nl - no)).2 (h4 (i - ni - nl - no) (by omega) (by omega))
    rw [show ni + nl + no + (i - ni - nl - no) = i by omega] at this
    exact this
theorem GoodN.body {T : List UInt8} {G : GrD} {ni nl no na : Nat} (h : GoodN T G ni nl no na) : ∀ i, i < ni + nl + no + na → BodyOk T ni nl no na i :=
  body_of (fun i h1 _ => h.inp i h1) (fun _ h1 _ => ex_el h.ll h.lats h1) (fun _ h1 _ => ex_el h.lo h.outs h1) (fun _ h1 _ => ex_el h.la h.ands h1) (Nat.le_refl _)

theorem LatLine.same {T : List UInt8} {n : Nat} {own m : Int} {d d' : LatD} (x : LatLine T n own m d) (y : LatLine T n own m d') : d = d' := by
  obtain ⟨dn, di⟩ := d
  obtain ⟨en, ei⟩ := d'
  obtain ⟨_, x⟩ := x
  obtain ⟨_, y⟩ := y
  simp only at x y
  rcases x with ⟨x1, x2⟩ | ⟨f, x1, _, x2⟩ <;> rcases y with ⟨y1, y2⟩ | ⟨g, y1, _, y2⟩ <;> rw [x1] at y1 <;> simp at y1
  · rw [y1, x2, y2]
  · rw [x2, y2, y1.1, y1.2]
theorem AndLine.same {T : List UInt8} {n : Nat} {own : Int} {d d' : AndD} (x : AndLine T n own d) (y : AndLine T n own d') : d = d' := by
  obtain ⟨dn, di⟩ := d
  obtain ⟨en, ei⟩ := d'
  have x1 := x.1
  have y1 := y.1
  rw [x1] at y1
  simp at y1
  rw [y1.1, y1.2]
theorem OutLine.same {T : List UInt8} {n : Nat} {m x y : Int} (h : OutLine T n m x) (h' : OutLine T n m y) : x = y := by
  have x1 := h.1
  have y1 := h'.1
  rw [x1] at y1
  simpa using y1
theorem list_same {α : Type} {P : Nat → α → Prop} {l l' : List α} (hs : ∀ i d d', P i d → P i d' → d = d') (h : ∀ i d, l[i]? = some d → P i d) (h' : ∀ i d, l'[i]? = some d → P i d) (hl : l.length = l'.length) : l = l' := by
  refine List.ext_getElem? fun i => ?_
  rcases Nat.lt_or_ge i l.length with hi | hi
  · have hi' : i < l'.length := by omega
    rw [List.getElem?_eq_getElem hi, List.getElem?_eq_getElem hi']
    exact congrArg some (hs i _ _ (h i _ (List.getElem?_eq_getElem hi)) (h' i _ (List.getElem?_eq_getElem hi')))
  · rw [List.getElem?_eq_none hi, List.getElem?_eq_none (by omega)]
theorem good_same {T : List UInt8} {G G' : GrD} (x : Good T G) (y : Good T G') : G = G' := by
  obtain ⟨ni, nl, no, na, x⟩ := x
  obtain ⟨ni', nl', no', na', y⟩ := y
  obtain ⟨rfl, rfl, rfl, rfl⟩ := x.hd.same y.hd
  obtain ⟨i1, l1, a1, o1⟩ := G
  obtain ⟨i2, l2, a2, o2⟩ := G'
  have e1 : i1 = i2 := x.ins.trans y.ins.symm
  have e2 : l1 = l2 := list_same (P := fun i d => LatLine T (1 + ni + i) (2 * (1 + (ni : Int) + (i : Int))) (2 * (((ni + nl + na : Nat) : Int) + 1)) d) (fun _ _ _ => LatLine.same) x.lats y.lats (x.ll.trans y.ll.symm)
  have e3 : a1 = a2 := list_same (P := fun i d => AndLine T (1 + ni + nl + no + i) (2 * (1 + (ni : Int) + (nl : Int) + (i : Int))) d) (fun _ _ _ => AndLine.same) x.ands y.ands (x.la.trans y.la.symm)
  have e4 : o1 = o2 := list_same (P := fun i d => OutLine T (1 + ni + nl + i) (2 * (((ni + nl + na : Nat) : Int) + 1)) d) (fun _ _ _ => OutLine.same) x.outs y.outs (x.lo.trans y.lo.symm)
  rw [e1, e2, e3, e4]
theorem beBad_le {T : List UInt8} {n m m' : Nat} (x : BeBad T n m) (y : BeBad T n m') : m' ≤ m := by
  rcases Nat.lt_or_ge m m' with h | h
  · exfalso
    obtain ⟨x1, x2, x3⟩ := x
    obtain ⟨y1, y2, y3⟩ := y
    rcases x3 with ⟨a, h1, h2, h3⟩ | ⟨h1, h2⟩
    · have := (y2 m a x1 h h1).2
      rw [h3] at this; cases this
    · rcases y3 with ⟨a, h3, _⟩ | ⟨h3, _⟩
      · have := (List.getElem?_eq_some_iff.1 h3).1; omega
      · omega
  · exact h
theorem be_not {T : List UInt8} {n m : Nat} (x : BeOk T n) (y : BeBad T n m) : False := by
  obtain ⟨k, x1, x2, x3⟩ := x
  obtain ⟨y1, y2, y3⟩ := y
  rcases Nat.lt_trichotomy k m with h | h | h
  · rcases x3 with h1 | ⟨h1, _⟩
    · exact (y2 k _ x1 h h1).1 rfl
    · rcases y3 with ⟨a, h3, _⟩ | ⟨h3, _⟩
      · have := (List.getElem?_eq_some_iff.1 h3).1; omega
      · omega
  · subst h
    rcases x3 with h1 | ⟨h1, h2⟩
    · rcases y3 with ⟨a, h3, h4, _⟩ | ⟨h3, _⟩
      · rw [h1] at h3; cases h3; exact h4 rfl
      · have := (List.getElem?_eq_some_iff.1 h1).1; omega
    · rcases y3 with ⟨a, h3, _⟩ | ⟨_, h4⟩
      · have := (List.getElem?_eq_some_iff.1 h3).1; omega
      · exact h4 h2
  · rcases y3 with ⟨a, h1, h2, h3⟩ | ⟨h1, h2⟩
    · have := (x2 m a y1 h h1).2
      rw [h3] at this; cases this
    · rcases x3 with h3 | ⟨h3, _⟩
      · have := (List.getElem?_eq_some_iff.1 h3).1; omega
      · omega
theorem good_not {T : List UInt8} {G : GrD} {x : Int} (g : Good T G) (b : Bad T x) : False := by
  obtain ⟨ni, nl, no, na, g⟩ := g
  rcases b with ⟨_, b⟩ | ⟨ni', nl', no', na', b, h⟩
  · exact b ⟨_, _, _, _, g.hd⟩
  · obtain ⟨rfl, rfl, rfl, rfl⟩ := g.hd.same b
    rcases h with ⟨j, h1, _, h2, _⟩ | ⟨_, m, h1, _⟩
    · exact h2 (g.body j h1)
    · exact be_not g.be h1
theorem bad_same {T : List UInt8} {x y : Int} (a : Bad T x) (b : Bad T y) : x = y := by
  rcases a with ⟨a1, a2⟩ | ⟨ni, nl, no, na, a, h⟩
  · rcases b with ⟨b1, _⟩ | ⟨_, _, _, _, b, _⟩
    · rw [a1, b1]
    · exact absurd ⟨_, _, _, _, b⟩ a2
  · rcases b with ⟨_, b2⟩ | ⟨_, _, _, _, b, k⟩
    · exact absurd ⟨_, _, _, _, a⟩ b2
    · obtain ⟨rfl, rfl, rfl, rfl⟩ := a.same b
      rcases h with ⟨j, h1, h2, h3, rfl⟩ | ⟨h1, m, h2, rfl⟩
      · rcases k with ⟨j', k1, k2, k3, rfl⟩ | ⟨k1, m, k2, rfl⟩
        · have : j = j' := by
            rcases Nat.lt_trichotomy j j' with h | h | h
            · exact absurd (k2 j h) h3
            · exact h
            · exact absurd (h2 j' h) k3
          rw [this]
        · exact absurd (k1 j h1) h3
      · rcases k with ⟨j', k1, k2, k3, rfl⟩ | ⟨k1, m', k2, rfl⟩
        · exact absurd (h1 j' k1) k3
        · have := beBad_le h2 k2
          have := beBad_le k2 h2
          have : m = m' := by omega
          rw [this]

theorem bad_in {T : List UInt8} {ni nl no na i : Nat} (hd : HeadAt T ni nl no na) (hi : i < ni) (h1 : ∀ j, j < i → InOk T (1 + j) j) (h2 : ¬ InOk T (1 + i) i) : Bad T ((1 + i + 1 : Nat) : Int) :=
  .inr ⟨ni, nl, no, na, hd, .inl ⟨i, by omega, body_of (fun j _ h => h1 j h) (fun _ _ h => absurd h (by omega)) (fun _ _ h => absurd h (by omega)) (fun _ _ h => absurd h (by omega)) (by omega), fun h => h2 ((body_in hi).1 h), rfl⟩⟩
theorem bad_lat {T : List UInt8} {ni nl no na k : Nat} (hd : HeadAt T ni nl no na) (hi : ∀ i, i < ni → InOk T (1 + i) i) (hk : k < nl) (h1 : ∀ j, j < k → ∃ d, LatLine T (1 + ni + j) (2 * (1 + (ni : Int) + (j : Int))) (2 * (((ni + nl + na : Nat) : Int) + 1)) d) (h2 : ¬ ∃ d, LatLine T (1 + ni + k) (2 * (1 + (ni : Int) + (k : Int))) (2 * (((ni + nl + na : Nat) : Int) + 1)) d) : Bad T ((1 + ni + k + 1 : Nat) : Int) :=
  .inr ⟨ni, nl, no, na, hd, .inl ⟨ni + k, by omega, body_of (fun j h _ => hi j h) (fun j _ h => h1 j (by omega)) (fun _ _ h => absurd h (by omega)) (fun _ _ h => absurd h (by omega)) (by omega), fun h => h2 ((body_lat hk).1 h), by rw [show 1 + (ni + k) + 1 = 1 + ni + k + 1 by omega]⟩⟩
theorem bad_out {T : List UInt8} {ni nl no na k : Nat} (hd : HeadAt T ni nl no na) (hi : ∀ i, i < ni → InOk T (1 + i) i) (hl : ∀ i, i < nl → ∃ d, LatLine T (1 + ni + i) (2 * (1 + (ni : Int) + (i : Int))) (2 * (((ni + nl + na : Nat) : Int) + 1)) d) (hk : k < no) (h1 : ∀ j, j < k → ∃ d, OutLine T (1 + ni + nl + j) (2 * (((ni + nl + na : Nat) : Int) + 1)) d) (h2 : ¬ ∃ d, OutLine T (1 + ni + nl + k) (2 * (((ni + nl + na : Nat) : Int) + 1)) d) : Bad T ((1 + ni + nl + k + 1 : Nat) : Int) :=
  .inr ⟨ni, nl, no, na, hd, .inl ⟨ni + nl + k, by omega, body_of (fun j h _ => hi j h) (fun j h _ => hl j h) (fun j _ h => h1 j (by omega)) (fun _ _ h => absurd h (by omega)) (by omega), fun h => h2 ((body_out hk).1 h), by rw [show 1 + (ni + nl + k) + 1 = 1 + ni + nl + k + 1 by omega]⟩⟩
theorem bad_and {T : List UInt8} {ni nl no na k : Nat} (hd : HeadAt T ni nl no na) (hi : ∀ i, i < ni → InOk T (1 + i) i) (hl : ∀ i, i < nl → ∃ d, LatLine T (1 + ni + i) (2 * (1 + (ni : Int) + (i : Int))) (2 * (((ni + nl + na : Nat) : Int) + 1)) d) (ho : ∀ i, i < no → ∃ d, OutLine T (1 + ni + nl + i) (2 * (((ni + nl + na : Nat) : Int) + 1)) d) (hk : k < na) (h1 : ∀ j, j < k → ∃ d, AndLine T (1 + ni + nl + no + j) (2 * (1 + (ni : Int) + (nl : Int) + (j : Int))) d) (h2 : ¬ ∃ d, AndLine T (1 + ni + nl + no + k) (2 * (1 + (ni : Int) + (nl : Int) + (k : Int))) d) : Bad T ((1 + ni + nl + no + k + 1 : Nat) : Int) :=
  .inr ⟨ni, nl, no, na, hd, .inl ⟨ni + nl + no + k, by omega, body_of (fun j h _ => hi j h) (fun j h _ => hl j h) (fun j h _ => ho j h) (fun j _ h => h1 j (by omega)) (by omega), fun h => h2 (body_and.1 h), by rw [show 1 + (ni + nl + no + k) + 1 = 1 + ni + nl + no + k + 1 by omega]⟩⟩
theorem bad_be {T : List UInt8} {ni nl no na m : Nat} (hd : HeadAt T ni nl no na) (hi : ∀ i, i < ni → InOk T (1 + i) i) (hl : ∀ i, i < nl → ∃ d, LatLine T (1 + ni + i) (2 * (1 + (ni : Int) + (i : Int))) (2 * (((ni + nl + na : Nat) : Int) + 1)) d) (ho : ∀ i, i < no → ∃ d, OutLine T (1 + ni + nl + i) (2 * (((ni + nl + na : Nat) : Int) + 1)) d) (ha : ∀ i, i < na → ∃ d, AndLine T (1 + ni + nl + no + i) (2 * (1 + (ni : Int) + (nl : Int) + (i : Int))) d) (h : BeBad T (1 + ni + nl + no + na) m) : Bad T ((m + 1 : Nat) : Int) :=
  .inr ⟨ni, nl, no, na, hd, .inr ⟨body_of (fun j h _ => hi j h) (fun j h _ => hl j h) (fun j h _ => ho j h) (fun j h _ => ha j h) (Nat.le_refl _), m, h, rfl⟩⟩
theorem bad_head {T : List UInt8} (h : ¬ ∃ a h, (linesOf T)[0]? = some a ∧ HeadLine a h) : Bad T 1 :=
  .inl ⟨rfl, fun ⟨_, _, _, _, a, h1, h2⟩ => h ⟨a, _, h1, h2⟩⟩

end Go.Proofs.YtdiahnommkhkiaaDoor
