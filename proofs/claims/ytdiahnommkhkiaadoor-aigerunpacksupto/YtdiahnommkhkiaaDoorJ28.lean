import Derived.Test.YtdiahnommkhkiaaDoorJ25
import Derived.Test.YtdiahnommkhkiaaDoorJ26
import Derived.Test.YtdiahnommkhkiaaDoorJ27
import Derived.Test.YtdiahnommkhkiaaDoorJ19
namespace Go.Proofs.YtdiahnommkhkiaaDoor
open Go.RowKit

/-- the places of lines, one behind the other -/
def itB (T : List UInt8) (k : Nat) : Nat → Nat
  | 0 => k
  | i + 1 => nextB T (itB T k i)
def itA (T : List UInt8) (k : Nat) : Nat → Nat
  | 0 => k
  | i + 1 => nextA T (itA T k i)
def offL (T : List UInt8) (i : Nat) : Nat := itB T (nextB T 0) i
def offA (T : List UInt8) (n i : Nat) : Nat := itA T (offL T n) i
theorem offL_next (T : List UInt8) (i : Nat) : offL T (i + 1) = nextB T (offL T i) := rfl
theorem offA_next (T : List UInt8) (n i : Nat) : offA T n (i + 1) = nextA T (offA T n i) := rfl
def HeadAtB (T : List UInt8) (ni nl no na : Nat) : Prop := ∃ a, lineAt T 0 = some a ∧ HeadLB a (hInts ni nl no na)
theorem headB_ints {a : List UInt8} {h : Int × Int × Int × Int × Int} (x : HeadLB a h) : ∃ ni nl no na, h = hInts ni nl no na := by
  obtain ⟨p0, p1, p2, p3, p4⟩ := h
  obtain ⟨_, x2, x3, x4⟩ := x
  have hb := val_bound x2
  rw [x3] at hb
  simp only at hb
  have b1 := hb p1 (by simp)
  have b2 := hb p2 (by simp)
  have b3 := hb p3 (by simp)
  have b4 := hb p4 (by simp)
  have h0 := x4.1
  simp only at h0
  refine ⟨p1.toNat, p2.toNat, p3.toNat, p4.toNat, ?_⟩
  unfold hInts
  rw [h0, Int.toNat_of_nonneg b1.1, Int.toNat_of_nonneg b2.1, Int.toNat_of_nonneg b3.1, Int.toNat_of_nonneg b4.1]
  rw [show ((p1.toNat + p2.toNat + p4.toNat : Nat) : Int) = p1 + p2 + p4 by omega]
theorem HeadAtB.bound {T : List UInt8} {ni nl no na : Nat} (x : HeadAtB T ni nl no na) : ni + nl + na < 60000 ∧ nl ≤ 6000 ∧ no ≤ 60000 := by
  obtain ⟨a, _, _, _, _, x4⟩ := x
  unfold rightH hInts at x4
  simp only at x4
  omega
theorem HeadAtB.same {T : List UInt8} {ni nl no na ni' nl' no' na' : Nat} (x : HeadAtB T ni nl no na) (y : HeadAtB T ni' nl' no' na') : ni = ni' ∧ nl = nl' ∧ no = no' ∧ na = na' := by
  obtain ⟨a, x1, _, _, x3, _⟩ := x
  obtain ⟨b, y1, _, _, y3, _⟩ := y
  rw [x1] at y1
  cases y1
  rw [x3] at y3
  unfold hInts at y3
  simp only [List.cons.injEq] at y3
  omega
/-- a piece behind the head: a line, a gate's bytes, what is behind -/
def BodyB (T : List UInt8) (ni nl no na i : Nat) : Prop :=
  if i < nl then ∃ d, LatB T (offL T i) (2 * (((ni + nl + na : Nat) : Int) + 1)) d
  else if i < nl + no then ∃ y, OutB T (offL T i) (2 * (((ni + nl + na : Nat) : Int) + 1)) y
  else if i < nl + no + na then ∃ d, AndB T (offA T (nl + no) (i - (nl + no))) (2 * (1 + (ni : Int) + (nl : Int) + ((i - (nl + no) : Nat) : Int))) d
  else BeOk (T.drop (offA T (nl + no) na)) 0
def placeB (T : List UInt8) (ni nl no na i : Nat) : Nat :=
  if i < nl + no then offL T i
  else if i < nl + no + na then placeA T (offA T (nl + no) (i - (nl + no))) (2 * (1 + (ni : Int) + (nl : Int) + ((i - (nl + no) : Nat) : Int)))
  else offA T (nl + no) na
theorem bodyB_lat {T : List UInt8} {ni nl no na i : Nat} (h : i < nl) : BodyB T ni nl no na i ↔ ∃ d, LatB T (offL T i) (2 * (((ni + nl + na : Nat) : Int) + 1)) d := by
  unfold BodyB
  rw [if_pos h]
theorem bodyB_out {T : List UInt8} {ni nl no na i : Nat} (h : i < no) : BodyB T ni nl no na (nl + i) ↔ ∃ y, OutB T (offL T (nl + i)) (2 * (((ni + nl + na : Nat) : Int) + 1)) y := by
  unfold BodyB
  rw [if_neg (by omega), if_pos (by omega)]
theorem bodyB_and {T : List UInt8} {ni nl no na i : Nat} (h : i < na) : BodyB T ni nl no na (nl + no + i) ↔ ∃ d, AndB T (offA T (nl + no) i) (2 * (1 + (ni : Int) + (nl : Int) + (i : Int))) d := by
  unfold BodyB
  rw [if_neg (by omega), if_neg (by omega), if_pos (by omega), show nl + no + i - (nl + no) = i by omega]
theorem bodyB_be {T : List UInt8} {ni nl no na : Nat} : BodyB T ni nl no na (nl + no + na) ↔ BeOk (T.drop (offA T (nl + no) na)) 0 := by
  unfold BodyB
  rw [if_neg (by omega), if_neg (by omega), if_neg (by omega)]
theorem placeB_lat {T : List UInt8} {ni nl no na i : Nat} (h : i < nl) : placeB T ni nl no na i = offL T i := by unfold placeB; rw [if_pos (by omega)]
theorem placeB_out {T : List UInt8} {ni nl no na i : Nat} (h : i < no) : placeB T ni nl no na (nl + i) = offL T (nl + i) := by unfold placeB; rw [if_pos (by omega)]
theorem placeB_and {T : List UInt8} {ni nl no na i : Nat} (h : i < na) : placeB T ni nl no na (nl + no + i) = placeA T (offA T (nl + no) i) (2 * (1 + (ni : Int) + (nl : Int) + (i : Int))) := by
  unfold placeB
  rw [if_neg (by omega), if_pos (by omega), show nl + no + i - (nl + no) = i by omega]
theorem placeB_be {T : List UInt8} {ni nl no na : Nat} : placeB T ni nl no na (nl + no + na) = offA T (nl + no) na := by unfold placeB; rw [if_neg (by omega), if_neg (by omega)]
/-- what bytes tell -/
structure GoodBN (T : List UInt8) (G : GrD) (ni nl no na : Nat) : Prop where
  hd : HeadAtB T ni nl no na
  ins : G.ins = (ni : Int)
  ll : G.lats.length = nl
  lats : ∀ i d, G.lats[i]? = some d → LatB T (offL T i) (2 * (((ni + nl + na : Nat) : Int) + 1)) d
  lo : G.outs.length = no
  outs : ∀ i d, G.outs[i]? = some d → OutB T (offL T (nl + i)) (2 * (((ni + nl + na : Nat) : Int) + 1)) d
  la : G.ands.length = na
  ands : ∀ i d, G.ands[i]? = some d → AndB T (offA T (nl + no) i) (2 * (1 + (ni : Int) + (nl : Int) + (i : Int))) d
  be : BeOk (T.drop (offA T (nl + no) na)) 0
def GoodB (T : List UInt8) (G : GrD) : Prop := ∃ ni nl no na, GoodBN T G ni nl no na
/-- .. or where they are wrong -/
def BadB (T : List UInt8) (x : Int) : Prop := (x = 0 ∧ ¬ ∃ ni nl no na, HeadAtB T ni nl no na) ∨ ∃ ni nl no na, HeadAtB T ni nl no na ∧
  ∃ j, j ≤ nl + no + na ∧ (∀ i, i < j → BodyB T ni nl no na i) ∧ ¬ BodyB T ni nl no na j ∧ x = (placeB T ni nl no na j : Nat)
theorem bodyB_of {T : List UInt8} {ni nl no na j : Nat} (h2 : ∀ i, i < nl → i < j → ∃ d, LatB T (offL T i) (2 * (((ni + nl + na : Nat) : Int) + 1)) d) (h3 : ∀ i, i < no → nl + i < j → ∃ y, OutB T (offL T (nl + i)) (2 * (((ni + nl + na : Nat) : Int) + 1)) y) (h4 : ∀ i, i < na → nl + no + i < j → ∃ d, AndB T (offA T (nl + no) i) (2 * (1 + (ni : Int) + (nl : Int) + (i : Int))) d) (hj : j ≤ nl + no + na) : ∀ i, i < j → BodyB T ni nl no na i := by
  intro i hi
  by_cases k2 : i < nl
  · exact (bodyB_lat k2).2 (h2 i k2 hi)
  by_cases k3 : i < nl + no
  · have := (bodyB_out (T := T) (ni := ni) (nl := nl) (no := no) (na := na) (i := i - nl) (by omega)).2 (h3 (i - nl) (by omega) (by omega))
    rw [show nl + (i - nl) = i by omega] at this
    exact this
  · have := (bodyB_and (T := T) (ni := ni) (nl := nl) (no := no) (na := na) (i := i - nl - no) (by omega)).2 (h4 (i - nl - no) (by omega) (by omega))
    rw [show nl + no + (i - nl - no) = i by omega] at this
    exact this
theorem GoodBN.body {T : List UInt8} {G : GrD} {ni nl no na : Nat} (h : GoodBN T G ni nl no na) : ∀ i, i ≤ nl + no + na → BodyB T ni nl no na i := fun i hi => by
  rcases Nat.lt_or_ge i (nl + no + na) with h' | h'
  · exact bodyB_of (fun _ h1 _ => ex_el h.ll h.lats h1) (fun _ h1 _ => ex_el (P := fun i d => OutB T (offL T (nl + i)) (2 * (((ni + nl + na : Nat) : Int) + 1)) d) h.lo h.outs h1) (fun _ h1 _ => ex_el h.la h.ands h1) (Nat.le_refl _) i h'
  · rw [show i = nl + no + na by omega]
    exact bodyB_be.2 h.be
theorem LatB.same {T : List UInt8} {n : Nat} {m : Int} {d d' : LatD} (x : LatB T n m d) (y : LatB T n m d') : d = d' := by
  obtain ⟨dn, di⟩ := d
  obtain ⟨en, ei⟩ := d'
  obtain ⟨_, x⟩ := x
  obtain ⟨_, y⟩ := y
  simp only at x y
  rcases x with ⟨x1, x2⟩ | ⟨f, x1, _, x2⟩ <;> rcases y with ⟨y1, y2⟩ | ⟨g, y1, _, y2⟩ <;> rw [x1] at y1 <;> simp at y1
  · rw [y1, x2, y2]
  · rw [x2, y2, y1.1, y1.2]
theorem AndB.same {T : List UInt8} {n : Nat} {own : Int} {d d' : AndD} (x : AndB T n own d) (y : AndB T n own d') : d = d' := by
  obtain ⟨x1, q1, y1, q1', a1, _, _, a2, _, rfl⟩ := x
  obtain ⟨x2, q2, y2, q2', b1, _, _, b2, _, rfl⟩ := y
  rw [a1] at b1
  cases b1
  rw [a2] at b2
  cases b2
  rfl
theorem OutB.same {T : List UInt8} {n : Nat} {m x y : Int} (h : OutB T n m x) (h' : OutB T n m y) : x = y := by
  have x1 := h.1
  have y1 := h'.1
  rw [x1] at y1
  simpa using y1
theorem goodB_same {T : List UInt8} {G G' : GrD} (x : GoodB T G) (y : GoodB T G') : G = G' := by
  obtain ⟨ni, nl, no, na, x⟩ := x
  obtain ⟨ni', nl', no', na', y⟩ := y
  obtain ⟨rfl, rfl, rfl, rfl⟩ := x.hd.same y.hd
  obtain ⟨i1, l1, a1, o1⟩ := G
  obtain ⟨i2, l2, a2, o2⟩ := G'
  have e1 : i1 = i2 := x.ins.trans y.ins.symm
  have e2 : l1 = l2 := list_same (P := fun i d => LatB T (offL T i) (2 * (((ni + nl + na : Nat) : Int) + 1)) d) (fun _ _ _ => LatB.same) x.lats y.lats (x.ll.trans y.ll.symm)
  have e3 : a1 = a2 := list_same (P := fun i d => AndB T (offA T (nl + no) i) (2 * (1 + (ni : Int) + (nl : Int) + (i : Int))) d) (fun _ _ _ => AndB.same) x.ands y.ands (x.la.trans y.la.symm)
  have e4 : o1 = o2 := list_same (P := fun i d => OutB T (offL T (nl + i)) (2 * (((ni + nl + na : Nat) : Int) + 1)) d) (fun _ _ _ => OutB.same) x.outs y.outs (x.lo.trans y.lo.symm)
  rw [e1, e2, e3, e4]
theorem goodB_not {T : List UInt8} {G : GrD} {x : Int} (g : GoodB T G) (b : BadB T x) : False := by
  obtain ⟨ni, nl, no, na, g⟩ := g
  rcases b with ⟨_, b⟩ | ⟨ni', nl', no', na', b, j, h1, _, h2, _⟩
  · exact b ⟨_, _, _, _, g.hd⟩
  · obtain ⟨rfl, rfl, rfl, rfl⟩ := g.hd.same b
    exact h2 (g.body j h1)
theorem badB_same {T : List UInt8} {x y : Int} (a : BadB T x) (b : BadB T y) : x = y := by
  rcases a with ⟨a1, a2⟩ | ⟨ni, nl, no, na, a, j, h1, h2, h3, rfl⟩
  · rcases b with ⟨b1, _⟩ | ⟨_, _, _, _, b, _⟩
    · rw [a1, b1]
    · exact absurd ⟨_, _, _, _, b⟩ a2
  · rcases b with ⟨_, b2⟩ | ⟨_, _, _, _, b, j', k1, k2, k3, rfl⟩
    · exact absurd ⟨_, _, _, _, a⟩ b2
    · obtain ⟨rfl, rfl, rfl, rfl⟩ := a.same b
      have : j = j' := by
        rcases Nat.lt_trichotomy j j' with h | h | h
        · exact absurd (k2 j h) h3
        · exact h
        · exact absurd (h2 j' h) k3
      rw [this]
theorem badB_head {T : List UInt8} (h : ¬ ∃ a h, lineAt T 0 = some a ∧ HeadLB a h) : BadB T 0 :=
  .inl ⟨rfl, fun ⟨_, _, _, _, a, h1, h2⟩ => h ⟨a, _, h1, h2⟩⟩
theorem badB_lat {T : List UInt8} {ni nl no na k : Nat} (hd : HeadAtB T ni nl no na) (hk : k < nl) (h1 : ∀ j, j < k → ∃ d, LatB T (offL T j) (2 * (((ni + nl + na : Nat) : Int) + 1)) d) (h2 : ¬ ∃ d, LatB T (offL T k) (2 * (((ni + nl + na : Nat) : Int) + 1)) d) : BadB T ((offL T k : Nat) : Int) :=
  .inr ⟨ni, nl, no, na, hd, k, by omega, bodyB_of (fun j _ h => h1 j h) (fun _ _ h => absurd h (by omega)) (fun _ _ h => absurd h (by omega)) (by omega), fun h => h2 ((bodyB_lat hk).1 h), by rw [placeB_lat hk]⟩
theorem badB_out {T : List UInt8} {ni nl no na k : Nat} (hd : HeadAtB T ni nl no na) (hl : ∀ i, i < nl → ∃ d, LatB T (offL T i) (2 * (((ni + nl + na : Nat) : Int) + 1)) d) (hk : k < no) (h1 : ∀ j, j < k → ∃ d, OutB T (offL T (nl + j)) (2 * (((ni + nl + na : Nat) : Int) + 1)) d) (h2 : ¬ ∃ d, OutB T (offL T (nl + k)) (2 * (((ni + nl + na : Nat) : Int) + 1)) d) : BadB T ((offL T (nl + k) : Nat) : Int) :=
  .inr ⟨ni, nl, no, na, hd, nl + k, by omega, bodyB_of (fun j h _ => hl j h) (fun j _ h => h1 j (by omega)) (fun _ _ h => absurd h (by omega)) (by omega), fun h => h2 ((bodyB_out hk).1 h), by rw [placeB_out hk]⟩
theorem badB_and {T : List UInt8} {ni nl no na k : Nat} (hd : HeadAtB T ni nl no na) (hl : ∀ i, i < nl → ∃ d, LatB T (offL T i) (2 * (((ni + nl + na : Nat) : Int) + 1)) d) (ho : ∀ i, i < no → ∃ d, OutB T (offL T (nl + i)) (2 * (((ni + nl + na : Nat) : Int) + 1)) d) (hk : k < na) (h1 : ∀ j, j < k → ∃ d, AndB T (offA T (nl + no) j) (2 * (1 + (ni : Int) + (nl : Int) + (j : Int))) d) (h2 : ¬ ∃ d, AndB T (offA T (nl + no) k) (2 * (1 + (ni : Int) + (nl : Int) + (k : Int))) d) : BadB T ((placeA T (offA T (nl + no) k) (2 * (1 + (ni : Int) + (nl : Int) + (k : Int))) : Nat) : Int) :=
  .inr ⟨ni, nl, no, na, hd, nl + no + k, by omega, bodyB_of (fun j h _ => hl j h) (fun j h _ => ho j h) (fun j _ h => h1 j (by omega)) (by omega), fun h => h2 ((bodyB_and hk).1 h), by rw [placeB_and hk]⟩
theorem badB_be {T : List UInt8} {ni nl no na : Nat} (hd : HeadAtB T ni nl no na) (hl : ∀ i, i < nl → ∃ d, LatB T (offL T i) (2 * (((ni + nl + na : Nat) : Int) + 1)) d) (ho : ∀ i, i < no → ∃ d, OutB T (offL T (nl + i)) (2 * (((ni + nl + na : Nat) : Int) + 1)) d) (ha : ∀ i, i < na → ∃ d, AndB T (offA T (nl + no) i) (2 * (1 + (ni : Int) + (nl : Int) + (i : Int))) d) (h : ¬ BeOk (T.drop (offA T (nl + no) na)) 0) : BadB T ((offA T (nl + no) na : Nat) : Int) :=
  .inr ⟨ni, nl, no, na, hd, nl + no + na, by omega, bodyB_of (fun j h _ => hl j h) (fun j h _ => ho j h) (fun j h _ => ha j h) (Nat.le_refl _), fun h' => h (bodyB_be.1 h'), by rw [placeB_be]⟩


end Go.Proofs.YtdiahnommkhkiaaDoor
