import Derived.Test.YtlaljeobdddegaaAgM
import Derived.Test.YtlaljeobdddegaaAgFi
namespace Go.Proofs.Ytlaljeobdddegaa
open Go.RowKit

/-! What Hash makes (pure) -/
/-- the literal that is worth the other -/
def flipI (x : Int) : Int := if x % 2 = 0 then x + 1 else x - 1
/-- a literal by the new literals of the variables -/
def renL (lits : List Int) (l : Int) : Int := if l % 2 = 1 then flipI (lits.getD (l / 2).toNat 0) else lits.getD (l / 2).toNat 0
/-- the place of a gate -/
def findG : List AndD → Int → Int → Option Nat
  | [], _, _ => none
  | d :: r, p, q => if d.x = p ∧ d.y = q then some 0 else (findG r p q).map (· + 1)
def andH (first : Nat) (hs : List AndD) (a b : Int) : List AndD × Int :=
  if min a b = 0 ∨ max a b = flipI (min a b) then (hs, 0)
  else if min a b = 1 ∨ max a b = min a b then (hs, max a b)
  else match findG hs (max a b) (min a b) with
    | some i => (hs, 2 * ((first : Int) + (i : Int)))
    | none => (hs ++ [⟨max a b, min a b⟩], 2 * ((first : Int) + (hs.length : Int)))
def stepH (first : Nat) (s : List AndD × List Int) (d : AndD) : List AndD × List Int :=
  ((andH first s.1 (renL s.2 d.x) (renL s.2 d.y)).1, s.2 ++ [(andH first s.1 (renL s.2 d.x) (renL s.2 d.y)).2])
def startH (first : Nat) : List AndD × List Int := ([], (List.range first).map fun v : Nat => 2 * (v : Int))
def hashK (first : Nat) (ands : List AndD) : List AndD × List Int := ands.foldl (stepH first) (startH first)
def hashG (G : GrD) : GrD :=
  let s := hashK (firstN G) G.ands
  ⟨G.ins, G.lats.map fun l => ⟨renL s.2 l.next, l.init⟩, s.1, G.outs.map (renL s.2)⟩
theorem hashK_next (first : Nat) (ands : List AndD) (d : AndD) : hashK first (ands ++ [d]) = stepH first (hashK first ands) d := by unfold hashK; rw [List.foldl_append]; rfl

theorem flipI_facts (x : Int) (h : 0 ≤ x) : 0 ≤ flipI x ∧ flipI x / 2 = x / 2 ∧ (flipI x % 2 = 1 ↔ ¬ x % 2 = 1) ∧ flipI x ≤ x + 1 := by
  unfold flipI
  split <;> omega
theorem litV_flip (v : List Bool) (x : Int) (h : 0 ≤ x) : litV v (flipI x) = !litV v x := by
  obtain ⟨_, h2, h3, _⟩ := flipI_facts x h
  unfold litV
  rw [h2]
  generalize (v[(x / 2).toNat]?.getD false) = b
  by_cases hx : x % 2 = 1
  · have : ¬ flipI x % 2 = 1 := fun e => (h3.1 e) hx
    simp [hx, this]
  · have : flipI x % 2 = 1 := h3.2 hx
    simp [hx, this]
theorem litV_app (v w : List Bool) (x : Int) (h0 : 0 ≤ x) (h : x < 2 * (v.length : Int)) : litV (v ++ w) x = litV v x := by
  unfold litV
  rw [List.getElem?_append_left (by omega)]
theorem ands_app (v : List Bool) (l m : List AndD) : ∃ r, andsN v (l ++ m) = andsN v l ++ r := by
  induction m generalizing l with
  | nil => exact ⟨[], by simp⟩
  | cons d m ih =>
    obtain ⟨r, hr⟩ := ih (l ++ [d])
    refine ⟨[litV (andsN v l) d.x && litV (andsN v l) d.y] ++ r, ?_⟩
    rw [show l ++ d :: m = (l ++ [d]) ++ m by simp, hr, ands_snoc, List.append_assoc]
/-- the new gates are such as they shall be -/
structure HsOk (first : Nat) (hs : List AndD) : Prop where
  low : ∀ (i : Nat) (d : AndD), hs[i]? = some d → 2 ≤ d.y ∧ d.y < d.x ∧ ¬ d.x / 2 = d.y / 2 ∧ d.x < 2 * ((first : Int) + (i : Int))
  one : ∀ (i j : Nat) (d e : AndD), hs[i]? = some d → hs[j]? = some e → d.x = e.x → d.y = e.y → i = j
theorem findG_some {hs : List AndD} {p q : Int} {i : Nat} (h : findG hs p q = some i) : ∃ d, hs[i]? = some d ∧ d.x = p ∧ d.y = q := by
  induction hs generalizing i with
  | nil => cases h
  | cons d r ih =>
    unfold findG at h
    split at h
    · next hd =>
      have : i = 0 := by simpa using h.symm
      subst this
      exact ⟨d, rfl, hd.1, hd.2⟩
    · cases hr : findG r p q with
      | none => rw [hr] at h; cases h
      | some j =>
        rw [hr] at h
        have : i = j + 1 := by simpa using h.symm
        subst this
        obtain ⟨e, he⟩ := ih hr
        exact ⟨e, by simpa using he⟩
theorem findG_none {hs : List AndD} {p q : Int} (h : findG hs p q = none) : ∀ (i : Nat) (d : AndD), hs[i]? = some d → ¬ (d.x = p ∧ d.y = q) := by
  induction hs with
  | nil => intro i d hd; simp at hd
  | cons e r ih =>
    unfold findG at h
    split at h
    · cases h
    · next hne =>
      have hr : findG r p q = none := by simpa using h
      intro i d hd
      cases i with
      | zero =>
        have : e = d := by simpa using hd
        rw [← this]; exact hne
      | succ i => exact ih hr i d (by simpa using hd)
/-- what a gate that was made is worth -/
theorem made_val {first : Nat} {hs : List AndD} (h : HsOk first hs) {v0 : List Bool} (hv : v0.length = first) {i : Nat} {d : AndD} (hd : hs[i]? = some d) : litV (andsN v0 hs) (2 * ((first : Int) + (i : Int))) = (litV (andsN v0 hs) d.x && litV (andsN v0 hs) d.y) := by
  have hi := (List.getElem?_eq_some_iff.1 hd).1
  have hl := h.low i d hd
  have e1 : hs = hs.take i ++ [d] ++ hs.drop (i + 1) := by
    rw [← take_next hs i d hd, List.take_append_drop]
  obtain ⟨r, hr⟩ := ands_app v0 (hs.take i ++ [d]) (hs.drop (i + 1))
  rw [← e1, ands_snoc] at hr
  have hlen : (andsN v0 (hs.take i)).length = first + i := by rw [ands_length, List.length_take, hv]; omega
  generalize andsN v0 (hs.take i) = V at *
  rw [hr]
  have e2 : ∀ x : Int, 0 ≤ x → x < 2 * ((first : Int) + (i : Int)) → litV (V ++ [litV V d.x && litV V d.y] ++ r) x = litV V x := fun x h0 h1 => by
    rw [List.append_assoc]; exact litV_app _ _ x h0 (by rw [hlen]; omega)
  rw [e2 d.x (by omega) (by omega), e2 d.y (by omega) (by omega)]
  unfold litV
  have e3 : (2 * ((first : Int) + (i : Int)) / 2).toNat = V.length := by omega
  rw [e3, List.append_assoc, List.getElem?_append_right (Nat.le_refl _)]
  simp
/-- and: what it gives is worth both -/
theorem andH_ok {first : Nat} {hs : List AndD} (hf : 1 ≤ first) (h : HsOk first hs) {a b : Int} (ha : 0 ≤ a ∧ a < 2 * ((first : Int) + (hs.length : Int))) (hb : 0 ≤ b ∧ b < 2 * ((first : Int) + (hs.length : Int))) :
    (∃ r, (andH first hs a b).1 = hs ++ r ∧ r.length ≤ 1) ∧ HsOk first (andH first hs a b).1 ∧ (0 ≤ (andH first hs a b).2 ∧ (andH first hs a b).2 < 2 * ((first : Int) + ((andH first hs a b).1.length : Int))) ∧
    ∀ v0 : List Bool, v0.length = first → v0[0]? = some false → litV (andsN v0 (andH first hs a b).1) (andH first hs a b).2 = (litV (andsN v0 hs) a && litV (andsN v0 hs) b) := by
  have comm : ∀ (V : List Bool), (litV V a && litV V b) = (litV V (max a b) && litV V (min a b)) := fun V => by
    by_cases hab : a ≤ b
    · rw [show max a b = b by omega, show min a b = a by omega, Bool.and_comm]
    · rw [show max a b = a by omega, show min a b = b by omega]
  have hmx : 0 ≤ max a b ∧ max a b < 2 * ((first : Int) + (hs.length : Int)) := by omega
  have hmn : 0 ≤ min a b ∧ min a b ≤ max a b := by omega
  simp only [comm]
  unfold andH
  generalize max a b = mx at *
  generalize min a b = mn at *
  have zero : ∀ v0 : List Bool, v0.length = first → v0[0]? = some false → litV (andsN v0 hs) 0 = false := fun v0 _ h0 => by
    obtain ⟨r, hr⟩ := ands_app v0 [] hs
    rw [List.nil_append] at hr
    rw [hr]
    have : andsN v0 [] = v0 := rfl
    rw [this]
    unfold litV
    rw [show ((0 : Int) / 2).toNat = 0 by omega, List.getElem?_append_left (by have := (List.getElem?_eq_some_iff.1 h0).1; omega), h0]
    simp
  split
  · next hc =>
    refine ⟨⟨[], by simp, by simp⟩, h, by omega, fun v0 hv h0 => ?_⟩
    rw [zero v0 hv h0]
    rcases hc with hc | hc
    · rw [hc, zero v0 hv h0]; simp
    · rw [hc, litV_flip _ _ hmn.1]; simp
  · next hc =>
    split
    · next hd =>
      refine ⟨⟨[], by simp, by simp⟩, h, hmx, fun v0 hv h0 => ?_⟩
      rcases hd with hd | hd
      · have one : litV (andsN v0 hs) 1 = true := by
          have := litV_flip (andsN v0 hs) 0 (by omega)
          rw [zero v0 hv h0] at this
          exact this
        rw [hd, one]; simp
      · rw [hd]; simp
    · next hd =>
      split
      · next i hi =>
        obtain ⟨d, hdd, hx, hy⟩ := findG_some hi
        have hil := (List.getElem?_eq_some_iff.1 hdd).1
        refine ⟨⟨[], by simp, by simp⟩, h, by simp only; omega, fun v0 hv h0 => ?_⟩
        rw [made_val h hv hdd, hx, hy]
      · next hn =>
        have hno := findG_none hn
        have hbig : 2 ≤ mn := by omega
        have hlt : mn < mx := by omega
        have hdv : ¬ mx / 2 = mn / 2 := by
          intro e
          apply hc
          right
          unfold flipI
          split <;> omega
        have hok : HsOk first (hs ++ [⟨mx, mn⟩]) := by
          refine ⟨fun i d hd => ?_, fun i j d e hd he h1 h2 => ?_⟩
          · rcases Nat.lt_or_ge i hs.length with hi | hi
            · rw [List.getElem?_append_left hi] at hd; exact h.low i d hd
            · rw [List.getElem?_append_right hi] at hd
              have hi2 : i - hs.length = 0 := by have := (List.getElem?_eq_some_iff.1 hd).1; simp at this; omega
              rw [hi2] at hd
              have : (⟨mx, mn⟩ : AndD) = d := by simpa using hd
              subst this
              simp only
              omega
          · rcases Nat.lt_or_ge i hs.length with hi | hi <;> rcases Nat.lt_or_ge j hs.length with hj | hj
            · rw [List.getElem?_append_left hi] at hd
              rw [List.getElem?_append_left hj] at he
              exact h.one i j d e hd he h1 h2
            · rw [List.getElem?_append_left hi] at hd
              rw [List.getElem?_append_right hj] at he
              have hj2 : j - hs.length = 0 := by have := (List.getElem?_eq_some_iff.1 he).1; simp at this; omega
              rw [hj2] at he
              have : (⟨mx, mn⟩ : AndD) = e := by simpa using he
              subst this
              exact absurd ⟨h1, h2⟩ (hno i d hd)
            · rw [List.getElem?_append_right hi] at hd
              rw [List.getElem?_append_left hj] at he
              have hi2 : i - hs.length = 0 := by have := (List.getElem?_eq_some_iff.1 hd).1; simp at this; omega
              rw [hi2] at hd
              have : (⟨mx, mn⟩ : AndD) = d := by simpa using hd
              subst this
              exact absurd ⟨h1.symm, h2.symm⟩ (hno j e he)
            · have h3 := (List.getElem?_eq_some_iff.1 hd).1
              have h4 := (List.getElem?_eq_some_iff.1 he).1
              simp at h3 h4
              omega
        refine ⟨⟨[⟨mx, mn⟩], rfl, by simp⟩, hok, by simp only [List.length_append, List.length_cons, List.length_nil]; omega, fun v0 hv h0 => ?_⟩
        have hge : (hs ++ [(⟨mx, mn⟩ : AndD)])[hs.length]? = some ⟨mx, mn⟩ := by simp
        rw [made_val hok hv hge]
        have hlen : (andsN v0 hs).length = first + hs.length := by rw [ands_length, hv]
        obtain ⟨r, hr⟩ := ands_app v0 hs [(⟨mx, mn⟩ : AndD)]
        rw [hr]
        simp only
        rw [litV_app _ _ mx hmx.1 (by rw [hlen]; omega), litV_app _ _ mn hmn.1 (by rw [hlen]; omega)]

end Go.Proofs.Ytlaljeobdddegaa
