import Derived.Test.YtlaljeobdddegaaRows
namespace Go.Proofs.Ytlaljeobdddegaa
namespace Mp
/-! tables of bits (pure) -/
/-- the number whose first n bits are told by f -/
def mkB : Nat → (Nat → Bool) → Nat
  | 0, _ => 0
  | n + 1, f => mkB n f + if f n then 2 ^ n else 0
theorem mkB_lt (n : Nat) (f : Nat → Bool) : mkB n f < 2 ^ n := by
  induction n with
  | zero => show 0 < 1; omega
  | succ n ih =>
    unfold mkB
    rw [Nat.pow_succ]
    split <;> omega
theorem mkB_bit (n : Nat) (f : Nat → Bool) (k : Nat) : (mkB n f).testBit k = (decide (k < n) && f k) := by
  induction n with
  | zero => simp [mkB]
  | succ n ih =>
    have hlt := mkB_lt n f
    unfold mkB
    by_cases hf : f n = true
    · rw [if_pos hf, Nat.add_comm]
      by_cases hk : k < n
      · rw [Nat.testBit_two_pow_add_gt hk, ih]
        simp [hk, Nat.lt_succ_of_lt hk]
      · by_cases e : k = n
        · subst e
          rw [Nat.testBit_two_pow_add_eq, ih]
          simp [hf]
        · have h1 : 2 ^ n + mkB n f < 2 ^ k := by
            have : 2 ^ (n + 1) ≤ 2 ^ k := Nat.pow_le_pow_right (by omega) (by omega)
            rw [Nat.pow_succ] at this
            omega
          rw [Nat.testBit_lt_two_pow h1]
          simp; intro h; omega
    · simp only [Bool.not_eq_true] at hf
      rw [hf]
      simp only [Bool.false_eq_true, if_false, Nat.add_zero]
      rw [ih]
      by_cases hk : k < n
      · simp [hk, Nat.lt_succ_of_lt hk]
      · by_cases e : k = n
        · subst e; simp [hf]
        · have : ¬ k < n + 1 := by omega
          simp [hk, this]
/-- what leaves spell -/
def spl (l : List Bool) : Nat := mkB l.length (fun i => l.getD i false)
theorem spl_lt (l : List Bool) : spl l < 2 ^ l.length := mkB_lt _ _
theorem spl_bit (l : List Bool) (i : Nat) : (spl l).testBit i = l.getD i false := by
  unfold spl
  rw [mkB_bit]
  by_cases h : i < l.length
  · simp [h]
  · simp [h, List.getD_eq_getElem?_getD]
theorem nat_eq {a b : Nat} (h : ∀ i, a.testBit i = b.testBit i) : a = b := Nat.eq_of_testBit_eq h
/-- what is spelled at some places of a number -/
def spAt (ps : List Nat) (k : Nat) : Nat := spl (ps.map fun p => k.testBit p)
theorem spAt_bit (ps : List Nat) (k i : Nat) : (spAt ps k).testBit i = ((ps[i]?.map fun p => k.testBit p).getD false) := by
  unfold spAt
  rw [spl_bit, List.getD_eq_getElem?_getD, List.getElem?_map]
/-- a table among more leaves -/
def sprT (ps : List Nat) (tb : Nat) (inv : Bool) : Nat := mkB 16 fun k => tb.testBit (spAt ps k) != inv
theorem sprT_val {l all : List Nat} {val : Nat → Bool} {ps : List Nat} (h4 : all.length ≤ 4) (hp : ps.map (fun p => all[p]?) = l.map some) (tb : Nat) (inv : Bool) : (sprT ps tb inv).testBit (spl (all.map val)) = (tb.testBit (spl (l.map val)) != inv) := by
  have hlt : spl (all.map val) < 16 := by
    have h1 := spl_lt (all.map val)
    rw [List.length_map] at h1
    have : 2 ^ all.length ≤ 2 ^ 4 := Nat.pow_le_pow_right (by omega) h4
    omega
  have e : spAt ps (spl (all.map val)) = spl (l.map val) := by
    refine nat_eq (fun i => ?_)
    rw [spAt_bit, spl_bit, List.getD_eq_getElem?_getD, List.getElem?_map]
    have hi := congrArg (fun z => z[i]?) hp
    simp only [List.getElem?_map] at hi
    cases hps : ps[i]? with
    | none =>
      rw [hps] at hi
      cases hl : l[i]? with
      | none => rfl
      | some x => rw [hl] at hi; cases hi
    | some p =>
      rw [hps] at hi
      cases hl : l[i]? with
      | none => rw [hl] at hi; cases hi
      | some x =>
        rw [hl] at hi
        simp only [Option.map_some, Option.some.injEq] at hi
        simp only [Option.map_some, Option.getD_some]
        rw [spl_bit, List.getD_eq_getElem?_getD, List.getElem?_map, hi]
        rfl
  unfold sprT
  rw [mkB_bit, e]
  simp [hlt]
/-- a table doesn't hang on a place -/
def Idle (tb i : Nat) : Prop := ∀ k, k < 16 → tb.testBit k = tb.testBit (k ^^^ 2 ^ i)
/-- one input of a table inverted -/
def trnT (bits p n : Nat) : Nat := mkB (2 ^ n) fun k => bits.testBit (k ^^^ 2 ^ p)
theorem trnT_val {l : List Bool} {p : Nat} (hp : p < l.length) (bits : Nat) : (trnT bits p l.length).testBit (spl l) = bits.testBit (spl (l.set p (!l.getD p false))) := by
  unfold trnT
  rw [mkB_bit]
  have e : spl l ^^^ 2 ^ p = spl (l.set p (!l.getD p false)) := by
    refine nat_eq (fun i => ?_)
    rw [Nat.testBit_xor, spl_bit, spl_bit, Nat.testBit_two_pow]
    simp only [List.getD_eq_getElem?_getD]
    by_cases h : p = i
    · subst h
      rw [List.getElem?_set_self hp]
      simp
    · rw [List.getElem?_set_ne h]
      simp [h]
  rw [e]
  simp [spl_lt l]
theorem bit16 {K j : Nat} (h : K < 16) (hj : ¬ j < 4) : K.testBit j = false := by
  refine Nat.testBit_lt_two_pow (Nat.lt_of_lt_of_le h ?_)
  have : 2 ^ 4 ≤ 2 ^ j := Nat.pow_le_pow_right (by omega) (by omega)
  omega
/-- where two spellings differ in idle places alone the table tells the same -/
theorem idle_agree {tb K K' : Nat} (hK : K < 16) (hK' : K' < 16) (h : ∀ i, i < 4 → K.testBit i ≠ K'.testBit i → Idle tb i) : tb.testBit K = tb.testBit K' := by
  have hm : ∀ i j, (mkB 4 (fun j => if j < i then K'.testBit j else K.testBit j)).testBit j = if j < i then (decide (j < 4) && K'.testBit j) else (decide (j < 4) && K.testBit j) := fun i j => by
    rw [mkB_bit]; split <;> rfl
  have key : ∀ i, i ≤ 4 → tb.testBit K = tb.testBit (mkB 4 (fun j => if j < i then K'.testBit j else K.testBit j)) := by
    intro i
    induction i with
    | zero =>
      intro _
      congr 1
      refine nat_eq (fun j => ?_)
      rw [hm, if_neg (by omega)]
      by_cases hj : j < 4
      · simp [hj]
      · simp [hj, bit16 hK hj]
    | succ i ih =>
      intro hi
      rw [ih (by omega)]
      by_cases e : K.testBit i = K'.testBit i
      · congr 1
        refine nat_eq (fun j => ?_)
        rw [hm, hm]
        by_cases hj : j = i
        · subst hj; rw [if_neg (by omega), if_pos (by omega), e]
        · by_cases hj2 : j < i
          · rw [if_pos hj2, if_pos (by omega)]
          · rw [if_neg hj2, if_neg (by omega)]
      · rw [h i (by omega) e _ (mkB_lt 4 _)]
        congr 1
        refine nat_eq (fun j => ?_)
        rw [Nat.testBit_xor, hm, hm, Nat.testBit_two_pow]
        by_cases hj : j = i
        · subst hj
          rw [if_neg (by omega), if_pos (by omega)]
          have h4 : j < 4 := by omega
          simp only [h4, decide_true, Bool.true_and]
          cases h1 : K.testBit j <;> cases h2 : K'.testBit j <;> simp_all
        · have hne : ¬ i = j := fun e => hj e.symm
          simp only [hne, decide_false, Bool.bne_false]
          by_cases hj2 : j < i
          · rw [if_pos hj2, if_pos (by omega)]
          · rw [if_neg hj2, if_neg (by omega)]
  rw [key 4 (Nat.le_refl _)]
  congr 1
  refine nat_eq (fun j => ?_)
  rw [hm]
  by_cases hj : j < 4
  · rw [if_pos hj]; simp [hj]
  · rw [if_neg hj]; simp [hj, bit16 hK' hj]
/-- bits laid at places -/
def putB (ps : List Nat) (k : Nat) : Nat := mkB 4 fun j => (List.range ps.length).any fun i => decide (ps[i]? = some j) && k.testBit i
/-- the bits of a table for some places -/
def bitT (ps : List Nat) (tb : Nat) : Nat := mkB (2 ^ ps.length) fun k => tb.testBit (putB ps k)
theorem bitT_val {l ps : List Nat} {val : Nat → Bool} {tb : Nat} (h4 : l.length ≤ 4) (hp : ∀ p, p ∈ ps → p < l.length) (hnd : ps.Nodup) (hid : ∀ i, i < 4 → i ∉ ps → Idle tb i) : (bitT ps tb).testBit (spl (ps.map fun p => val (l.getD p 0))) = tb.testBit (spl (l.map val)) := by
  have hlt : spl (ps.map fun p => val (l.getD p 0)) < 2 ^ ps.length := by
    have := spl_lt (ps.map fun p => val (l.getD p 0))
    rwa [List.length_map] at this
  have hl16 : spl (l.map val) < 16 := by
    have h1 := spl_lt (l.map val)
    rw [List.length_map] at h1
    have : 2 ^ l.length ≤ 2 ^ 4 := Nat.pow_le_pow_right (by omega) h4
    omega
  unfold bitT
  rw [mkB_bit]
  simp only [hlt, decide_true, Bool.true_and]
  refine idle_agree (mkB_lt 4 _) hl16 (fun i hi hne => hid i hi (fun hm => hne ?_))
  unfold putB
  rw [mkB_bit]
  simp only [hi, decide_true, Bool.true_and]
  obtain ⟨q, hq⟩ := List.getElem?_of_mem hm
  have hil := hp i hm
  rw [spl_bit, List.getD_eq_getElem?_getD, List.getElem?_map, List.getElem?_eq_getElem hil]
  have hb : (spl (ps.map fun p => val (l.getD p 0))).testBit q = val (l.getD i 0) := by
    rw [spl_bit, List.getD_eq_getElem?_getD, List.getElem?_map, hq]; rfl
  have hg : l.getD i 0 = l[i] := by rw [List.getD_eq_getElem?_getD, List.getElem?_eq_getElem hil]; rfl
  simp only [Option.map_some, Option.getD_some]
  rw [← hg]
  cases hv : val (l.getD i 0) with
  | true =>
    rw [List.any_eq_true]
    exact ⟨q, List.mem_range.2 (List.getElem?_eq_some_iff.1 hq).1, by rw [hb, hv]; simp [hq]⟩
  | false =>
    rw [List.any_eq_false]
    intro r hr hh
    rw [Bool.and_eq_true] at hh
    have h1 := of_decide_eq_true hh.1
    have hrq : r = q := by
      obtain ⟨hr1, hr2⟩ := List.getElem?_eq_some_iff.1 h1
      obtain ⟨hq1, hq2⟩ := List.getElem?_eq_some_iff.1 hq
      exact (List.getElem_inj hnd).1 (hr2.trans hq2.symm)
    rw [hrq, hb, hv] at hh
    cases hh.2
end Mp
end Go.Proofs.Ytlaljeobdddegaa
