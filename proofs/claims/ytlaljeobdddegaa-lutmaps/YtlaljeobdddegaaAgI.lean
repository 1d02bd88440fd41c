import Derived.Test.YtlaljeobdddegaaAgG
import Derived.ProofKit
import Derived.SizedLaws
import Derived.Deep.Slices
namespace Go.Proofs.Ytlaljeobdddegaa
open Go.ChangeShapes Go.WideShapes Go.ChangeAt Go.RowKit

section
variable {H : Type} {enc : TypeId × Value → H} {w : World} {base : Nat} {spare : Nat → Bool} {held : Bool} {fuel : Nat}

/-- nothing in it that is longer than memory is -/
def Fine (t : TypeId) (d : DataW H) : Prop := ∀ n, n ∈ DataW.weights Try.prog t d → n ≤ reachBytes
theorem fine_part {t : TypeId} {fs : Array Field} {parts : List (DataW H)} (ht : Try.prog.underlying t = some (.struct fs)) (h : Fine t (.agg parts)) {i : Nat} {f : Field} {d : DataW H} (hf : fs[i]? = some f) (hd : parts[i]? = some d) : Fine f.type d := fun n hn => by
  refine h n ?_
  rw [DataW.weights.eq_def]
  simp only [ht]
  exact DataW.weights_mem_each (j := i) (by rw [List.getElem?_map, Array.getElem?_toList, hf]; rfl) hd n hn
theorem mem_all {e : TypeId} {l : List (DataW H)} {i : Nat} {d : DataW H} (hd : l[i]? = some d) : ∀ n, n ∈ DataW.weights Try.prog e d → n ∈ DataW.weightsAll Try.prog e l := by
  induction l generalizing i with
  | nil => simp at hd
  | cons a r ih =>
    intro n hn
    rw [DataW.weightsAll.eq_def]
    simp only [List.mem_append]
    cases i with
    | zero => simp at hd; subst hd; exact .inl hn
    | succ i => exact .inr (ih (by simpa using hd) n hn)
theorem fine_slice {t e : TypeId} {elems sp : List (DataW H)} (ht : Try.prog.underlying t = some (.slice e)) (h : Fine t (.slice elems sp)) : (elems.length + sp.length) * Try.prog.bytesOf e ≤ reachBytes ∧ ∀ (i : Nat) (d : DataW H), elems[i]? = some d → Fine e d := by
  have e1 : DataW.weights Try.prog t (.slice elems sp) = (elems.length + sp.length) * Try.prog.bytesOf e :: (DataW.weightsAll Try.prog e elems ++ DataW.weightsAll Try.prog e sp) := by
    rw [DataW.weights.eq_def]; simp only [ht]
  unfold Fine at h
  rw [e1] at h
  exact ⟨h _ List.mem_cons_self, fun i d hd n hn => h n (List.mem_cons_of_mem _ (List.mem_append.2 (.inl (mem_all hd n hn))))⟩
theorem listOf {α : Type} {Q : Nat → α → Prop} (n : Nat) (h : ∀ i, i < n → ∃ x, Q i x) : ∃ l : List α, l.length = n ∧ ∀ (i : Nat) (x : α), l[i]? = some x → Q i x := by
  induction n with
  | zero => exact ⟨[], rfl, fun i x hx => by simp at hx⟩
  | succ n ih =>
    obtain ⟨l, hl, hq⟩ := ih (fun i hi => h i (by omega))
    obtain ⟨x, hx⟩ := h n (by omega)
    refine ⟨l ++ [x], by simp [hl], fun i y hy => ?_⟩
    rcases Nat.lt_or_ge i n with hi | hi
    · rw [List.getElem?_append_left (by omega)] at hy; exact hq i y hy
    · rw [List.getElem?_append_right (by omega)] at hy
      have : i - l.length = 0 := by
        have := (List.getElem?_eq_some_iff.1 hy).1
        simp at this; omega
      rw [this] at hy
      simp at hy
      subst hy
      have : i = n := by omega
      rw [this]; exact hx
theorem spot_none {b o : Nat} {sp : Option Nat} {v : Value} (h : w.cell? ⟨b, o, sp⟩ = some v) : sp = none := by
  cases sp with
  | none => rfl
  | some x =>
    unfold World.cell? at h
    split at h <;> simp at h
theorem add_none (b o n : Nat) : (⟨b, o, none⟩ : Addr).add n = ⟨b, o + n, none⟩ := by
  unfold Addr.add; split
  · simp
  · rfl

/-- a slice of rows of cells -/
theorem open_row {α : Type} (f : α → List Value) (Q : DataW H → α → Prop) {t e : TypeId} {sz : Nat} {v : Value} {y : DataW H × List MemPlace} (ht : Try.prog.underlying t = some (.slice e)) (hc : Try.prog.cellsOf e = sz) (hs : 0 < sz)
    (hel : ∀ (fuel : Nat) (cs : List Value) (y : DataW H × List MemPlace), DataW.trod enc Try.prog w base spare held fuel e cs = some y → ∃ x : α, cs = f x ∧ Q y.1 x) (h : DataW.trod enc Try.prog w base spare held fuel t [v] = some y) :
    ∃ a c, ∃ l : List α, v = .slice a l.length c ∧ RowAt w.heap.size w a sz (l.map f) ∧ ((y.1 = .nil ∧ l = []) ∨ ∃ elems sp, y.1 = .slice elems sp ∧ elems.length = l.length ∧ ∀ (i : Nat) (x : α), l[i]? = some x → ∃ d, elems[i]? = some d ∧ Q d x) := by
  rcases Deep.open_slice ht h with ⟨hv, hy⟩ | ⟨a, len, cap, m, n, D, Pl, hv, hb, hlc, hcm, hm, hy, hall⟩
  · simp only [List.cons.injEq, and_true] at hv
    subst hv; subst hy
    exact ⟨none, 0, [], rfl, rowAt_nil, .inl ⟨rfl, rfl⟩⟩
  · simp only [List.cons.injEq, and_true] at hv
    subst hv; subst hy
    have hlm : len ≤ m := by rw [hm]; split <;> omega
    obtain ⟨l, hl, hq⟩ := listOf (Q := fun i (x : α) => (∀ (j : Nat) (c : Value), (f x)[j]? = some c → w.cell? ((a.add (i * sz)).add j) = some c) ∧ (f x).length = sz ∧ Q (D i) x) len (fun i hi => by
      obtain ⟨cs', h1, h2⟩ := hall i (by omega)
      rw [hc] at h1
      obtain ⟨x, hx, hQ⟩ := hel n cs' _ h2
      subst hx
      obtain ⟨-, hlen, hcell⟩ := World.cells?_some h1
      exact ⟨x, fun j c hj => (hcell j (by rw [← hlen]; exact (List.getElem?_eq_some_iff.1 hj).1)).trans hj, hlen, hQ⟩)
    refine ⟨some a, cap, l, by rw [hl], ?_, .inr ⟨_, _, rfl, by simp [hl], fun i x hx => ?_⟩⟩
    · intro hne
      obtain ⟨x0, hx0⟩ : ∃ x, l[0]? = some x := by
        cases l with
        | nil => simp at hne
        | cons a r => exact ⟨a, rfl⟩
      obtain ⟨hc0, hl0, -⟩ := hq 0 x0 hx0
      obtain ⟨v0, hv0⟩ : ∃ v, (f x0)[0]? = some v := ⟨(f x0)[0]'(by omega), List.getElem?_eq_getElem (by omega)⟩
      have hcell := hc0 0 v0 hv0
      rw [show (a.add (0 * sz)).add 0 = a by simp [Addr.add]] at hcell
      have hbl := World.block_lt_of_cell? w _ hcell
      obtain ⟨ab, ao, asp⟩ := a
      have hsp := spot_none hcell
      subst hsp
      refine ⟨ab, ao, rfl, hbl, fun i cs hi j x hx => ?_⟩
      rw [List.getElem?_map] at hi
      cases hli : l[i]? with
      | none => rw [hli] at hi; simp at hi
      | some y =>
        rw [hli] at hi
        simp at hi
        subst hi
        have := (hq i y hli).1 j x hx
        rw [add_none, add_none] at this
        exact this
    · have hi : i < len := by rw [← hl]; exact (List.getElem?_eq_some_iff.1 hx).1
      exact ⟨D i, by simp [hi], (hq i x hx).2.2⟩

end
end Go.Proofs.Ytlaljeobdddegaa
