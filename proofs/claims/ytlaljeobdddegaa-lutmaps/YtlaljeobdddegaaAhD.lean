import Derived.Test.YtlaljeobdddegaaAhC
import Derived.WideKeyPair
import Derived.WideKeyMaps2
import Derived.DeepKeys4
import Derived.Maps.OwnOps
namespace Go.Proofs.Ytlaljeobdddegaa
open Go.RowKit Go.WideMaps
set_option maxRecDepth 100000
open Go.ChangeMaps (setBlock heap_setBlock_same heap_setBlock_other)

/-! The map of the gates that are known -/
theorem pairU : Try.prog.underlying 46 = some (.array 2 3) := by kernel_rfl
theorem intU : Try.prog.underlying 3 = some (.int .i64) := by kernel_rfl
theorem knownU : Try.prog.underlying 101 = some (.map 46 3) := by kernel_rfl
theorem pairRow : (46 : TypeId) < Try.prog.types.size := of_decide_eq_true (by kernel_rfl)
theorem pairArr : ArrKey Try.prog 46 3 2 := ⟨pairU, by kernel_rfl, by kernel_rfl, by kernel_rfl⟩
theorem pairWide : (match Try.prog.underlying 46 with | some (.array _ _) | some (.struct _) => true | _ => false) = true := by rw [pairU]
theorem laidAll : laidOutB Try.prog = true := by kernel_rfl
theorem pairLaw : KeyLaw Try.prog 46 := deep_law_laid laidAll (m := 2) (by omega) pairRow (by kernel_rfl) pairWide
theorem wfI (x : Int) (h : 0 ≤ x ∧ x < 9223372036854775808) : (Lit.int .i64 x).wf = true := by
  have e1 : IntKind.i64.min = -9223372036854775808 := by decide
  have e2 : IntKind.i64.max = 9223372036854775807 := by decide
  simp [Lit.wf, e1, e2]
  omega
def keyV (x y : Int) : Value := .agg #[.int .i64 x, .int .i64 y]
theorem pair_key (x y : Int) (hx : 0 ≤ x ∧ x < 9223372036854775808) (hy : 0 ≤ y ∧ y < 9223372036854775808) : ∃ s, keyOf Try.prog 46 (keyV x y) = some (.string s) :=
  ⟨_, keyOf_pair pairArr intU ⟨Try.prog.types.size - 1, by have h := pairRow; exact (Nat.succ_pred_eq_of_pos (Nat.lt_of_le_of_lt (Nat.zero_le _) h)).symm⟩ (wfI x hx) (wfI y hy)⟩

/-- the map holds the gates that were made, and nothing else -/
def KnownAt (w : World) (mb first : Nat) (hs : List AndD) : Prop :=
  ∃ (es : Array MapEntry) (clock : Nat), w.heap[mb]? = some (.map es clock) ∧ es.size = hs.length ∧ ∀ (i : Nat) (d : AndD), hs[i]? = some d → ∃ born, es[i]? = some ⟨keyV d.x d.y, .int .i64 (2 * ((first : Int) + (i : Int))), born⟩
theorem keyV_inj {a b c d : Int} (h : keyV a b = keyV c d) : a = c ∧ b = d := by
  unfold keyV at h
  simpa using h
theorem KnownAt.keys {first : Nat} {hs : List AndD} {es : Array MapEntry} (hr : ∀ (i : Nat) (d : AndD), hs[i]? = some d → 0 ≤ d.y ∧ d.y < d.x ∧ d.x < 4000000) (hsz : es.size = hs.length) (h : ∀ (i : Nat) (d : AndD), hs[i]? = some d → ∃ born, es[i]? = some ⟨keyV d.x d.y, .int .i64 (2 * ((first : Int) + (i : Int))), born⟩) : ∀ e ∈ es.toList, ∃ l, keyOf Try.prog 46 e.key = some l := by
  intro e he
  obtain ⟨i, hi⟩ := List.mem_iff_getElem?.1 he
  have hil := (List.getElem?_eq_some_iff.1 hi).1
  obtain ⟨d, hd⟩ : ∃ d, hs[i]? = some d := ⟨hs[i]'(by simpa [hsz] using hil), List.getElem?_eq_getElem _⟩
  obtain ⟨born, hb⟩ := h i d hd
  rw [Array.getElem?_toList, hb] at hi
  cases hi
  have := hr i d hd
  obtain ⟨s, hs⟩ := pair_key d.x d.y (by omega) (by omega)
  exact ⟨_, hs⟩
/-- looking a pair up -/
theorem known_look {w : World} {mb first : Nat} {hs : List AndD} (H : HsOk first hs) (hb : first + hs.length ≤ 2000000) (h : KnownAt w mb first hs) (p q : Int) (hp : 0 ≤ p ∧ p < 4000000) (hq : 0 ≤ q ∧ q < 4000000) :
    (findG hs p q = none ∧ (Instr.lookup 101 (.map (some mb)) (keyV p q) true).run Try.prog w = .ok (.tuple #[.int .i64 0, .bool false]) w) ∨
    ∃ i, findG hs p q = some i ∧ (Instr.lookup 101 (.map (some mb)) (keyV p q) true).run Try.prog w = .ok (.tuple #[.int .i64 (2 * ((first : Int) + (i : Int))), .bool true]) w := by
  obtain ⟨es, clock, h1, h2, h3⟩ := h
  have hr : ∀ (i : Nat) (d : AndD), hs[i]? = some d → 0 ≤ d.y ∧ d.y < d.x ∧ d.x < 4000000 := fun i d hd => by
    have := H.low i d hd
    have := (List.getElem?_eq_some_iff.1 hd).1
    omega
  obtain ⟨s, hk⟩ := pair_key p q (by omega) (by omega)
  rcases pairLaw.find w hk es.toList (KnownAt.keys hr h2 h3) with ⟨f1, f2⟩ | ⟨j, e0, f1, f2, f3⟩
  · refine .inl ⟨?_, by simp [Instr.lookup, run_underlying knownU, MapKept.run_getObj_map h1, pairLaw.check w _ hk, f1, Result.andThen]⟩
    cases hf : findG hs p q with
    | none => rfl
    | some i =>
      obtain ⟨d, hd, rfl, rfl⟩ := findG_some hf
      obtain ⟨born, hbn⟩ := h3 i d hd
      exact absurd rfl (f2 _ (List.mem_of_getElem? (by rw [Array.getElem?_toList]; exact hbn)))
  · have hj : es[j]? = some e0 := by simpa using f2
    have hjl := (Array.getElem?_eq_some_iff.1 hj).1
    obtain ⟨d, hd⟩ : ∃ d, hs[j]? = some d := ⟨hs[j]'(by omega), List.getElem?_eq_getElem _⟩
    obtain ⟨born, hbn⟩ := h3 j d hd
    rw [hj] at hbn
    cases hbn
    obtain ⟨rfl, rfl⟩ := keyV_inj f3
    refine .inr ⟨j, ?_, by simp [Instr.lookup, run_underlying knownU, MapKept.run_getObj_map h1, pairLaw.check w _ hk, f1, Result.andThen]⟩
    cases hf : findG hs d.x d.y with
    | none => exact absurd ⟨rfl, rfl⟩ (findG_none hf j d hd)
    | some i =>
      obtain ⟨d', hd', e1, e2⟩ := findG_some hf
      rw [H.one i j d' d hd' hd e1 e2]
/-- a pair that is not there goes in -/
theorem known_put {w : World} {mb first : Nat} {hs : List AndD} (H : HsOk first hs) (hb : first + hs.length ≤ 2000000) (h : KnownAt w mb first hs) (p q : Int) (hp : 0 ≤ p ∧ p < 4000000) (hq : 0 ≤ q ∧ q < 4000000) (hn : findG hs p q = none) :
    ∃ w', (Instr.mapUpdate 101 (.map (some mb)) (keyV p q) (.int .i64 (2 * ((first : Int) + (hs.length : Int))))).run Try.prog w = .ok () w' ∧ KnownAt w' mb first (hs ++ [⟨p, q⟩]) ∧ ∃ es' clock', w' = setBlock w mb (.map es' clock') := by
  obtain ⟨es, clock, h1, h2, h3⟩ := h
  have hr : ∀ (i : Nat) (d : AndD), hs[i]? = some d → 0 ≤ d.y ∧ d.y < d.x ∧ d.x < 4000000 := fun i d hd => by
    have := H.low i d hd
    have := (List.getElem?_eq_some_iff.1 hd).1
    omega
  obtain ⟨s, hk⟩ := pair_key p q (by omega) (by omega)
  rcases pairLaw.find w hk es.toList (KnownAt.keys hr h2 h3) with ⟨f1, f2⟩ | ⟨j, e0, f1, f2, f3⟩
  · refine ⟨setBlock w mb (.map (es.push ⟨keyV p q, .int .i64 (2 * ((first : Int) + (hs.length : Int))), clock⟩) (clock + 1)), by simp [Instr.mapUpdate, run_underlying knownU, MapKept.run_getObj_map h1, pairLaw.check w false hk, f1, MapKept.run_setObj_map _ h1, Result.andThen, setBlock], ?_, _, _, rfl⟩
    refine ⟨_, _, heap_setBlock_same h1 _, by simp [h2], fun i d hd => ?_⟩
    by_cases hi : i < hs.length
    · rw [List.getElem?_append_left hi] at hd
      obtain ⟨born, hbn⟩ := h3 i d hd
      exact ⟨born, by rw [Array.getElem?_push_lt (by omega)]; rw [← hbn, Array.getElem?_eq_getElem (by omega)]⟩
    · rw [List.getElem?_append_right (by omega)] at hd
      have e0 : i - hs.length = 0 := by
        have := (List.getElem?_eq_some_iff.1 hd).1
        simp at this
        omega
      rw [e0] at hd
      cases hd
      have e1 : i = es.size := by omega
      subst e1
      exact ⟨clock, by rw [h2]; simp [← h2]⟩
  · have hj : es[j]? = some e0 := by simpa using f2
    have hjl := (Array.getElem?_eq_some_iff.1 hj).1
    obtain ⟨d, hd⟩ : ∃ d, hs[j]? = some d := ⟨hs[j]'(by omega), List.getElem?_eq_getElem _⟩
    obtain ⟨born, hbn⟩ := h3 j d hd
    rw [hj] at hbn
    cases hbn
    obtain ⟨rfl, rfl⟩ := keyV_inj f3
    exact absurd ⟨rfl, rfl⟩ (findG_none hn j d hd)

end Go.Proofs.Ytlaljeobdddegaa
