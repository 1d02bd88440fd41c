import Derived.Test.YtlaljeobdddegaaMpE
import Derived.Test.YtlaljeobdddegaaMpB
namespace Go.Proofs.Ytlaljeobdddegaa
open Go.RowKit

/-- gates one behind the other, each of what is ahead of it -/
def AndsLow (first : Nat) (ands : List AndD) : Prop := ∀ (k : Nat) (d : AndD), ands[k]? = some d → (0 ≤ d.x ∧ d.x < 2 * ((first + k : Nat) : Int)) ∧ (0 ≤ d.y ∧ d.y < 2 * ((first + k : Nat) : Int))
def grA (first : Nat) (ands : List AndD) (v : Nat) : Nat := match ands[v - first]? with | some d => (d.x / 2).toNat | none => 0
def grB (first : Nat) (ands : List AndD) (v : Nat) : Nat := match ands[v - first]? with | some d => (d.y / 2).toNat | none => 0
def grOf (first : Nat) (ands : List AndD) (hf : 0 < first) (h : AndsLow first ands) : Mp.Gr :=
  ⟨first, grA first ands, grB first ands, hf, fun v hv => by
    unfold grA
    cases e : ands[v - first]? with
    | none => show 0 < v; omega
    | some d => have := h _ d e; show (d.x / 2).toNat < v; omega, fun v hv => by
    unfold grB
    cases e : ands[v - first]? with
    | none => show 0 < v; omega
    | some d => have := h _ d e; show (d.y / 2).toNat < v; omega⟩
theorem grA_at {first k : Nat} {ands : List AndD} {d : AndD} (hd : ands[k]? = some d) : grA first ands (first + k) = (d.x / 2).toNat ∧ grB first ands (first + k) = (d.y / 2).toNat := by
  unfold grA grB
  rw [show first + k - first = k by omega, hd]
  exact ⟨rfl, rfl⟩
/-- what hashing makes of variables -/
def muH (lits : List Int) (v : Nat) : Nat := (lits.getD v 0 / 2).toNat
theorem hash_map {first : Nat} {ands hs : List AndD} {lits : List Int} (hf : 0 < first) (h : AndsLow first ands) (hh : AndsLow first hs) (hG : GatesH first ands (hs, lits)) : Mp.HashM (grOf first ands hf h) (grOf first hs hf hh) (first + ands.length) (muH lits) := by
  have hsrc : ∀ v, v < first → muH lits v = v := fun v hv => by
    unfold muH
    rw [List.getD_eq_getElem?_getD, hG.src v hv]
    simp only [Option.getD_some]
    omega
  refine ⟨hsrc 0 hf, fun v hv => ?_, fun v hv hg => ?_⟩
  · show muH lits v < first
    rw [hsrc v hv]; exact hv
  · have hg' : first ≤ v := hg
    obtain ⟨k, rfl⟩ : ∃ k, v = first + k := ⟨v - first, by omega⟩
    obtain ⟨d, hd⟩ := getElem_lt (show k < ands.length by omega)
    obtain ⟨x, hx, hgt⟩ := hG.gate k d hd
    obtain ⟨ea, eb⟩ := grA_at (first := first) hd
    have ex : muH lits (first + k) = (x / 2).toNat := by unfold muH; rw [List.getD_eq_getElem?_getD, hx]; rfl
    show muH lits (first + k) = 0 ∨ muH lits (first + k) = muH lits (grA first ands (first + k)) ∨ muH lits (first + k) = muH lits (grB first ands (first + k)) ∨ (first ≤ muH lits (first + k) ∧ ((grA first hs (muH lits (first + k)) = muH lits (grA first ands (first + k)) ∧ grB first hs (muH lits (first + k)) = muH lits (grB first ands (first + k))) ∨ (grA first hs (muH lits (first + k)) = muH lits (grB first ands (first + k)) ∧ grB first hs (muH lits (first + k)) = muH lits (grA first ands (first + k)))))
    rw [ea, eb, ex]
    rcases hgt with e | e | e | ⟨i, g, hgi, e, hor⟩
    · left; omega
    · right; left; unfold muH; rw [e]
    · right; right; left; unfold muH; rw [e]
    · right; right; right
      have en : (x / 2).toNat = first + i := by omega
      obtain ⟨ha, hb⟩ := grA_at (first := first) (show hs[i]? = some g from hgi)
      rw [en, ha, hb]
      refine ⟨by omega, ?_⟩
      rcases hor with ⟨e1, e2⟩ | ⟨e1, e2⟩
      · left; unfold muH; rw [← e1, ← e2]; exact ⟨rfl, rfl⟩
      · right; unfold muH; rw [← e1, ← e2]; exact ⟨rfl, rfl⟩

end Go.Proofs.Ytlaljeobdddegaa
