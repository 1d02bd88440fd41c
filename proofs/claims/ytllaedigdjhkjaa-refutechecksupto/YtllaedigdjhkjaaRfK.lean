import Derived.Test.YtllaedigdjhkjaaRfJ
namespace Go.Proofs.Ytllaedigdjhkjaa
open Go.RowKit

/-- what the board keeps in memory: each its own row -/
inductive Site
  | held | reason | used | trail | clauses
  | row (t : Nat)
  | lits (i : Nat)
  | wl (t l : Nat)
  deriving DecidableEq
def Site.ty : Site → TypeId
  | .held => 84
  | .reason => 21
  | .used => 4
  | .trail => 77
  | .clauses => 80
  | .row _ => 86
  | .lits _ => 77
  | .wl _ _ => 118
def Site.sz : Site → Nat
  | .clauses => 4
  | .wl _ _ => 2
  | _ => 1
/-- a row: the slice that names it, how many, their cells -/
structure Slot where
  v : Value
  n : Nat
  xs : List Value
def setS (sl : Site → Slot) (s : Site) (x : Slot) : Site → Slot := fun s' => if s' = s then x else sl s'
theorem setS_same (sl : Site → Slot) (s : Site) (x : Slot) : setS sl s x s = x := by simp [setS]
theorem setS_other (sl : Site → Slot) {s s' : Site} (x : Slot) (h : s' ≠ s) : setS sl s x s' = sl s' := by simp [setS, h]
theorem setS_self (sl : Site → Slot) (s : Site) : setS sl s (sl s) = sl := by
  funext s'
  unfold setS
  split
  · next h => rw [h]
  · rfl
theorem setS_twice (sl : Site → Slot) (s : Site) (x y : Slot) : setS (setS sl s x) s y = setS sl s y := by
  funext s'
  unfold setS
  split <;> rfl
/-- the board's block and all the rows, apart from one another and above B -/
structure Rows' (B : Nat) (w : World) (bb : Nat) (cs : Array Value) (sl : Site → Slot) : Prop where
  rows : ∀ s, w.ownsRow B s.ty s.sz (sl s).v (sl s).n (sl s).xs
  sep : ∀ s s' k, (sl s).v.ownBlock = some k → (sl s').v.ownBlock = some k → s = s'
  nb : ∀ s, (sl s).v.ownBlock ≠ some bb
  board : w.heap[bb]? = some (.cells cs 73 (0, 0))
  base : B ≤ bb
theorem Rows'.lt {B : Nat} {w : World} {bb : Nat} {cs : Array Value} {sl : Site → Slot} (h : Rows' B w bb cs sl) : bb < w.heap.size := (Array.getElem?_eq_some_iff.1 h.board).1
theorem Rows'.size {B : Nat} {w : World} {bb : Nat} {cs : Array Value} {sl : Site → Slot} (h : Rows' B w bb cs sl) : B ≤ w.heap.size := by have := h.lt; have := h.base; omega
/-- a field of the board -/
theorem Rows'.field {B : Nat} {w : World} {bb : Nat} {cs : Array Value} {sl : Site → Slot} (h : Rows' B w bb cs sl) (j : Nat) : w.cell? ⟨bb, j, none⟩ = cs[j]? := cell_of_row w bb j cs _ (0, 0) h.board
theorem Rows'.soft {B : Nat} {w : World} {bb : Nat} {cs : Array Value} {sl : Site → Slot} (h : Rows' B w bb cs sl) (j : Nat) : w.frozen? ⟨bb, j, none⟩ = false := frozen_of_row w bb j cs _ h.board
/-- a field of the board is set -/
theorem Rows'.setB {B : Nat} {w : World} {bb : Nat} {cs : Array Value} {sl : Site → Slot} (h : Rows' B w bb cs sl) (j : Nat) (u : Value) : Rows' B (w.setCell ⟨bb, j, none⟩ u) bb (cs.setIfInBounds j u) sl := by
  have hg := gset w bb j u
  exact ⟨fun s => (h.rows s).kept hg (.inr (h.nb s)), h.sep, h.nb, heap_setCell_same w bb j cs _ u h.board, h.base⟩
/-- a row becomes another one: in its own block, or in a new one -/
theorem Rows'.grow {B : Nat} {w w' : World} {bb : Nat} {cs : Array Value} {sl : Site → Slot} (h : Rows' B w bb cs sl) (s : Site) (x : Slot) (hg : w.grownBy w' (sl s).v.ownBlock) (hx : w'.ownsRow B s.ty s.sz x.v x.n x.xs) (hat : ∀ k, x.v.ownBlock = some k → (sl s).v.ownBlock = some k ∨ w.heap.size ≤ k) : Rows' B w' bb cs (setS sl s x) := by
  have hlt := h.lt
  refine ⟨fun s' => ?_, fun s1 s2 k h1 h2 => ?_, fun s' hk => ?_, ?_, h.base⟩
  · by_cases e : s' = s
    · subst e; rw [setS_same]; exact hx
    · rw [setS_other sl x e]
      refine (h.rows s').kept hg ?_
      cases hv : (sl s').v.ownBlock with
      | none => exact .inl rfl
      | some k => exact .inr (fun e2 => e (h.sep s' s k hv e2.symm))
  · by_cases e1 : s1 = s
    · by_cases e2 : s2 = s
      · rw [e1, e2]
      · subst e1
        rw [setS_same] at h1
        rw [setS_other sl x e2] at h2
        rcases hat k h1 with h3 | h3
        · exact h.sep _ _ k h3 h2
        · have := ((h.rows s2).lt k h2).2; omega
    · by_cases e2 : s2 = s
      · subst e2
        rw [setS_same] at h2
        rw [setS_other sl x e1] at h1
        rcases hat k h2 with h3 | h3
        · exact h.sep _ _ k h1 h3
        · have := ((h.rows s1).lt k h1).2; omega
      · rw [setS_other sl x e1] at h1
        rw [setS_other sl x e2] at h2
        exact h.sep _ _ k h1 h2
  · by_cases e : s' = s
    · subst e
      rw [setS_same] at hk
      rcases hat _ hk with h3 | h3
      · exact h.nb _ h3
      · omega
    · rw [setS_other sl x e] at hk
      exact h.nb _ hk
  · rw [hg.block bb hlt (fun e => h.nb s e.symm)]; exact h.board
/-- nothing of the board is touched -/
theorem Rows'.rest {B : Nat} {w w' : World} {bb : Nat} {cs : Array Value} {sl : Site → Slot} (h : Rows' B w bb cs sl) (hb : Below w.heap.size w w') : Rows' B w' bb cs sl :=
  ⟨fun s => (h.rows s).kept (gbel hb none) (by cases (sl s).v.ownBlock <;> simp), h.sep, h.nb, by rw [hb.block bb h.lt]; exact h.board, h.base⟩
/-- the slice of a row that has something -/
theorem Rows'.form {B : Nat} {w : World} {bb : Nat} {cs : Array Value} {sl : Site → Slot} (h : Rows' B w bb cs sl) (s : Site) (hn : 0 < (sl s).n) : ∃ g cap, (sl s).v = .slice (some ⟨g, 0, none⟩) (sl s).n cap ∧ B ≤ g ∧ g < w.heap.size ∧ (sl s).n ≤ cap ∧ (∀ j, j < (sl s).n * s.sz → w.cell? ⟨g, j, none⟩ = (sl s).xs[j]?) ∧ (∀ j, w.frozen? ⟨g, j, none⟩ = false) := by
  have hr := h.rows s
  rcases hr.2 with ⟨_, h0⟩ | ⟨g, cap, cur, hv, hb, hg, hc, _⟩
  · omega
  · refine ⟨g, cap, hv, hb, (Array.getElem?_eq_some_iff.1 hg).1, hc, fun j hj => ?_, fun j => ?_⟩
    · rw [hv] at hr; exact hr.cellAt j hj
    · rw [hv] at hr; exact hr.frozenAt j
/-- a cell of a row is set -/
theorem Rows'.setR {B : Nat} {w : World} {bb : Nat} {cs : Array Value} {sl : Site → Slot} (h : Rows' B w bb cs sl) (s : Site) {g cap : Nat} (hv : (sl s).v = .slice (some ⟨g, 0, none⟩) (sl s).n cap) (j : Nat) (u : Value) : Rows' B (w.setCell ⟨g, j, none⟩ u) bb cs (setS sl s ⟨(sl s).v, (sl s).n, (sl s).xs.set j u⟩) := by
  have hr := h.rows s
  rw [hv] at hr
  obtain ⟨h1, h2⟩ := hr.stored j u
  refine h.grow s _ (by rw [hv]; exact h2) (by dsimp only; rw [hv]; exact h1) (fun k hk => .inl hk)
/-- a row is cut short -/
theorem Rows'.cut {B : Nat} {w : World} {bb : Nat} {cs : Array Value} {sl : Site → Slot} (h : Rows' B w bb cs sl) (s : Site) {g cap : Nat} (hv : (sl s).v = .slice (some ⟨g, 0, none⟩) (sl s).n cap) (m : Nat) (hm : m ≤ (sl s).n) : Rows' B w bb cs (setS sl s ⟨.slice (some ⟨g, 0, none⟩) m cap, m, (sl s).xs.take (m * s.sz)⟩) := by
  have hr := h.rows s
  refine h.grow s _ (grown_refl' w _) ?_ (fun k hk => .inl (by rw [hv]; exact hk))
  rcases hr.2 with ⟨h', _⟩ | ⟨g', cap', cur, h', hb, hg, hnc, hcm, hcs, htake⟩
  · rw [hv] at h'; cases h'
  · rw [hv] at h'
    simp only [Value.slice.injEq, Option.some.injEq, Addr.mk.injEq, and_true, true_and] at h'
    obtain ⟨rfl, rfl⟩ := h'
    have hle : m * s.sz ≤ (sl s).n * s.sz := Nat.mul_le_mul_right _ hm
    refine ⟨?_, .inr ⟨g, cap, cur, rfl, hb, hg, Nat.le_trans hm hnc, hcm, hcs, ?_⟩⟩
    · rw [List.length_take, hr.1, Nat.min_eq_left hle]
    · rw [← htake, List.take_take, Nat.min_eq_left hle]

end Go.Proofs.Ytllaedigdjhkjaa
