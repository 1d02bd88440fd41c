import Derived.Test.YtlaljeobdddegaaAgG
import Derived.OwnWalk
import Derived.Deep.AppendLies
namespace Go.Proofs.Ytlaljeobdddegaa
open Go.RowKit

def bV (b : Bool) : Value := .bool b
def bC (b : Bool) : List Value := [.bool b]
theorem add0 (g j : Nat) : ((⟨g, 0, none⟩ : Addr).add j) = ⟨g, j, none⟩ := by unfold Addr.add; split <;> simp_all
theorem heap_new (w : World) (o : Obj) : (w.alloc o).heap[w.heap.size]? = some o := by unfold World.alloc; simp
theorem ownRow {α : Type} {g : α → Value} {w : World} {C : Nat} {e : TypeId} {v : Value} {n : Nat} {xs : List α} (h : w.ownsRow C e 1 v n (xs.map g)) :
    n = xs.length ∧ ∃ aw cw, v = .slice aw n cw ∧ RowAt w.heap.size w aw 1 (xs.map fun x => [g x]) := by
  have hl : n = xs.length := by have := h.1; simp at this; omega
  refine ⟨hl, ?_⟩
  rcases h.2 with ⟨h0, h1⟩ | ⟨gg, cap, cur, hv, h1⟩
  · refine ⟨none, 0, by rw [h0, h1], fun he => ?_⟩
    exfalso; apply he; have : xs.length = 0 := by omega
    rw [List.length_eq_zero_iff.1 this]; rfl
  · refine ⟨some ⟨gg, 0, none⟩, cap, hv, fun _ => ⟨gg, 0, rfl, ?_, ?_⟩⟩
    · exact (h.lt gg (by rw [hv]; rfl)).2
    · intro i cs hi j x hj
      have hc := h.cells (g := gg) (by rw [hv]; rfl) i
      rw [List.getElem?_map] at hi
      cases hx : xs[i]? with
      | none => rw [hx] at hi; cases hi
      | some y =>
        rw [hx] at hi
        have e : [g y] = cs := by simpa using hi
        subst e
        cases j with
        | succ j => simp at hj
        | zero =>
          have ex : g y = x := by simpa using hj
          subst ex
          have := hc (g y) (by rw [List.getElem?_map, hx]; rfl)
          rw [add0] at this
          simpa using this
theorem grown_plain {V wr w5 : World} (h : Below V.heap.size V wr) {o : Obj} {e : TypeId} {size n : Nat} {v : Value} {xs : List Value} (HO : wr.ownsRow V.heap.size e size v n xs) (hg : (wr.alloc o).grownBy w5 v.ownBlock) : Below V.heap.size V w5 :=
  (h.alloc h.size o).grown hg (Nat.le_trans h.size (by simp)) (fun k hk => (HO.lt k hk).1)
/-- two rows that are not one -/
def Sep (a b : Value) : Prop := a.ownBlock = none ∨ b.ownBlock = none ∨ a.ownBlock ≠ b.ownBlock
theorem Sep.other {a b : Value} (h : Sep a b) : b.ownBlock = none ∨ b.ownBlock ≠ a.ownBlock := by
  rcases h with h | h | h
  · rw [h]; cases hb : b.ownBlock with
    | none => exact .inl rfl
    | some x => exact .inr (by simp)
  · exact .inl h
  · exact .inr (Ne.symm h)
theorem Sep.symm {a b : Value} (h : Sep a b) : Sep b a := by
  rcases h with h | h | h
  · exact .inr (.inl h)
  · exact .inl h
  · exact .inr (.inr (Ne.symm h))
theorem Sep.new {w : World} {C : Nat} {e : TypeId} {n : Nat} {xs : List Value} {a b : Value} (h : Sep a b) (hb : w.ownsRow C e 1 b n xs) {g H m cap : Nat} (hg : a.ownBlock = some g ∨ g = H) (hH : w.heap.size ≤ H) : Sep (.slice (some ⟨g, 0, none⟩) m cap) b := by
  cases hbb : b.ownBlock with
  | none => exact .inr (.inl hbb)
  | some x =>
    refine .inr (.inr ?_)
    rw [hbb]
    show some g ≠ some x
    rcases hg with hg | hg
    · rcases h with h | h | h
      · rw [hg] at h; cases h
      · rw [hbb] at h; cases h
      · rw [hg, hbb] at h; exact h
    · have := (hb.lt x hbb).2
      intro e; cases e; omega
theorem own_below {w w' : World} {B e size n : Nat} {v : Value} {xs : List Value} (h : w.ownsRow B e size v n xs) (hb : Below w.heap.size w w') : w'.ownsRow B e size v n xs :=
  h.kept (row := none) ⟨hb.os, hb.tape, hb.output, hb.size, fun k hk _ => hb.block k hk⟩ (by
    cases hv : v.ownBlock with
    | none => exact .inl rfl
    | some x => exact .inr (by simp))
theorem own_mono {w : World} {C C' e size n : Nat} {v : Value} {xs : List Value} (h : w.ownsRow C e size v n xs) (hc : C' ≤ C) : w.ownsRow C' e size v n xs := by
  refine ⟨h.1, ?_⟩
  rcases h.2 with hn | ⟨g, cap, cur, rfl, hg, rest⟩
  · exact .inl hn
  · exact .inr ⟨g, cap, cur, rfl, Nat.le_trans hc hg, rest⟩

theorem grown_refl (w : World) (row : Option Nat) : w.grownBy w row := ⟨rfl, rfl, rfl, Nat.le_refl _, fun _ _ _ => rfl⟩
theorem grown_trans {a b c : World} {row : Option Nat} (h : a.grownBy b row) (h2 : b.grownBy c row) : a.grownBy c row :=
  ⟨h2.os.trans h.os, h2.tape.trans h.tape, h2.output.trans h.output, Nat.le_trans h.size h2.size, fun k hk hr => (h2.block k (Nat.lt_of_lt_of_le hk h.size) hr).trans (h.block k hk hr)⟩
theorem below_grown {wc w' : World} {row : Option Nat} {C : Nat} (hg : wc.grownBy w' row) (hC : C ≤ wc.heap.size) (hr : ∀ k, row = some k → C ≤ k) : Below C wc w' :=
  (Below.refl C wc).grown hg hC hr

theorem set_mid {α : Type} (a : List α) (x y : α) (r : List α) : (a ++ x :: r).set a.length y = a ++ y :: r := by
  induction a with
  | nil => rfl
  | cons h t ih => simp only [List.cons_append, List.length_cons, List.set_cons_succ, ih]
theorem set_next (a b : List Bool) (k : Nat) (y : Bool) (ha : a.length = k) (hb : k < b.length) : ((a ++ b.drop k).map bV).set k (.bool y) = (a ++ [y] ++ b.drop (k + 1)).map bV := by
  have := set_mid (a.map bV) (bV b[k]) (.bool y) ((b.drop (k + 1)).map bV)
  rw [List.length_map, ha] at this
  rw [List.drop_eq_getElem_cons hb, List.map_append, List.map_cons, this, List.map_append, List.map_append, List.append_assoc]
  rfl
theorem none_below {w w' : World} (h : w.grownBy w' none) : Below w.heap.size w w' := ⟨h.os, h.tape, h.output, h.size, fun k hk => h.block k hk (by simp)⟩
theorem info_bool0 : (Try.prog.info? 4).map (fun i => (i.zero, i.size, i.bytes)) = some (some (.bool false), 1, 1) := by kernel_rfl
theorem info_bool : ∃ i, Try.prog.info? 4 = some i ∧ i.zero = some (.bool false) ∧ i.size = 1 ∧ i.bytes = 1 := by
  have h := info_bool0
  cases hi : Try.prog.info? 4 with
  | none => rw [hi] at h; cases h
  | some i => rw [hi] at h; simp at h; exact ⟨i, rfl, h.1, h.2.1, h.2.2⟩
theorem made_false (n : Nat) : (madeCells (Value.bool false).cells (n * 1)).toList = (List.replicate n false).map bV := by
  rw [Nat.mul_one]
  apply List.ext_getElem?
  intro i
  by_cases h : i < n
  · simp [madeCells, Value.cells, bV, h, Nat.mod_one]
  · simp [madeCells, Value.cells, bV, h]
/-- a cell of a row of booleans -/
theorem rowB {B : Nat} {w : World} {a : Option Addr} {l : List Bool} (h : RowAt B w a 1 (l.map bC)) {i : Nat} {x : Bool} (hx : l[i]? = some x) : ∃ b o, a = some ⟨b, o, none⟩ ∧ b < B ∧ w.cell? ⟨b, o + i, none⟩ = some (.bool x) := by
  obtain ⟨b, o, ha, hlt, hc⟩ := h.el hx
  refine ⟨b, o, ha, hlt, ?_⟩
  have := hc 0 (.bool x) rfl
  simpa using this
theorem RowAt.intR {B : Nat} {w : World} {a : Option Addr} {l : List Int} (h : RowAt B w a 1 (l.map intC)) {i : Nat} {x : Int} (hx : l[i]? = some x) : ∃ b o, a = some ⟨b, o, none⟩ ∧ b < B ∧ w.cell? ⟨b, o + i, none⟩ = some (.int .i64 x) := by
  obtain ⟨b, o, ha, hlt, hc⟩ := h.el hx
  refine ⟨b, o, ha, hlt, ?_⟩
  have := hc 0 (.int .i64 x) rfl
  simpa using this

/-- what a literal is worth -/
def litV (v : List Bool) (l : Int) : Bool := (v[(l / 2).toNat]?.getD false) != decide (l % 2 = 1)
def InV (v : List Bool) (l : Int) : Prop := 0 ≤ l ∧ l < 2 * (v.length : Int)

end Go.Proofs.Ytlaljeobdddegaa
