import Derived.Test.YtdiahnommkhkiaaDoorAdB
import Derived.Test.YtdiahnommkhkiaaDoorAqN
import Derived.Test.YtdiahnommkhkiaaDoorArC
namespace Go.Proofs.YtdiahnommkhkiaaDoor
open Go.RowKit

theorem LnAt.grown {w w' : World} {a : Option Addr} {T : List UInt8} {g : Nat} (h : LnAt w a T) (hg : w.grownBy w' (some g)) (hn : ∀ b o, a = some ⟨b, o, none⟩ → b ≠ g) : LnAt w' a T := fun i l hl => by
  obtain ⟨b, h1, h2, h3⟩ := h i l hl
  exact ⟨b, h1, Nat.lt_of_lt_of_le h2 hg.size, (gcell hg h2 (hn b 0 h1)).trans h3⟩
/-- the answer's two boxes, empty -/
structure Boxes (w : World) (rb fb : Nat) : Prop where
  r : w.heap[rb]? = some (.cells #[.int .i64 0, .slice none 0 0, .slice none 0 0, .slice none 0 0] 28 (0, 0))
  f : w.heap[fb]? = some (.cells #[.int .i64 0, .int .i64 0] 38 (0, 0))
theorem Boxes.grown {w w' : World} {rb fb g : Nat} (h : Boxes w rb fb) (hg : w.grownBy w' (some g)) (h1 : rb < w.heap.size) (h2 : fb < w.heap.size) (h3 : rb ≠ g) (h4 : fb ≠ g) : Boxes w' rb fb :=
  ⟨(hg.block rb h1 (fun e => h3 (Option.some.inj e))).trans h.r, (hg.block fb h2 (fun e => h4 (Option.some.inj e))).trans h.f⟩
theorem Boxes.below {w w' : World} {rb fb : Nat} (h : Boxes w rb fb) (hb : Below w.heap.size w w') (h1 : rb < w.heap.size) (h2 : fb < w.heap.size) : Boxes w' rb fb := ⟨(hb.block rb h1).trans h.r, (hb.block fb h2).trans h.f⟩
/-- a fault told -/
structure Told (we w : World) (rb fb : Nat) (x : Int) : Prop where
  r : w.heap[rb]? = some (.cells #[.int .i64 0, .slice none 0 0, .slice none 0 0, .slice none 0 0] 28 (0, 0))
  f : w.heap[fb]? = some (.cells #[.int .i64 16, .int .i64 x] 38 (0, 0))
  b : Below we.heap.size we w
theorem told_of {we w : World} {rb fb : Nat} (x : Int) (h : Boxes w rb fb) (hne : rb ≠ fb) (hb : Below we.heap.size we w) (h1 : we.heap.size ≤ rb) (h2 : we.heap.size ≤ fb) :
    Told we ((((((w.setCell ⟨rb, 0, none⟩ (.int .i64 0)).setCell ⟨rb, 1, none⟩ (.slice none 0 0)).setCell ⟨rb, 2, none⟩ (.slice none 0 0)).setCell ⟨rb, 3, none⟩ (.slice none 0 0)).setCell ⟨fb, 0, none⟩ (.int .i64 16)).setCell ⟨fb, 1, none⟩ (.int .i64 x)) rb fb x := by
  refine ⟨?_, ?_, ?_⟩
  · rw [set_heap _ (Ne.symm hne), set_heap _ (Ne.symm hne)]
    exact set4_heap h.r _ _ _ _
  · refine (set_self (set_self (cs := #[.int .i64 0, .int .i64 0]) ?_)).trans rfl
    rw [set_heap _ hne, set_heap _ hne, set_heap _ hne, set_heap _ hne]
    exact h.f
  · exact (((((hb.setCell (p := ⟨rb, 0, none⟩) h1 _).setCell (p := ⟨rb, 1, none⟩) h1 _).setCell (p := ⟨rb, 2, none⟩) h1 _).setCell (p := ⟨rb, 3, none⟩) h1 _).setCell (p := ⟨fb, 0, none⟩) h2 _).setCell (p := ⟨fb, 1, none⟩) h2 _
theorem grown_thru {a b c d : World} {x : Nat} {row : Option Nat} (h1 : a.grownBy b (some x)) (h2 : b.grownBy c row) (h3 : c.grownBy d (some x)) (hr : ∀ y, row = some y → a.heap.size ≤ y) : a.grownBy d (some x) :=
  ⟨h3.os.trans (h2.os.trans h1.os), h3.tape.trans (h2.tape.trans h1.tape), h3.output.trans (h2.output.trans h1.output), Nat.le_trans h1.size (Nat.le_trans h2.size h3.size), fun k hk hne => by
    have s1 := h1.size
    have s2 := h2.size
    rw [h3.block k (by omega) hne, h2.block k (by omega) (fun e => by have := hr k e.symm; omega), h1.block k hk hne]⟩
theorem grown_ad (w : World) (o : Obj) (row : Option Nat) : w.grownBy (w.alloc o).drew row := ⟨rfl, rfl, rfl, by simp, fun k hk _ => heap_alloc_old w o hk⟩
theorem out_not {T : List UInt8} {n : Nat} {m y : Int} (h : nums T n = some [y]) (hy : ¬ y < m) : ¬ ∃ d, OutLine T n m d := by
  rintro ⟨d, h1, h2⟩
  rw [h] at h1
  have : y = d := by simpa using h1
  omega
theorem and_not {T : List UInt8} {n : Nat} {own o x y : Int} (h : nums T n = some [o, x, y]) (hy : ¬ (o = own ∧ x < own ∧ y < own)) : ¬ ∃ d, AndLine T n own d := by
  rintro ⟨d, h1, h2, h3⟩
  rw [h] at h1
  simp at h1
  exact hy ⟨h1.1, by omega, by omega⟩
theorem lat_not2 {T : List UInt8} {n : Nat} {own m o y : Int} (h : nums T n = some [o, y]) (hy : ¬ (o = own ∧ y < m)) : ¬ ∃ d, LatLine T n own m d := by
  rintro ⟨d, h1, h2 | ⟨f, h2, _⟩⟩
  · have h3 := h2.1
    rw [h] at h3
    simp at h3
    exact hy ⟨h3.1, by omega⟩
  · rw [h] at h2
    simp at h2
theorem lat_not3 {T : List UInt8} {n : Nat} {own m o y f : Int} (h : nums T n = some [o, y, f]) (hy : ¬ (o = own ∧ y < m)) : ¬ ∃ d, LatLine T n own m d := by
  rintro ⟨d, h1, h2 | ⟨f, h2, _⟩⟩
  · have h3 := h2.1
    rw [h] at h3
    simp at h3
  · rw [h] at h2
    simp at h2
    exact hy ⟨h2.1, by omega⟩
theorem lat_no {T : List UInt8} {n : Nat} {own m : Int} (h : ∀ xs, nums T n = some xs → ¬ RowLen xs 2 true) : ¬ ∃ d, LatLine T n own m d := by
  rintro ⟨d, h1, h2 | ⟨f, h2, h3, _⟩⟩
  · exact h _ h2.1 (Or.inl rfl)
  · exact h _ h2 (Or.inr ⟨rfl, rfl, f, rfl, by omega⟩)
theorem row_one {xs : List Int} (h : RowLen xs 1 false) : ∃ y, xs = [y] := by
  rcases h with h | ⟨h, _⟩
  · match xs, h with
    | [y], _ => exact ⟨y, rfl⟩
  · cases h
theorem row_three {xs : List Int} (h : RowLen xs 3 false) : ∃ x y z, xs = [x, y, z] := by
  rcases h with h | ⟨h, _⟩
  · match xs, h with
    | [x, y, z], _ => exact ⟨x, y, z, rfl⟩
  · cases h
theorem row_two {xs : List Int} (h : RowLen xs 2 true) : (∃ x y, xs = [x, y]) ∨ ∃ x y f, xs = [x, y, f] ∧ f < 2 := by
  rcases h with h | ⟨_, h, f, h1, h2⟩
  · match xs, h with
    | [x, y], _ => exact .inl ⟨x, y, rfl⟩
  · match xs, h with
    | [x, y, z], _ => exact .inr ⟨x, y, z, rfl, by simp at h1; omega⟩
end Go.Proofs.YtdiahnommkhkiaaDoor
