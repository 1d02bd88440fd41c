import Derived.Test.YtdiahnommkhkiaaDoorJ37
import Derived.Test.YtdiahnommkhkiaaDoorJ31
import Derived.Test.YtdiahnommkhkiaaDoorJ18
import Derived.Test.YtdiahnommkhkiaaDoorJ35
namespace Go.Proofs.YtdiahnommkhkiaaDoor
open Go.RowKit

theorem LnAt.grown {w w' : World} {a : Option Addr} {T : List UInt8} {g : Nat} (h : LnAt w a T) (hg : w.grownBy w' (some g)) (hn : ∀ b o, a = some ⟨b, o, none⟩ → b ≠ g) : LnAt w' a T := fun i l hl => by
  obtain ⟨b, h1, h2, h3⟩ := h i l hl
  exact ⟨b, h1, Nat.lt_of_lt_of_le h2 hg.size, (gcell hg h2 (hn b 0 h1)).trans h3⟩
/-- the answer's two boxes, empty -/
structure Boxes (w : World) (rb fb : Nat) : Prop where
  r : w.heap[rb]? = some (.cells #[.int .i64 0, .slice none 0 0, .slice none 0 0, .slice none 0 0] 28 (0, 0))
  f : w.heap[fb]? = some (.cells #[.int .i64 0, .int .i64 0] 38 (0, 0))
theorem Boxes.grown {w w' : World} {rb fb g : Nat} (h : Boxes w rb fb) (hg : w.grownBy w' (some g)) (h1 : rb < w.heap.size) (h2 : fb < w.heap.size) (h3 : rb ≠ g) (h4 : fb ≠ g) : Boxes w' rb fb :=
  ⟨(hg.block rb h1 (fun e => h3 (Option.some.inj e))).trans h.r, (hg.block fb h2 (fun e => h4 (Option.some.inj e))).trans h.f⟩
theorem Boxes.below {w w' : World} {rb fb : Nat} (h : Boxes w rb fb) (hb : Below w.heap.size w w') (h1 : rb < w.heap.size) (h2 : fb < w.heap.size) : Boxes w' rb fb := ⟨(hb.block rb h1).trans h.r, (hb.block fb h2).trans h.f⟩
/-- a fault told -/
structure Told (we w : World) (rb fb : Nat) (x : Int) : Prop where
  r : w.heap[rb]? = some (.cells #[.int .i64 0, .slice none 0 0, .slice none 0 0, .slice none 0 0] 28 (0, 0))
  f : w.heap[fb]? = some (.cells #[.int .i64 16, .int .i64 x] 38 (0, 0))
  b : Below we.heap.size we w
theorem told_of {we w : World} {rb fb : Nat} (x : Int) (h : Boxes w rb fb) (hne : rb ≠ fb) (hb : Below we.heap.size we w) (h1 : we.heap.size ≤ rb) (h2 : we.heap.size ≤ fb) :
    Told we ((((((w.setCell ⟨rb, 0, none⟩ (.int .i64 0)).setCell ⟨rb, 1, none⟩ (.slice none 0 0)).setCell ⟨rb, 2, none⟩ (.slice none 0 0)).setCell ⟨rb, 3, none⟩ (.slice none 0 0)).setCell ⟨fb, 0, none⟩ (.int .i64 16)).setCell ⟨fb, 1, none⟩ (.int .i64 x)) rb fb x := by
  refine ⟨?_, ?_, ?_⟩
  · rw [set_heap _ (Ne.symm hne), set_heap _ (Ne.symm hne)]
    exact set4_heap h.r _ _ _ _
  · refine (set_self (set_self (cs := #[.int .i64 0, .int .i64 0]) ?_)).trans rfl
    rw [set_heap _ hne, set_heap _ hne, set_heap _ hne, set_heap _ hne]
    exact h.f
  · exact (((((hb.setCell (p := ⟨rb, 0, none⟩) h1 _).setCell (p := ⟨rb, 1, none⟩) h1 _).setCell (p := ⟨rb, 2, none⟩) h1 _).setCell (p := ⟨rb, 3, none⟩) h1 _).setCell (p := ⟨fb, 0, none⟩) h2 _).setCell (p := ⟨fb, 1, none⟩) h2 _
theorem grown_thru {a b c d : World} {x : Nat} {row : Option Nat} (h1 : a.grownBy b (some x)) (h2 : b.grownBy c row) (h3 : c.grownBy d (some x)) (hr : ∀ y, row = some y → a.heap.size ≤ y) : a.grownBy d (some x) :=
  ⟨h3.os.trans (h2.os.trans h1.os), h3.tape.trans (h2.tape.trans h1.tape), h3.output.trans (h2.output.trans h1.output), Nat.le_trans h1.size (Nat.le_trans h2.size h3.size), fun k hk hne => by
    have s1 := h1.size
    have s2 := h2.size
    rw [h3.block k (by omega) hne, h2.block k (by omega) (fun e => by have := hr k e.symm; omega), h1.block k hk hne]⟩
theorem grown_ad (w : World) (o : Obj) (row : Option Nat) : w.grownBy (w.alloc o).drew row := ⟨rfl, rfl, rfl, by simp, fun k hk _ => heap_alloc_old w o hk⟩
theorem row_one {xs : List Int} (h : RowLen xs 1 false) : ∃ y, xs = [y] := by
  rcases h with h | ⟨h, _⟩
  · match xs, h with
    | [y], _ => exact ⟨y, rfl⟩
  · cases h

end Go.Proofs.YtdiahnommkhkiaaDoor

namespace Go.Proofs.YtdiahnommkhkiaaDoor
open Go.RowKit

/-- the numbers of a line -/
def lineNums (t : List UInt8) : Option (List Int) := if (pcs 32 t).all numOk then some ((pcs 32 t).map numV) else none
theorem numsB_of {T t : List UInt8} {p : Nat} (h : lineAt T p = some t) : numsB T p = lineNums t := numsB_some h
theorem lines_one {t : List UInt8} (h : 10 ∉ t) : linesOf (t ++ [10]) = [t] := by
  rw [linesOf_cut h rfl, linesOf_free (by simp)]
theorem rowB_any (t : List UInt8) (h10 : 10 ∉ t) (ht : t.length < 1048576) (b : Nat) (w : World) (hb : b < w.heap.size) (hc : w.cell? ⟨b, 0, none⟩ = some (.string (bs t))) (more : Bool) :
    Calls Tryd.prog 25 #[.slice (some ⟨b, 0, none⟩) 1 1, .int .i64 0, .int .i64 1, .bool more] w fun e w' => ∃ v ok, e = .returned (.tuple #[v, .bool ok]) ∧ Below w.heap.size w w' ∧ ((ok = true ∧ ∃ xs, lineNums t = some xs ∧ w'.ownsRow w.heap.size 3 1 v xs.length (xs.map iV) ∧ RowLen xs 1 more) ∨ (ok = false ∧ ∀ xs, lineNums t = some xs → ¬ RowLen xs 1 more)) := by
  have hl := lines_one h10
  have hln : LnAt w (some ⟨b, 0, none⟩) (t ++ [10]) := fun i l hi => by
    rw [hl] at hi
    have hi0 := (List.getElem?_eq_some_iff.1 hi).1
    simp at hi0
    subst hi0
    simp at hi
    subst hi
    exact ⟨b, rfl, hb, hc⟩
  have R := row_any (t ++ [10]) (by simp; omega) (some ⟨b, 0, none⟩) 1 w hln 0 1 (by decide) more
  rw [hl] at R
  have hn : nums (t ++ [10]) 0 = lineNums t := nums_some (by rw [hl]; rfl)
  rw [hn] at R
  exact R
set_option maxRecDepth 100000 in
theorem badByte_any (p : Int) (w : World) :
    Calls Tryd.prog 31 #[.int .i64 p] w fun e w' => e = .returned (.tuple #[.agg #[.int .i64 0, .slice none 0 0, .slice none 0 0, .slice none 0 0], .agg #[.int .i64 16, .int .i64 p]]) ∧ Below w.heap.size w w' := by
  go_enter Tryd.func31, Tryd.ntmps31
  go_wp2_with fail
  refine bodyPost_ret (v := .tuple #[.agg #[.int .i64 0, .slice none 0 0, .slice none 0 0, .slice none 0 0], .agg #[.int .i64 16, .int .i64 p]]) (by simp [results, Tryd.results31, go_sem]) rfl ?_
  exact ⟨rfl, ((Below.refl _ _).alloc (Nat.le_refl _) _).alloc (by simp) _⟩
/-- two rows that grow: latches, then outputs -/
structure TwoL (wc w : World) (gb B nl k : Nat) (T : List UInt8) (M : Int) (ls : List LatD) (os : List Int) (u1 u3 : Value) : Prop where
  c1 : w.cell? ⟨gb, 1, none⟩ = some u1
  c3 : w.cell? ⟨gb, 3, none⟩ = some u3
  o1 : w.ownsRow wc.heap.size 47 2 u1 ls.length (ls.flatMap LatD.cells)
  o3 : w.ownsRow B 3 1 u3 os.length (os.flatMap intC)
  hB : wc.heap.size ≤ B
  hB2 : B ≤ w.heap.size
  far : ∀ x, u1.ownBlock = some x → x < B
  gr : wc.grownBy w (some gb)
  fz : ∀ j, w.frozen? ⟨gb, j, none⟩ = false
  hj : ∀ j, j ≠ 1 → j ≠ 3 → w.cell? ⟨gb, j, none⟩ = wc.cell? ⟨gb, j, none⟩
  l1 : ls.length = min k nl
  l3 : os.length = k - nl
  p1 : ∀ i d, ls[i]? = some d → LatB T (offL T i) M d
  p3 : ∀ i d, os[i]? = some d → OutB T (offL T (nl + i)) M d
  n3 : os = [] → u3 = .slice none 0 0
theorem TwoL.below {wc w w' : World} {gb B nl k : Nat} {T : List UInt8} {M : Int} {ls : List LatD} {os : List Int} {u1 u3 : Value} (h : TwoL wc w gb B nl k T M ls os u1 u3) (hb : Below w.heap.size w w') (hg : gb < wc.heap.size) : TwoL wc w' gb B nl k T M ls os u1 u3 := by
  have hgw : gb < w.heap.size := Nat.lt_of_lt_of_le hg h.gr.size
  exact ⟨(hb.cell (p := ⟨gb, 1, none⟩) hgw).trans h.c1, (hb.cell (p := ⟨gb, 3, none⟩) hgw).trans h.c3, own_below h.o1 hb, own_below h.o3 hb, h.hB, Nat.le_trans h.hB2 hb.size, h.far, grown_trans h.gr (gbel hb _), fun j => (hb.frozen (p := ⟨gb, j, none⟩) hgw).trans (h.fz j), fun j h1 h2 => (hb.cell (p := ⟨gb, j, none⟩) hgw).trans (h.hj j h1 h2), h.l1, h.l3, h.p1, h.p3, h.n3⟩
theorem TwoL.ok {wc w : World} {gb B nl no na ni k : Nat} {T : List UInt8} {ls : List LatD} {os : List Int} {u1 u3 : Value} (h : TwoL wc w gb B nl k T (2 * (((ni + nl + na : Nat) : Int) + 1)) ls os u1 u3) (hk : k ≤ nl + no) : ∀ i, i < k → BodyB T ni nl no na i := by
  refine bodyB_of (fun i h1 h2 => ?_) (fun i h1 h2 => ?_) (fun _ _ h => absurd h (by omega)) (by omega)
  · exact ⟨_, h.p1 i _ (List.getElem?_eq_getElem (by rw [h.l1]; omega : i < ls.length))⟩
  · exact ⟨_, h.p3 i _ (List.getElem?_eq_getElem (by rw [h.l3]; omega : i < os.length))⟩
/-- one latch more -/
theorem TwoL.lat {wc w w5 w6 : World} {gb B nl k : Nat} {T : List UInt8} {M : Int} {ls : List LatD} {os : List Int} {u1 u3 : Value} (h : TwoL wc w gb B nl k T M ls os u1 u3) (hgb : gb < wc.heap.size) (hk : k < nl) (d : LatD) (hd : LatB T (offL T k) M d) {g cap : Nat}
    (hg5 : w.grownBy w5 u1.ownBlock) (ho : w5.ownsRow wc.heap.size 47 2 (.slice (some ⟨g, 0, none⟩) (ls.length + 1) cap) (ls.length + 1) (ls.flatMap LatD.cells ++ d.cells)) (hat : wc.heap.size ≤ g) (hgl : g < w5.heap.size) (h6 : w6 = w5.setCell ⟨gb, 1, none⟩ (.slice (some ⟨g, 0, none⟩) (ls.length + 1) cap)) :
    ∃ B', TwoL wc w6 gb B' nl (k + 1) T M (ls ++ [d]) os (.slice (some ⟨g, 0, none⟩) (ls.length + 1) cap) u3 := by
  have hgw : gb < w.heap.size := Nat.lt_of_lt_of_le hgb h.gr.size
  have far1 : some gb ≠ u1.ownBlock := fun e => by have := (h.o1.lt gb e.symm).1; omega
  have hgs : w5.grownBy w6 (some gb) := by rw [h6]; exact gset _ _ _ _
  have hos : os = [] := List.eq_nil_of_length_eq_zero (by rw [h.l3]; omega)
  have hl1 : ls.length = k := by rw [h.l1]; omega
  subst hos
  have hs6 : w6.heap.size = w5.heap.size := by rw [h6]; simp [World.setCell]
  have hs5 := hg5.size
  have e5 : w5.cell? ⟨gb, 1, none⟩ = some u1 := (hg5.cell_far ⟨gb, 1, none⟩ hgw far1).trans h.c1
  have e35 : w5.cell? ⟨gb, 3, none⟩ = some u3 := (hg5.cell_far ⟨gb, 3, none⟩ hgw far1).trans h.c3
  have hgg : g ≠ gb := by omega
  refine ⟨w6.heap.size, ?_, ?_, ?_, ?_, by have := h.gr.size; omega, Nat.le_refl _, fun x hx => ?_, ?_, fun j => ?_, fun j h1 h2 => ?_, ?_, by rw [List.length_nil]; omega, ?_, fun i x hx => by simp at hx, h.n3⟩
  · rw [h6]; exact World.cell?_setCell_same (h := e5) ..
  · rw [h6]; exact (World.cell?_setCell_other (h := fun e => by cases e) ..).trans e35
  · have := ho.kept hgs (.inr (fun e => hgg (by cases e; rfl)))
    rw [List.flatMap_append, List.length_append]
    simpa using this
  · rw [h.n3 rfl]; exact World.ownsRow_nil _ _ _ _
  · have := Option.some.inj hx
    simp at this
    omega
  · exact grown_thru (h.gr) hg5 hgs (fun x hx => (h.o1.lt x hx).1)
  · rw [h6]; exact (World.frozen?_setCell _ _ _ _).trans ((hg5.frozen_far ⟨gb, j, none⟩ hgw far1).trans (h.fz j))
  · rw [h6]
    refine (World.cell?_setCell_other (h := fun e => h1 (by cases e; rfl)) ..).trans ?_
    exact (hg5.cell_far ⟨gb, j, none⟩ hgw far1).trans (h.hj j h1 h2)
  · rw [List.length_append, hl1]; simp; omega
  · exact fun i x hx => (line_next (P := fun i d => LatB T (offL T i) M d) hl1 h.p1 hd).2 i x hx
/-- one output more -/
theorem TwoL.out {wc w w5 w6 : World} {gb B nl k : Nat} {T : List UInt8} {M : Int} {ls : List LatD} {os : List Int} {u1 u3 : Value} (h : TwoL wc w gb B nl k T M ls os u1 u3) (hgb : gb < wc.heap.size) (hk : nl ≤ k) (d : Int) (hd : OutB T (offL T k) M d) {g cap : Nat}
    (hg5 : w.grownBy w5 u3.ownBlock) (ho : w5.ownsRow B 3 1 (.slice (some ⟨g, 0, none⟩) (os.length + 1) cap) (os.length + 1) (os.flatMap intC ++ intC d)) (hat : B ≤ g) (h6 : w6 = w5.setCell ⟨gb, 3, none⟩ (.slice (some ⟨g, 0, none⟩) (os.length + 1) cap)) :
    ∃ B', TwoL wc w6 gb B' nl (k + 1) T M ls (os ++ [d]) u1 (.slice (some ⟨g, 0, none⟩) (os.length + 1) cap) := by
  have hgw : gb < w.heap.size := Nat.lt_of_lt_of_le hgb h.gr.size
  have hBc := h.hB
  have far3 : some gb ≠ u3.ownBlock := fun e => by have := (h.o3.lt gb e.symm).1; omega
  have hgs : w5.grownBy w6 (some gb) := by rw [h6]; exact gset _ _ _ _
  have hl3 : os.length = k - nl := h.l3
  have hs6 : w6.heap.size = w5.heap.size := by rw [h6]; simp [World.setCell]
  have hs5 := hg5.size
  have e5 : w5.cell? ⟨gb, 3, none⟩ = some u3 := (hg5.cell_far ⟨gb, 3, none⟩ hgw far3).trans h.c3
  have e15 : w5.cell? ⟨gb, 1, none⟩ = some u1 := (hg5.cell_far ⟨gb, 1, none⟩ hgw far3).trans h.c1
  have hgg : g ≠ gb := by omega
  have h1far : u1.ownBlock = none ∨ u1.ownBlock ≠ u3.ownBlock := by
    cases hq : u1.ownBlock with
    | none => exact .inl rfl
    | some x => exact .inr (fun e => by have := h.far x hq; have := (h.o3.lt x e.symm).1; omega)
  have h1g : u1.ownBlock = none ∨ u1.ownBlock ≠ some gb := by
    cases hq : u1.ownBlock with
    | none => exact .inl rfl
    | some x => exact .inr (fun e => by have := Option.some.inj e; have := (h.o1.lt x hq).1; omega)
  refine ⟨B, ?_, ?_, ?_, ?_, h.hB, by have := h.hB2; omega, h.far, ?_, fun j => ?_, fun j h1 h2 => ?_, by rw [h.l1]; omega, by rw [List.length_append, hl3]; simp; omega, h.p1, ?_, fun e => by simp at e⟩
  · rw [h6]; exact (World.cell?_setCell_other (h := fun e => by cases e) ..).trans e15
  · rw [h6]; exact World.cell?_setCell_same (h := e5) ..
  · exact (h.o1.kept hg5 h1far).kept hgs h1g
  · have := ho.kept hgs (.inr (fun e => hgg (by cases e; rfl)))
    rw [List.flatMap_append, List.length_append]
    simpa using this
  · exact grown_thru (h.gr) hg5 hgs (fun x hx => by have := (h.o3.lt x hx).1; omega)
  · rw [h6]; exact (World.frozen?_setCell _ _ _ _).trans ((hg5.frozen_far ⟨gb, j, none⟩ hgw far3).trans (h.fz j))
  · rw [h6]
    refine (World.cell?_setCell_other (h := fun e => h2 (by cases e; rfl)) ..).trans ?_
    exact (hg5.cell_far ⟨gb, j, none⟩ hgw far3).trans (h.hj j h1 h2)
  · exact fun i x hx => (line_next (P := fun i d => OutB T (offL T (nl + i)) M d) hl3 h.p3 (by rw [show nl + (k - nl) = k by omega]; exact hd)).2 i x hx


end Go.Proofs.YtdiahnommkhkiaaDoor
