import Derived.Test.YtjbnejjjbdalaaaDoorFaK
import Derived.Deep.AppendLies
namespace Go.Proofs.YtjbnejjjbdalaaaDoor
open Go.RowKit

theorem heap_new (w : World) (o : Obj) : (w.alloc o).heap[w.heap.size]? = some o := by unfold World.alloc; simp
theorem grown_refl (w : World) (row : Option Nat) : w.grownBy w row := ⟨rfl, rfl, rfl, Nat.le_refl _, fun _ _ _ => rfl⟩
theorem grown_trans {a b c : World} {row : Option Nat} (h : a.grownBy b row) (h2 : b.grownBy c row) : a.grownBy c row :=
  ⟨h2.os.trans h.os, h2.tape.trans h.tape, h2.output.trans h.output, Nat.le_trans h.size h2.size, fun k hk hr => (h2.block k (Nat.lt_of_lt_of_le hk h.size) hr).trans (h.block k hk hr)⟩
theorem But.grown {g : Nat} {w w' : World} (h : But g w w') : w.grownBy w' (some g) := ⟨h.os, h.tape, h.output, h.size, fun k hk hn => h.block k hk (fun e => hn (by rw [e]))⟩
theorem grown_but {g : Nat} {w w' : World} (h : w.grownBy w' (some g)) : But g w w' := ⟨h.os, h.tape, h.output, h.size, fun k hk hn => h.block k hk (fun e => hn (by cases e; rfl))⟩
/-- rows of other types lie in other blocks -/
theorem own_ne {w : World} {b1 b2 s1 s2 n1 n2 : Nat} {e1 e2 : TypeId} {v1 v2 : Value} {x1 x2 : List Value} (h1 : w.ownsRow b1 e1 s1 v1 n1 x1) (h2 : w.ownsRow b2 e2 s2 v2 n2 x2) (he : e1 ≠ e2) : v2.ownBlock = none ∨ v2.ownBlock ≠ v1.ownBlock := by
  rcases h2.2 with ⟨rfl, _⟩ | ⟨g, cap, cur, rfl, _, hg, _⟩
  · exact .inl rfl
  · refine .inr (fun e => ?_)
    rcases h1.2 with ⟨rfl, _⟩ | ⟨g', cap', cur', rfl, _, hg', _⟩
    · simp [Value.ownBlock] at e
    · simp [Value.ownBlock] at e
      subst e
      rw [hg'] at hg
      simp at hg
      exact he hg.2
theorem own_of_blk {w : World} {B g n sz : Nat} {e : TypeId} {xs : List Value} (h : Blk w g e xs.toArray) (hB : B ≤ g) (hl : xs.length = n * sz) (hn : n ≤ maxLen) : w.ownsRow B e sz (.slice (some ⟨g, 0, none⟩) n n) n xs :=
  ⟨hl, .inr ⟨g, n, xs.toArray, rfl, hB, h, Nat.le_refl _, hn, by simpa using hl, by rw [← hl]; simp⟩⟩
theorem own_mono {w : World} {B B' n sz : Nat} {e : TypeId} {v : Value} {xs : List Value} (h : w.ownsRow B e sz v n xs) (hB : B' ≤ B) : w.ownsRow B' e sz v n xs := by
  refine ⟨h.1, ?_⟩
  rcases h.2 with h | ⟨g, cap, cur, h1, h2, h3⟩
  · exact .inl h
  · exact .inr ⟨g, cap, cur, h1, by omega, h3⟩
/-- a row of one's own as a row -/
theorem own_row {α : Type} {f : α → List Value} {w : World} {B n sz : Nat} {e : TypeId} {v : Value} {xs : List α} (h : w.ownsRow B e sz v n (xs.flatMap f)) (hn : n = xs.length) (hf : ∀ x, (f x).length = sz) : ∃ a c, v = .slice a n c ∧ RowAt w.heap.size w a sz (xs.map f) := by
  rcases h.2 with ⟨rfl, h0⟩ | ⟨g, cap, cur, rfl, _, hg, hc, _, hcs, ht⟩
  · refine ⟨none, 0, by rw [h0], ?_⟩
    have : xs = [] := List.length_eq_zero_iff.1 (by omega)
    subst this
    exact fun h => absurd rfl h
  · refine ⟨some ⟨g, 0, none⟩, cap, rfl, fun hne => ⟨g, 0, rfl, (Array.getElem?_eq_some_iff.1 hg).1, fun i cs hi j x hx => ?_⟩⟩
    have hcell : ∀ m y, (xs.flatMap f)[m]? = some y → w.cell? ⟨g, m, none⟩ = some y := fun m y hm => by
      rw [← ht] at hm
      have hm2 : m < n * sz := by
        have h2 := (List.getElem?_eq_some_iff.1 hm).1
        simp at h2
        omega
      rw [List.getElem?_take_of_lt hm2] at hm
      simp [World.cell?, hg]
      rw [← Array.getElem?_toList]
      exact hm
    rw [Nat.zero_add]
    apply hcell
    clear hcell ht hcs hne
    rw [List.getElem?_map] at hi
    cases hxi : xs[i]? with
    | none => rw [hxi] at hi; simp at hi
    | some y =>
      rw [hxi] at hi
      simp at hi
      subst hi
      clear hg hc hn h
      induction xs generalizing i with
      | nil => simp at hxi
      | cons z r ih =>
        have hj := (List.getElem?_eq_some_iff.1 hx).1
        rw [hf] at hj
        rw [List.flatMap_cons]
        cases i with
        | zero =>
          simp at hxi; subst hxi
          rw [List.getElem?_append_left (by rw [hf]; omega), Nat.zero_mul, Nat.zero_add]; exact hx
        | succ i =>
          rw [List.getElem?_append_right (by rw [hf, Nat.succ_mul]; omega), hf, show (i + 1) * sz + j - sz = i * sz + j by rw [Nat.succ_mul]; omega]
          exact ih i (by simpa using hxi)
theorem flat_one {α : Type} (f : α → List Value) (g : α → Value) (h : ∀ x, f x = [g x]) (l : List α) : l.flatMap f = l.map g := by
  induction l with
  | nil => rfl
  | cons x r ih => rw [List.flatMap_cons, List.map_cons, ih, h]; rfl
def ClD.val (d : ClD) : Value := .slice d.a d.cs.length d.c
def intV (x : Int) : Value := .int .i64 x
def cfA (s : ShD) (v1 v2 v3 : Value) : Array Value := #[.int .i64 s.ins, .int .i64 s.outs, .int .i64 s.regs, .int .i64 s.rows, .int .i64 s.cols, v1, v2, v3]
/-- a configuration that is being made, in a box -/
structure CbAt (base : Nat) (w : World) (cb : Nat) (s : ShD) (v1 v2 v3 : Value) (cols : List ClD) (regs : List RgD) (outs : List Int) : Prop where
  lt : cb < base
  box : Blk w cb 32 (cfA s v1 v2 v3)
  o1 : w.ownsRow base 50 1 v1 cols.length (cols.map ClD.val)
  o2 : w.ownsRow base 57 2 v2 regs.length (regs.flatMap RgD.cells)
  o3 : w.ownsRow base 3 1 v3 outs.length (outs.map intV)
  cc : ∀ d, d ∈ cols → w.ownsRow base 53 5 d.val d.cs.length (flatC d.cs)
theorem own_but {g base n sz : Nat} {w w' : World} {e : TypeId} {v : Value} {xs : List Value} (h : w.ownsRow base e sz v n xs) (hb : But g w w') (hg : g < base) : w'.ownsRow base e sz v n xs :=
  h.kept hb.grown (.inr (fun e => by have := (h.lt g e).1; omega))
theorem CbAt.but {base : Nat} {w w' : World} {cb g : Nat} {s : ShD} {v1 v2 v3 : Value} {cols : List ClD} {regs : List RgD} {outs : List Int} (h : CbAt base w cb s v1 v2 v3 cols regs outs) (hb : But g w w') (hg : g < base) (hne : cb ≠ g) : CbAt base w' cb s v1 v2 v3 cols regs outs :=
  ⟨h.lt, hb.blk h.box hne, own_but h.o1 hb hg, own_but h.o2 hb hg, own_but h.o3 hb hg, fun d hd => own_but (h.cc d hd) hb hg⟩
/-- a row that grows by itself -/
theorem CbAt.grow {base : Nat} {w w' : World} {cb : Nat} {s : ShD} {v1 v2 v3 : Value} {cols : List ClD} {regs : List RgD} {outs : List Int} (h : CbAt base w cb s v1 v2 v3 cols regs outs) {e : TypeId} {n sz : Nat} {v : Value} {xs : List Value} (hv : w.ownsRow base e sz v n xs) (hg : w.grownBy w' v.ownBlock) (h1 : e ≠ 50) (h2 : e ≠ 57) (h3 : e ≠ 3) (h4 : ∀ d, d ∈ cols → d.val.ownBlock = none ∨ d.val.ownBlock ≠ v.ownBlock) : CbAt base w' cb s v1 v2 v3 cols regs outs := by
  refine ⟨h.lt, ?_, h.o1.kept hg (own_ne hv h.o1 h1), h.o2.kept hg (own_ne hv h.o2 h2), h.o3.kept hg (own_ne hv h.o3 h3), fun d hd => (h.cc d hd).kept hg (h4 d hd)⟩
  exact (hg.block cb h.box.lt (fun e => by have := (hv.lt cb e.symm).1; have := h.lt; omega)).trans h.box
theorem CbAt.push1 {base : Nat} {w w5 : World} {cb : Nat} {s : ShD} {v1 v2 v3 : Value} {cols : List ClD} {regs : List RgD} {outs : List Int} (h : CbAt base w cb s v1 v2 v3 cols regs outs) {d : ClD} (hd : w.ownsRow base 53 5 d.val d.cs.length (flatC d.cs)) {u : Value} (hown : w5.ownsRow base 50 1 u (cols.length + 1) (cols.map ClD.val ++ [d.val])) (hg : w.grownBy w5 v1.ownBlock) : CbAt base (w5.setCell ⟨cb, 5, none⟩ u) cb s u v2 v3 (cols ++ [d]) regs outs := by
  have hB : But cb w5 (w5.setCell ⟨cb, 5, none⟩ u) := But.set _ _ _ _
  have hbx : Blk w5 cb 32 (cfA s v1 v2 v3) := (hg.block cb h.box.lt (fun e => by have := (h.o1.lt cb e.symm).1; have := h.lt; omega)).trans h.box
  refine ⟨h.lt, hbx.set 5 u, own_but ?_ hB h.lt, own_but (h.o2.kept hg (own_ne h.o1 h.o2 (by decide))) hB h.lt, own_but (h.o3.kept hg (own_ne h.o1 h.o3 (by decide))) hB h.lt, fun x hx => own_but ?_ hB h.lt⟩
  · rw [List.length_append, List.map_append]; exact hown
  · rcases List.mem_append.1 hx with hx | hx
    · exact (h.cc x hx).kept hg (own_ne h.o1 (h.cc x hx) (by decide))
    · simp at hx; subst hx
      exact hd.kept hg (own_ne h.o1 hd (by decide))
theorem CbAt.push2 {base : Nat} {w w5 : World} {cb : Nat} {s : ShD} {v1 v2 v3 : Value} {cols : List ClD} {regs : List RgD} {outs : List Int} (h : CbAt base w cb s v1 v2 v3 cols regs outs) {d : RgD} {u : Value} (hown : w5.ownsRow base 57 2 u (regs.length + 1) (regs.flatMap RgD.cells ++ d.cells)) (hg : w.grownBy w5 v2.ownBlock) : CbAt base (w5.setCell ⟨cb, 6, none⟩ u) cb s v1 u v3 cols (regs ++ [d]) outs := by
  have hB : But cb w5 (w5.setCell ⟨cb, 6, none⟩ u) := But.set _ _ _ _
  have hbx : Blk w5 cb 32 (cfA s v1 v2 v3) := (hg.block cb h.box.lt (fun e => by have := (h.o2.lt cb e.symm).1; have := h.lt; omega)).trans h.box
  refine ⟨h.lt, hbx.set 6 u, own_but (h.o1.kept hg (own_ne h.o2 h.o1 (by decide))) hB h.lt, own_but ?_ hB h.lt, own_but (h.o3.kept hg (own_ne h.o2 h.o3 (by decide))) hB h.lt, fun x hx => own_but ((h.cc x hx).kept hg (own_ne h.o2 (h.cc x hx) (by decide))) hB h.lt⟩
  rw [List.length_append, List.flatMap_append]; simpa using hown
theorem CbAt.push3 {base : Nat} {w w5 : World} {cb : Nat} {s : ShD} {v1 v2 v3 : Value} {cols : List ClD} {regs : List RgD} {outs : List Int} (h : CbAt base w cb s v1 v2 v3 cols regs outs) {x : Int} {u : Value} (hown : w5.ownsRow base 3 1 u (outs.length + 1) (outs.map intV ++ [intV x])) (hg : w.grownBy w5 v3.ownBlock) : CbAt base (w5.setCell ⟨cb, 7, none⟩ u) cb s v1 v2 u cols regs (outs ++ [x]) := by
  have hB : But cb w5 (w5.setCell ⟨cb, 7, none⟩ u) := But.set _ _ _ _
  have hbx : Blk w5 cb 32 (cfA s v1 v2 v3) := (hg.block cb h.box.lt (fun e => by have := (h.o3.lt cb e.symm).1; have := h.lt; omega)).trans h.box
  refine ⟨h.lt, hbx.set 7 u, own_but (h.o1.kept hg (own_ne h.o3 h.o1 (by decide))) hB h.lt, own_but (h.o2.kept hg (own_ne h.o3 h.o2 (by decide))) hB h.lt, own_but ?_ hB h.lt, fun x hx => own_but ((h.cc x hx).kept hg (own_ne h.o3 (h.cc x hx) (by decide))) hB h.lt⟩
  rw [List.length_append, List.map_append]; exact hown
/-- the configuration that was made -/
theorem CbAt.cn {base : Nat} {w : World} {cb : Nat} {s : ShD} {v1 v2 v3 : Value} {cols : List ClD} {regs : List RgD} {outs : List Int} (h : CbAt base w cb s v1 v2 v3 cols regs outs) (l1 : cols.length < big) (l2 : ∀ d, d ∈ cols → d.cs.length < big) (l3 : regs.length < big) (l4 : outs.length < big) : ∃ S : CnS, cfA s v1 v2 v3 = S.cells ⟨s, cols, regs, outs⟩ ∧ CnAt w.heap.size w S ⟨s, cols, regs, outs⟩ := by
  have h1 : w.ownsRow base 50 1 v1 cols.length (cols.flatMap ClD.cells) := by
    have : cols.flatMap ClD.cells = cols.map ClD.val := flat_one _ _ (fun _ => rfl) cols
    rw [this]; exact h.o1
  have h3 : w.ownsRow base 3 1 v3 outs.length (outs.flatMap intC) := by
    have : outs.flatMap intC = outs.map intV := flat_one _ _ (fun _ => rfl) outs
    rw [this]; exact h.o3
  obtain ⟨a1, c1, rfl, r1⟩ := own_row h1 rfl (fun _ => rfl)
  obtain ⟨a2, c2, rfl, r2⟩ := own_row h.o2 rfl (fun _ => rfl)
  obtain ⟨a3, c3, rfl, r3⟩ := own_row h3 rfl (fun _ => rfl)
  refine ⟨⟨a1, c1, a2, c2, a3, c3⟩, rfl, r1, fun d hd => ?_, r2, r3, l1, l2, l3, l4⟩
  obtain ⟨a, c, e, r⟩ := own_row (h.cc d hd) rfl (fun _ => rfl)
  have : d.a = a := by
    have := e
    unfold ClD.val at this
    simp at this
    exact this.1
  rw [this]; exact r

end Go.Proofs.YtjbnejjjbdalaaaDoor
