import Derived.Test.YtlaljeobdddegaaLuB
import Derived.Test.YtlaljeobdddegaaLuC
import Derived.OwnWalk
import Derived.Deep.AppendLies
import Derived.Laws.OwnMore
namespace Go.Proofs.Ytlaljeobdddegaa.L
open Go.RowKit

def bV (b : Bool) : Value := .bool b
theorem add0 (g j : Nat) : ((⟨g, 0, none⟩ : Addr).add j) = ⟨g, j, none⟩ := by unfold Addr.add; split <;> simp_all
theorem heap_new (w : World) (o : Obj) : (w.alloc o).heap[w.heap.size]? = some o := by unfold World.alloc; simp
theorem ownRow {α : Type} {g : α → Value} {w : World} {C : Nat} {e : TypeId} {v : Value} {n : Nat} {xs : List α} (h : w.ownsRow C e 1 v n (xs.map g)) :
    n = xs.length ∧ ∃ aw cw, v = .slice aw n cw ∧ RowAt w.heap.size w aw 1 (xs.map fun x => [g x]) := by
  have hl : n = xs.length := by have := h.1; simp at this; omega
  refine ⟨hl, ?_⟩
  rcases h.2 with ⟨h0, h1⟩ | ⟨gg, cap, cur, hv, h1⟩
  · refine ⟨none, 0, by rw [h0, h1], fun he => ?_⟩
    exfalso; apply he; have : xs.length = 0 := by omega
    rw [List.length_eq_zero_iff.1 this]; rfl
  · refine ⟨some ⟨gg, 0, none⟩, cap, hv, fun _ => ⟨gg, 0, rfl, ?_, ?_⟩⟩
    · exact (h.lt gg (by rw [hv]; rfl)).2
    · intro i cs hi j x hj
      have hc := h.cells (g := gg) (by rw [hv]; rfl) i
      rw [List.getElem?_map] at hi
      cases hx : xs[i]? with
      | none => rw [hx] at hi; cases hi
      | some y =>
        rw [hx] at hi
        have e : [g y] = cs := by simpa using hi
        subst e
        cases j with
        | succ j => simp at hj
        | zero =>
          have ex : g y = x := by simpa using hj
          subst ex
          have := hc (g y) (by rw [List.getElem?_map, hx]; rfl)
          rw [add0] at this
          simpa using this
theorem grown_plain {V wr w5 : World} (h : Below V.heap.size V wr) {o : Obj} {e : TypeId} {size n : Nat} {v : Value} {xs : List Value} (HO : wr.ownsRow V.heap.size e size v n xs) (hg : (wr.alloc o).grownBy w5 v.ownBlock) : Below V.heap.size V w5 :=
  (h.alloc h.size o).grown hg (Nat.le_trans h.size (by simp)) (fun k hk => (HO.lt k hk).1)
/-- two rows that are not one -/
def Sep (a b : Value) : Prop := a.ownBlock = none ∨ b.ownBlock = none ∨ a.ownBlock ≠ b.ownBlock
theorem Sep.other {a b : Value} (h : Sep a b) : b.ownBlock = none ∨ b.ownBlock ≠ a.ownBlock := by
  rcases h with h | h | h
  · rw [h]; cases hb : b.ownBlock with
    | none => exact .inl rfl
    | some x => exact .inr (by simp)
  · exact .inl h
  · exact .inr (Ne.symm h)
theorem Sep.symm {a b : Value} (h : Sep a b) : Sep b a := by
  rcases h with h | h | h
  · exact .inr (.inl h)
  · exact .inl h
  · exact .inr (.inr (Ne.symm h))
theorem Sep.new {w : World} {C : Nat} {e : TypeId} {n : Nat} {xs : List Value} {a b : Value} (h : Sep a b) (hb : w.ownsRow C e 1 b n xs) {g H m cap : Nat} (hg : a.ownBlock = some g ∨ g = H) (hH : w.heap.size ≤ H) : Sep (.slice (some ⟨g, 0, none⟩) m cap) b := by
  cases hbb : b.ownBlock with
  | none => exact .inr (.inl hbb)
  | some x =>
    refine .inr (.inr ?_)
    rw [hbb]
    show some g ≠ some x
    rcases hg with hg | hg
    · rcases h with h | h | h
      · rw [hg] at h; cases h
      · rw [hbb] at h; cases h
      · rw [hg, hbb] at h; exact h
    · have := (hb.lt x hbb).2
      intro e; cases e; omega
theorem own_below {w w' : World} {B e size n : Nat} {v : Value} {xs : List Value} (h : w.ownsRow B e size v n xs) (hb : Below w.heap.size w w') : w'.ownsRow B e size v n xs :=
  h.kept (row := none) ⟨hb.os, hb.tape, hb.output, hb.size, fun k hk _ => hb.block k hk⟩ (by
    cases hv : v.ownBlock with
    | none => exact .inl rfl
    | some x => exact .inr (by simp))
theorem own_mono {w : World} {C C' e size n : Nat} {v : Value} {xs : List Value} (h : w.ownsRow C e size v n xs) (hc : C' ≤ C) : w.ownsRow C' e size v n xs := by
  refine ⟨h.1, ?_⟩
  rcases h.2 with hn | ⟨g, cap, cur, rfl, hg, rest⟩
  · exact .inl hn
  · exact .inr ⟨g, cap, cur, rfl, Nat.le_trans hc hg, rest⟩

theorem grown_refl (w : World) (row : Option Nat) : w.grownBy w row := ⟨rfl, rfl, rfl, Nat.le_refl _, fun _ _ _ => rfl⟩
theorem grown_trans {a b c : World} {row : Option Nat} (h : a.grownBy b row) (h2 : b.grownBy c row) : a.grownBy c row :=
  ⟨h2.os.trans h.os, h2.tape.trans h.tape, h2.output.trans h.output, Nat.le_trans h.size h2.size, fun k hk hr => (h2.block k (Nat.lt_of_lt_of_le hk h.size) hr).trans (h.block k hk hr)⟩
theorem below_grown {wc w' : World} {row : Option Nat} {C : Nat} (hg : wc.grownBy w' row) (hC : C ≤ wc.heap.size) (hr : ∀ k, row = some k → C ≤ k) : Below C wc w' :=
  (Below.refl C wc).grown hg hC hr

theorem set_mid {α : Type} (a : List α) (x y : α) (r : List α) : (a ++ x :: r).set a.length y = a ++ y :: r := by
  induction a with
  | nil => rfl
  | cons h t ih => simp only [List.cons_append, List.length_cons, List.set_cons_succ, ih]
theorem set_next (a b : List Bool) (k : Nat) (y : Bool) (ha : a.length = k) (hb : k < b.length) : ((a ++ b.drop k).map bV).set k (.bool y) = (a ++ [y] ++ b.drop (k + 1)).map bV := by
  have := set_mid (a.map bV) (bV b[k]) (.bool y) ((b.drop (k + 1)).map bV)
  rw [List.length_map, ha] at this
  rw [List.drop_eq_getElem_cons hb, List.map_append, List.map_cons, this, List.map_append, List.map_append, List.append_assoc]
  rfl
theorem none_below {w w' : World} (h : w.grownBy w' none) : Below w.heap.size w w' := ⟨h.os, h.tape, h.output, h.size, fun k hk => h.block k hk (by simp)⟩
theorem info_bool0 : (Try.prog.info? 4).map (fun i => (i.zero, i.size, i.bytes)) = some (some (.bool false), 1, 1) := by kernel_rfl
theorem info_bool : ∃ i, Try.prog.info? 4 = some i ∧ i.zero = some (.bool false) ∧ i.size = 1 ∧ i.bytes = 1 := by
  have h := info_bool0
  cases hi : Try.prog.info? 4 with
  | none => rw [hi] at h; cases h
  | some i => rw [hi] at h; simp at h; exact ⟨i, rfl, h.1, h.2.1, h.2.2⟩
theorem made_false (n : Nat) : (madeCells (Value.bool false).cells (n * 1)).toList = (List.replicate n false).map bV := by
  rw [Nat.mul_one]
  apply List.ext_getElem?
  intro i
  by_cases h : i < n
  · simp [madeCells, Value.cells, bV, h, Nat.mod_one]
  · simp [madeCells, Value.cells, bV, h]
/-- a cell of a row of booleans -/
theorem rowB {B : Nat} {w : World} {a : Option Addr} {l : List Bool} (h : RowAt B w a 1 (l.map boolC)) {i : Nat} {x : Bool} (hx : l[i]? = some x) : ∃ b o, a = some ⟨b, o, none⟩ ∧ b < B ∧ w.cell? ⟨b, o + i, none⟩ = some (.bool x) := by
  obtain ⟨b, o, ha, hlt, hc⟩ := h.el hx
  refine ⟨b, o, ha, hlt, ?_⟩
  have := hc 0 (.bool x) rfl
  simpa using this
theorem info_sl0 : (Try.prog.info? 30).map (fun i => (i.zero, i.size, i.bytes)) = some (some (.slice none 0 0), 1, 24) := by kernel_rfl
theorem info_sl : ∃ i, Try.prog.info? 30 = some i ∧ i.zero = some (.slice none 0 0) ∧ i.size = 1 ∧ i.bytes = 24 := by
  have h := info_sl0
  cases hi : Try.prog.info? 30 with
  | none => rw [hi] at h; cases h
  | some i => rw [hi] at h; simp at h; exact ⟨i, rfl, h.1, h.2.1, h.2.2⟩

def inRow (n : Nat) (row : List Bool) : List Bool := (List.range n).map fun i => row[i]?.getD false
theorem inRow_length (n : Nat) (row : List Bool) : (inRow n row).length = n := by unfold inRow; simp
theorem inRow_next (n : Nat) (row : List Bool) : inRow (n + 1) row = inRow n row ++ [row[n]?.getD false] := by unfold inRow; rw [List.range_succ, List.map_append]; rfl
/-- a slice of booleans -/
def BS (w : World) (v : Value) (l : List Bool) : Prop := (v = .slice none 0 0 ∧ l = []) ∨ ∃ b o c, v = .slice (some ⟨b, o, none⟩) l.length c ∧ b < w.heap.size ∧ ∀ (i : Nat) (x : Bool), l[i]? = some x → w.cell? ⟨b, o + i, none⟩ = some (.bool x)
theorem BS.to {w w' : World} {v : Value} {l : List Bool} (h : BS w v l) (hb : Below w.heap.size w w') : BS w' v l := by
  rcases h with h | ⟨b, o, c, hv, hlt, hc⟩
  · exact .inl h
  · exact .inr ⟨b, o, c, hv, Nat.lt_of_lt_of_le hlt hb.size, fun i x hx => (hb.cell (p := ⟨b, o + i, none⟩) hlt).trans (hc i x hx)⟩
theorem BS.of {w : World} {C n : Nat} {v : Value} {l : List Bool} (h : w.ownsRow C 4 1 v n (l.map bV)) : BS w v l := by
  have hl : n = l.length := by have := h.1; simp at this; omega
  rcases h.2 with ⟨h0, h1⟩ | ⟨g, cap, cur, hv, h1⟩
  · exact .inl ⟨h0, List.eq_nil_of_length_eq_zero (by omega)⟩
  · refine .inr ⟨g, 0, cap, by rw [hv, hl], (h.lt g (by rw [hv]; rfl)).2, fun i x hx => ?_⟩
    have := h.cells (g := g) (by rw [hv]; rfl) i (.bool x) (by rw [List.getElem?_map, hx]; rfl)
    rw [add0] at this
    simpa using this
theorem BS.row {w : World} {v : Value} {l : List Bool} (h : BS w v l) : ∃ a c, v = .slice a l.length c ∧ RowAt w.heap.size w a 1 (l.map boolC) := by
  rcases h with ⟨rfl, rfl⟩ | ⟨b, o, c, hv, hlt, hc⟩
  · exact ⟨none, 0, rfl, rowAt_nil⟩
  · refine ⟨_, c, hv, fun _ => ⟨b, o, rfl, hlt, fun i cs hi j x hx => ?_⟩⟩
    rw [List.getElem?_map] at hi
    cases hy : l[i]? with
    | none => rw [hy] at hi; cases hi
    | some y =>
      rw [hy] at hi
      have e : [Value.bool y] = cs := by simpa [boolC] using hi
      subst e
      cases j with
      | succ j => simp at hx
      | zero =>
        have ex : Value.bool y = x := by simpa using hx
        subst ex
        simpa using hc i y hy

theorem wpList_append_any {P : Program} (w : World) {ops : Array Oper} {rest : List Oper} {o : Oper} {a : Act} {Q : Exit → Act → World → Prop} (hgd : o.guard = none) (s x : Operand) (t : TypeId)
    (ho : o.op = .call { callee := .builtin .append, args := #[s, x], argTypes := #[t, t] })
    (base : Nat) (e : TypeId) (i : TypeInfo) (z : Value) (bytes : Nat) (ht : P.underlying t = some (.slice e)) (hi : P.info? e = some i) (hz : i.zero = some z)
    (hsize : i.size = 1) (hby : i.bytes = bytes) (hzs : z.cells.size = 1)
    (v : Value) (n : Nat) (xs : List Value) (hs : a.eval s = v) (hown : w.ownsRow base e 1 v n xs)
    (xv : Value) (l : List Bool) (hx : a.eval x = xv) (hb : BS w xv l)
    (h63 : n + l.length ≤ maxLen) (hbytes : (n + l.length) * bytes ≤ 140737488355328) (hbase : base ≤ w.heap.size)
    (h : ∀ v' w', w'.ownsRow base e 1 v' (n + l.length) (xs ++ l.map bV) → w.grownBy w' v.ownBlock → wpList P ops Q rest (a.put o.dst v') w') :
    wpList P ops Q (o :: rest) a w := by
  rcases hb with ⟨rfl, rfl⟩ | ⟨b, off, c, rfl, hlt, hc⟩
  · refine wpList_plain hgd fun K hK => ?_
    have hr := run_append_owned_none (P := P) w base t o.type e i 1 ht hi v n xs hown
    unfold Oper.wp execOp
    simp only [ho, resolve, invoke, builtin, Sem.run_bind, Sem.run_pure, Result.andThen_ok, List.map_toArray, List.map_cons, List.map_nil, hs, hx, hr]
    exact hK _ _ (h v w (by simpa using hown) (World.grownBy.refl _ _))
  · refine wpList_append_own_at w hgd s x t ho base e i z 1 bytes ht hi hz hsize hby hzs (by decide) v n xs hs hown ⟨b, off, none⟩ l.length c (l.map bV) hx (by simp) ?_ ?_ h63 hbytes hbase ?_
    · intro j u hu
      rw [List.getElem?_map] at hu
      cases hl : l[j]? with
      | none => rw [hl] at hu; cases hu
      | some y =>
        rw [hl] at hu
        have e : Value.bool y = u := by simpa [bV] using hu
        subst e
        have e2 : (⟨b, off, none⟩ : Addr).add j = ⟨b, off + j, none⟩ := by unfold Addr.add; split <;> simp_all
        rw [e2]; exact hc j y hl
    · intro u hu
      obtain ⟨y, _, rfl⟩ := List.mem_map.1 hu
      rfl
    · intro v' w' h1 h2 _ _
      exact h v' w' h1 h2

theorem grown_bare {V wr w5 : World} (h : Below V.heap.size V wr) {e : TypeId} {size n : Nat} {v : Value} {xs : List Value} (HO : wr.ownsRow V.heap.size e size v n xs) (hg : wr.grownBy w5 v.ownBlock) : Below V.heap.size V w5 :=
  h.grown hg h.size (fun k hk => (HO.lt k hk).1)

/-- a row of a trace -/
structure TR where
  a : Option Addr
  c : Nat
  l : List Bool
def TR.cells (t : TR) : List Value := [.slice t.a t.l.length t.c]
structure TrAt (B : Nat) (w : World) (a : Option Addr) (trs : List TR) : Prop where
  row : RowAt B w a 1 (trs.map TR.cells)
  each : ∀ t, t ∈ trs → RowAt B w t.a 1 (t.l.map boolC)
  len : trs.length ≤ 5864062014805
theorem TrAt.to {B : Nat} {w w' : World} {a : Option Addr} {trs : List TR} (h : TrAt B w a trs) (hb : Below B w w') : TrAt B w' a trs := ⟨h.row.to hb, fun t ht => (h.each t ht).to hb, h.len⟩
theorem TrAt.mono {B B' : Nat} {w : World} {a : Option Addr} {trs : List TR} (h : TrAt B w a trs) (hb : B ≤ B') : TrAt B' w a trs := ⟨h.row.mono hb, fun t ht => (h.each t ht).mono hb, h.len⟩
/-- a row that is told -/
structure RD where
  v : Value
  l : List Bool
/-- they lie in other blocks -/
def Far (a b : Value) : Prop := ∀ x, a.ownBlock = some x → b.ownBlock ≠ some x
theorem BS.blk {w : World} {v : Value} {l : List Bool} (h : BS w v l) : ∀ x, v.ownBlock = some x → x < w.heap.size := by
  intro x hx
  rcases h with ⟨rfl, _⟩ | ⟨b, o, c, rfl, hlt, _⟩
  · cases hx
  · cases hx; exact hlt
theorem BS.kept {w w' : World} {v : Value} {l : List Bool} {row : Option Nat} (h : BS w v l) (hg : w.grownBy w' row) (hne : ∀ x, row = some x → v.ownBlock ≠ some x) : BS w' v l := by
  rcases h with h | ⟨b, o, c, rfl, hlt, hc⟩
  · exact .inl h
  · refine .inr ⟨b, o, c, rfl, Nat.lt_of_lt_of_le hlt hg.size, fun i x hx => ?_⟩
    refine (World.cell?_of_block (w := w) (a := ⟨b, o + i, none⟩) (hg.block b hlt ?_)).trans (hc i x hx)
    intro e
    exact hne b e.symm rfl
theorem Far.new {w : World} {a b : Value} {l : List Bool} (h : Far a b) (hb : BS w b l) {g H m cap : Nat} (hg : a.ownBlock = some g ∨ g = H) (hH : w.heap.size ≤ H) : Far (.slice (some ⟨g, 0, none⟩) m cap) b := by
  intro x hx
  have e : g = x := by cases hx; rfl
  subst e
  rcases hg with hg | hg
  · exact h g hg
  · intro hb2
    have := hb.blk g hb2
    omega
theorem far_own {w w' : World} {C e e' n m C' : Nat} {a b : Value} {xs ys : List Value} (ha : w.ownsRow C e 1 a n xs) (hb : w'.ownsRow C' e' 1 b m ys) (hC : w.heap.size ≤ C') : Far a b := by
  intro x hx hy
  have h1 := (ha.lt x hx).2
  have h2 := (hb.lt x hy).1
  omega


end Go.Proofs.Ytlaljeobdddegaa.L
