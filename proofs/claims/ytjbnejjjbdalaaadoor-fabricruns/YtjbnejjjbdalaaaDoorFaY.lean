import Derived.Test.YtjbnejjjbdalaaaDoorFaX
import Derived.Laws.CopyOwn
import Derived.Lib.SliceRun
import Derived.Deep.RegionHeldLaw
namespace Go.Proofs.YtjbnejjjbdalaaaDoor
open Go.RowKit

theorem grown_setCell (w : World) (g j : Nat) (u : Value) : w.grownBy (w.setCell ⟨g, j, none⟩ u) (some g) :=
  ⟨rfl, rfl, rfl, by simp, fun k _ hk => heap_setCell_other w ⟨g, j, none⟩ k u (fun e => hk (by simp [e]))⟩
theorem setCells_row {t : TypeId} (g : Nat) : ∀ (vs cur : List Value) (o : Nat) (w : World), w.heap[g]? = some (.cells cur.toArray t (0, 0)) → o + vs.length ≤ cur.length →
    (w.setCells g o vs).heap[g]? = some (.cells (splice cur o vs).toArray t (0, 0)) ∧ w.grownBy (w.setCells g o vs) (some g)
  | [], cur, o, w, hg, _ => by
    refine ⟨?_, grown_refl _ _⟩
    show w.heap[g]? = _
    rw [hg]; simp [splice]
  | v :: r, cur, o, w, hg, hl => by
    have hl' : o + r.length + 1 ≤ cur.length := by simpa [Nat.add_assoc] using hl
    have h1 : (w.setCell ⟨g, o, none⟩ v).heap[g]? = some (.cells (cur.set o v).toArray t (0, 0)) := by
      rw [heap_setCell_same w g o _ t v hg]; simp
    obtain ⟨h2, h3⟩ := setCells_row g r (cur.set o v) (o + 1) _ h1 (by simp; omega)
    refine ⟨?_, grown_trans (grown_setCell w g o v) h3⟩
    show ((w.setCell ⟨g, o, none⟩ v).setCells g (o + 1) r).heap[g]? = _
    rw [h2]
    have e1 : (cur.set o v).take (o + 1) = cur.take o ++ [v] := by
      rw [take_next _ o v (by simp [List.getElem?_set]; omega), List.take_set_of_le (Nat.le_refl _)]
    have e2 : (cur.set o v).drop (o + 1 + r.length) = cur.drop (o + (r.length + 1)) := by
      rw [List.drop_set_of_lt (by omega)]; congr 1; omega
    unfold splice
    rw [e1, e2]
    simp

theorem run_clear_grown {P : Program} {w : World} (t e ty : TypeId) (i : TypeInfo) (z : Value) (ht : P.underlying t = some (.slice e)) (hi : P.info? e = some i) (hzi : i.zero = some z) (hz : z.cells = #[z]) (h1 : z.oneCell' = true)
    (dp : Option Addr) (n c : Nat) (g off : Nat) (cur : List Value) (T : TypeId) (hg : w.heap[g]? = some (.cells cur.toArray T (0, 0))) (hpos : 0 < n → dp = some ⟨g, off, none⟩) (hfit : off + n ≤ cur.length) :
    ∃ w', (Builtin.clear_ #[t] ty #[.slice dp n c]).run P w = .ok (.tuple #[]) w' ∧ w'.heap[g]? = some (.cells (splice cur off (List.replicate n z)).toArray T (0, 0)) ∧ w.grownBy w' (some g) := by
  by_cases h0 : n = 0
  · subst h0
    refine ⟨w, ?_, by simpa [splice] using hg, grown_refl _ _⟩
    cases dp <;> simp [Builtin.clear_, run_underlying ht]
  · have hp := hpos (by omega)
    subst hp
    have hv : ∀ w, (zeroValue e).run P w = .ok z w := by
      intro w; simp [zeroValue, typeInfo, hi, hzi]
    have hr := Lib.run_clear_slice (P := P) w t e ty z ht hv hz h1 g off n c (by omega)
      (by
        intro j hj
        rw [cell_of_row w g (off + j) _ _ _ hg]
        have : off + j < cur.length := by omega
        simp [this])
      (by
        intro j _
        exact frozen_of_row w g (off + j) _ _ hg)
    obtain ⟨h2, h3⟩ := setCells_row g (List.replicate n z) cur off w hg (by simpa using hfit)
    exact ⟨_, hr, h2, h3⟩

theorem wpList_clear_grown {P : Program} {w : World} {ops : Array Oper} {rest : List Oper} {o : Oper} {a : Act} {Q : Exit → Act → World → Prop} (hgd : o.guard = none) (d : Operand) (t : TypeId)
    (ho : o.op = .call { callee := .builtin .clear, args := #[d], argTypes := #[t] }) (e : TypeId) (i : TypeInfo) (z : Value) (ht : P.underlying t = some (.slice e)) (hi : P.info? e = some i) (hzi : i.zero = some z) (hz : z.cells = #[z]) (h1 : z.oneCell' = true)
    (dp : Option Addr) (n c : Nat) (hd : a.eval d = .slice dp n c) (g off : Nat) (cur : List Value) (T : TypeId) (hg : w.heap[g]? = some (.cells cur.toArray T (0, 0))) (hpos : 0 < n → dp = some ⟨g, off, none⟩) (hfit : off + n ≤ cur.length)
    (h : ∀ w', Hid (w'.heap[g]? = some (.cells (splice cur off (List.replicate n z)).toArray T (0, 0))) → w.grownBy w' (some g) → wpList P ops Q rest (a.put o.dst (.tuple #[])) w') :
    wpList P ops Q (o :: rest) a w := by
  refine wpList_plain hgd fun K hK => ?_
  obtain ⟨w', hrun, h2, h3⟩ := run_clear_grown (P := P) (w := w) t e o.type i z ht hi hzi hz h1 dp n c g off cur T hg hpos hfit
  unfold Oper.wp
  simp [execOp, ho, resolve, invoke, builtin, hd, hrun, Result.andThen]
  exact hK _ _ (h w' h2 h3)


theorem splice_b8 (a : List Bool) (k : Nat) (b : List Bool) : splice (a.map b8) k (b.map b8) = (splice a k b).map b8 := by
  unfold splice; simp
theorem rep_b8 (n : Nat) : List.replicate n (Value.int .u8 0) = (List.replicate n false).map b8 := by
  rw [List.map_replicate]; rfl
theorem info_u8 : ∃ i, Tryd.prog.info? 5 = some i ∧ i.zero = some (.int .u8 0) ∧ i.size = 1 ∧ i.bytes = 1 := by
  have h : (Tryd.prog.info? 5).map (fun i => (i.zero, i.size, i.bytes)) = some (some (.int .u8 0), 1, 1) := by kernel_rfl
  cases hi : Tryd.prog.info? 5 with
  | none => rw [hi] at h; cases h
  | some i => rw [hi] at h; simp only [Option.map_some, Option.some.injEq, Prod.mk.injEq] at h; exact ⟨i, rfl, h.1, h.2.1, h.2.2⟩
/-- the columns one after the other, each told from the one before -/
def colsC (v : List Bool) (cs : List ClD) : List Bool := cs.foldl (fun v d => colV v d.cs) v

end Go.Proofs.YtjbnejjjbdalaaaDoor
