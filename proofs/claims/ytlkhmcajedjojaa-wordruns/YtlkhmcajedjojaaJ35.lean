import Derived.Test.YtlkhmcajedjojaaJ34
namespace Go.Proofs.Ytlkhmcajedjojaa
open Go.RowKit

theorem grown_setCell (w : World) (g j : Nat) (u : Value) : w.grownBy (w.setCell ⟨g, j, none⟩ u) (some g) :=
  ⟨rfl, rfl, rfl, by simp, fun k _ hk => heap_setCell_other w ⟨g, j, none⟩ k u (fun e => hk (by simp [e]))⟩
theorem grown_drew (a : World) (row : Option Nat) : a.grownBy a.drew row := ⟨rfl, rfl, rfl, Nat.le_refl _, fun _ _ _ => rfl⟩
theorem grown_drewN {a b : World} {row : Option Nat} (h : a.grownBy b row) (n : Nat) : a.grownBy (b.drewN n) row := ⟨h.os, h.tape, h.output, h.size, h.block⟩
/-- a machine in memory -/
structure WmAt (C : Nat) (w : World) (mk nbk vb rg wb : Nat) (S : NetS) (N : NetD) (vals regs : List Nat) (ms : List MB) : Prop where
  m0 : w.cell? ⟨mk, 0, none⟩ = some (.pointer (some ⟨nbk, 0, none⟩))
  m1 : w.cell? ⟨mk, 1, none⟩ = some (.slice (some ⟨vb, 0, none⟩) vals.length vals.length)
  m2 : w.cell? ⟨mk, 2, none⟩ = some (.slice (some ⟨rg, 0, none⟩) N.regs.length N.regs.length)
  m3 : w.cell? ⟨mk, 3, none⟩ = some (.slice (some ⟨wb, 0, none⟩) N.mems.length N.mems.length)
  mlt : mk < w.heap.size
  blt : nbk < w.heap.size
  box : ∀ j, w.cell? ⟨nbk, j, none⟩ = (NetS.cells S N)[j]?
  vrow : w.heap[vb]? = some (.cells (vals.map uV).toArray 33 (0, 0))
  rrow : w.heap[rg]? = some (.cells (regs.map uV).toArray 33 (0, 0))
  wrow : w.heap[wb]? = some (.cells (ms.map MB.val).toArray 34 (0, 0))
  mem : MsIn C w ms
theorem lt_of_row {w : World} {g : Nat} {o : Obj} (h : w.heap[g]? = some o) : g < w.heap.size := (Array.getElem?_eq_some_iff.1 h).1
theorem row_cell {w : World} {g i x : Nat} {l : List Nat} (h : w.heap[g]? = some (.cells (l.map uV).toArray 33 (0, 0))) (hx : l[i]? = some x) : w.cell? ⟨g, i, none⟩ = some (.int .u64 (x : Int)) := by
  rw [cell_of_row w g i _ _ _ h]
  simp [hx, uV]
/-- the blocks of a machine are not one -/
structure Apart (B mk nbk vb rg wb : Nat) (ms : List MB) : Prop where
  v : B ≤ vb
  r : B ≤ rg
  mv : mk ≠ vb
  mr : mk ≠ rg
  nv : nbk ≠ vb
  nr : nbk ≠ rg
  rv : rg ≠ vb
  wv : wb ≠ vb
  wr : wb ≠ rg
  msv : ∀ m, m ∈ ms → m.b ≠ vb
  msr : ∀ m, m ∈ ms → m.b ≠ rg
  msm : ∀ m, m ∈ ms → m.b ≠ mk
  msn : ∀ m, m ∈ ms → m.b ≠ nbk
  msw : ∀ m, m ∈ ms → m.b ≠ wb
  msB : ∀ m, m ∈ ms → B ≤ m.b

end Go.Proofs.Ytlkhmcajedjojaa
