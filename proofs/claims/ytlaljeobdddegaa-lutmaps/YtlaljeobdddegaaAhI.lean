import Derived.Test.YtlaljeobdddegaaAhH
namespace Go.Proofs.Ytlaljeobdddegaa
open Go.RowKit

theorem take_snoc {α : Type} {l : List α} {k : Nat} {x : α} (h : l[k]? = some x) : l.take (k + 1) = l.take k ++ [x] := by
  rw [List.take_add_one, h]; rfl
theorem info_int1 : (Try.prog.info? 3).map (fun i => (i.zero, i.size, i.bytes)) = some (some (.int .i64 0), 1, 8) := by kernel_rfl
theorem info_int : ∃ i, Try.prog.info? 3 = some i ∧ i.zero = some (.int .i64 0) ∧ i.size = 1 ∧ i.bytes = 8 := by
  have h := info_int1
  cases hi : Try.prog.info? 3 with
  | none => rw [hi] at h; cases h
  | some i => rw [hi] at h; simp at h; exact ⟨i, rfl, h.1, h.2.1, h.2.2⟩
theorem info_lat0 : (Try.prog.info? 45).map (fun i => (i.zero, i.size, i.bytes)) = some (some (.agg #[.int .i64 0, .bool false]), 2, 16) := by kernel_rfl
theorem info_lat : ∃ i, Try.prog.info? 45 = some i ∧ i.zero = some (.agg #[.int .i64 0, .bool false]) ∧ i.size = 2 ∧ i.bytes = 16 := by
  have h := info_lat0
  cases hi : Try.prog.info? 45 with
  | none => rw [hi] at h; cases h
  | some i => rw [hi] at h; simp at h; exact ⟨i, rfl, h.1, h.2.1, h.2.2⟩
theorem alH (w : World) (o : Obj) (row : Option Nat) : w.grownBy (w.alloc o) row := ⟨rfl, rfl, rfl, by simp, fun k hk _ => heap_alloc_old w o hk⟩
theorem thruH {a b c d : World} {x : Nat} {row : Option Nat} (h1 : a.grownBy b (some x)) (h2 : b.grownBy c row) (h3 : c.grownBy d (some x)) (hr : ∀ y, row = some y → a.heap.size ≤ y) : a.grownBy d (some x) :=
  ⟨h3.os.trans (h2.os.trans h1.os), h3.tape.trans (h2.tape.trans h1.tape), h3.output.trans (h2.output.trans h1.output), Nat.le_trans h1.size (Nat.le_trans h2.size h3.size), fun k hk hne => by
    have s1 := h1.size
    have s2 := h2.size
    rw [h3.block k (by omega) hne, h2.block k (by omega) (fun e => by have := hr k e.symm; omega), h1.block k hk hne]⟩
/-- the closure, by the list of the new literals -/
theorem ren_lits (w : World) (nb tg n : Nat) (lits : List Int) (hbox : w.cell? ⟨nb, 0, none⟩ = some (.slice (some ⟨tg, 0, none⟩) n n)) (hn : n ≤ 60000) (hT : ∀ v, v < n → w.cell? ⟨tg, v, none⟩ = some (.int .i64 (lits.getD v 0)) ∧ 0 ≤ lits.getD v 0 ∧ lits.getD v 0 ≤ 4000000) (l : Int) (h0 : 0 ≤ l) (h1 : l < 2 * (n : Int)) : Calls Try.prog 50 #[.int .i64 l, .pointer (some ⟨nb, 0, none⟩)] w fun e w' => e = .returned (.int .i64 (renL lits l)) ∧ w' = w := by
  obtain ⟨hc, hx0, hx1⟩ := hT (l / 2).toNat (by omega)
  exact ren_any w nb tg n (l / 2).toNat (lits.getD (l / 2).toNat 0) l hbox (by omega) h0 rfl (by omega) hc hx0 (by omega)

end Go.Proofs.Ytlaljeobdddegaa
