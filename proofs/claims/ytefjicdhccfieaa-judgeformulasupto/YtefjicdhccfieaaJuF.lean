import Derived.Test.YtefjicdhccfieaaJuE
namespace Go.Proofs.Ytefjicdhccfieaa
open Go.RowKit

theorem flat_ints (l : List Int) : (l.map intC).flatten = l.map (Value.int .i64) := by
  induction l with
  | nil => rfl
  | cons a r ih => rw [List.map_cons, List.flatten_cons, ih]; rfl
theorem say_lits (C : Nat) (w : World) (wb gp : Nat) (sz : Int) (F : List (List Int)) (h : WF C w wb gp sz F) (l : List Int) (hn : F.length ≤ 16777216) :
    Calls Try.prog 76 #[.pointer (some ⟨wb, 0, none⟩), .slice (some ⟨w.heap.size, 0, none⟩) l.length l.length] (w.alloc (.cells (l.map (Value.int .i64)).toArray 3)) fun e w' => e = .returned (.tuple #[]) ∧ WF C w' wb gp sz (F ++ [l]) ∧ Below C w w' := by
  obtain ⟨u, cls, h1, rfl⟩ := h
  have hb : Below w.heap.size w (w.alloc (.cells (l.map (Value.int .i64)).toArray 3)) := (Below.refl _ _).alloc (Nat.le_refl _) _
  have hn2 := heap_new w (.cells (l.map (Value.int .i64)).toArray 3)
  have hsz : (w.alloc (.cells (l.map (Value.int .i64)).toArray 3)).heap.size = w.heap.size + 1 := by simp
  have hlt := h1.lt
  have hbase := h1.base
  have hrow : RowAt (w.alloc (.cells (l.map (Value.int .i64)).toArray 3)).heap.size (w.alloc (.cells (l.map (Value.int .i64)).toArray 3)) (some ⟨w.heap.size, 0, none⟩) 1 (l.map intC) := rowAt_flat (by omega) (fun x hx => by obtain ⟨y, _, rfl⟩ := List.mem_map.1 hx; rfl) (fun m v hm => by
    rw [cell_of_row _ _ m _ _ _ hn2]
    rw [flat_ints] at hm
    simpa using hm)
  refine (say_any C _ wb gp sz u cls (h1.rest hb) ⟨some ⟨w.heap.size, 0, none⟩, l.length, l⟩ hrow (fun x hx => ?_) (by simpa using hn)).mono ?_
  · cases hx
    refine ⟨by show C ≤ w.heap.size; omega, by show w.heap.size < _; omega, by show w.heap.size ≠ wb; omega, fun e => ?_⟩
    have := (h1.own.lt _ e).2
    exact absurd this (Nat.lt_irrefl _)
  · rintro e w' ⟨rfl, ⟨u', h2, -⟩, h3, -⟩
    exact ⟨rfl, ⟨u', _, h2, by simp⟩, (hb.mono (by omega)).trans h3⟩
theorem say1 (C : Nat) (w : World) (wb gp : Nat) (sz : Int) (F : List (List Int)) (h : WF C w wb gp sz F) (x : Int) (hn : F.length ≤ 16777216) :
    Calls Try.prog 76 #[.pointer (some ⟨wb, 0, none⟩), .slice (some ⟨w.heap.size, 0, none⟩) 1 1] (w.alloc (.cells #[.int .i64 (x)] 3)) fun e w' => e = .returned (.tuple #[]) ∧ WF C w' wb gp sz (F ++ [[x]]) ∧ Below C w w' := say_lits C w wb gp sz F h [x] hn
theorem say2 (C : Nat) (w : World) (wb gp : Nat) (sz : Int) (F : List (List Int)) (h : WF C w wb gp sz F) (x y : Int) (hn : F.length ≤ 16777216) :
    Calls Try.prog 76 #[.pointer (some ⟨wb, 0, none⟩), .slice (some ⟨w.heap.size, 0, none⟩) 2 2] (w.alloc (.cells #[.int .i64 (x), .int .i64 (y)] 3)) fun e w' => e = .returned (.tuple #[]) ∧ WF C w' wb gp sz (F ++ [[x, y]]) ∧ Below C w w' := say_lits C w wb gp sz F h [x, y] hn
theorem say3 (C : Nat) (w : World) (wb gp : Nat) (sz : Int) (F : List (List Int)) (h : WF C w wb gp sz F) (x y z : Int) (hn : F.length ≤ 16777216) :
    Calls Try.prog 76 #[.pointer (some ⟨wb, 0, none⟩), .slice (some ⟨w.heap.size, 0, none⟩) 3 3] (w.alloc (.cells #[.int .i64 (x), .int .i64 (y), .int .i64 (z)] 3)) fun e w' => e = .returned (.tuple #[]) ∧ WF C w' wb gp sz (F ++ [[x, y, z]]) ∧ Below C w w' := say_lits C w wb gp sz F h [x, y, z] hn

set_option maxRecDepth 100000 in
set_option maxHeartbeats 8000000 in
theorem number_any (w : World) (wb : Nat) (sz k l : Int) (hc : w.cell? ⟨wb, 1, none⟩ = some (.int .i64 sz)) (hs : 0 ≤ sz ∧ sz ≤ 1000000) (hk : k = 0 ∨ k = 1) (hl : 0 ≤ l ∧ l ≤ 4000000) :
    Calls Try.prog 77 #[.pointer (some ⟨wb, 0, none⟩), .int .i64 (l), .int .i64 (k)] w fun e w' => e = .returned (.int .i64 (numF sz k l)) ∧ w' = w := by
  obtain ⟨ks, HKS⟩ : ∃ x, Hid (x = k * sz) := ⟨_, rfl⟩
  have hks : 0 ≤ k * sz ∧ k * sz ≤ 1000000 := by rcases hk with rfl | rfl <;> omega
  have HE : Hid (∀ r, (l % 2 = 1 → r = -(k * sz + l / 2 + 1)) → (¬ l % 2 = 1 → r = k * sz + l / 2 + 1) → r = numF sz k l) := fun r h1 h2 => by
    unfold numF
    by_cases h : l % 2 = 1
    · rw [if_pos h]; exact h1 h
    · rw [if_neg h]; exact h2 h
  have q1 : Int.tdiv l 2 = l / 2 := by rw [Int.tdiv_eq_ediv_of_nonneg hl.1]
  have q2 : Int.tmod l 2 = l % 2 := by rw [Int.tmod_eq_emod_of_nonneg hl.1]
  have hm : 0 ≤ l / 2 ∧ l / 2 ≤ 2000000 := by omega
  have hr2 : 0 ≤ l % 2 ∧ l % 2 ≤ 1 := by omega
  rw [← HKS.out] at hks HE
  have e0 : IntKind.i64.wrap (k * sz) = ks := by rw [← HKS.out]; exact wrapI _ (by omega) (by omega)
  generalize l / 2 = m at *
  generalize hr : l % 2 = r at *
  have e1 : IntKind.i64.wrap m = m := wrapI _ (by omega) (by omega)
  have e2 : IntKind.i64.wrap r = r := wrapI _ (by omega) (by omega)
  have e3 : IntKind.i64.wrap (ks + m) = ks + m := wrapI _ (by omega) (by omega)
  have e4 : IntKind.i64.wrap (ks + m + 1) = ks + m + 1 := wrapI _ (by omega) (by omega)
  have e5 : IntKind.i64.wrap (-(ks + m + 1)) = -(ks + m + 1) := wrapI _ (by omega) (by omega)
  clear hr
  by_cases h1 : r = 1
  · have hb : (r == 1) = true := beq_iff_eq.2 h1
    have HR := hidden (HE.out _ (fun _ => rfl) (fun h => absurd h1 h))
    clear h1
    go_enter Try.func77, Try.ntmps77
    go_wp2
    go_ret
    exact ⟨ret_int HR.out, rfl⟩
  · have hb : (r == 1) = false := beq_eq_false_iff_ne.2 h1
    have HR := hidden (HE.out _ (fun h => absurd h h1) (fun _ => rfl))
    clear h1
    go_enter Try.func77, Try.ntmps77
    go_wp2
    go_ret
    exact ⟨ret_int HR.out, rfl⟩
set_option maxRecDepth 100000 in
set_option maxHeartbeats 8000000 in
theorem latch_any (w : World) (wb gp : Nat) (ins i : Int) (hc : w.cell? ⟨wb, 0, none⟩ = some (.pointer (some ⟨gp, 0, none⟩))) (hg : w.cell? ⟨gp, 0, none⟩ = some (.int .i64 ins)) (h0 : 0 ≤ ins ∧ ins ≤ 60000) (hi : 0 ≤ i ∧ i ≤ 1000000) :
    Calls Try.prog 78 #[.pointer (some ⟨wb, 0, none⟩), .int .i64 (i)] w fun e w' => e = .returned (.int .i64 (2 * (1 + ins + i))) ∧ w' = w := by
  have e1 : IntKind.i64.wrap (1 + ins) = 1 + ins := wrapI _ (by omega) (by omega)
  have e2 : IntKind.i64.wrap (1 + ins + i) = 1 + ins + i := wrapI _ (by omega) (by omega)
  have e3 : IntKind.i64.wrap (2 * (1 + ins + i)) = 2 * (1 + ins + i) := wrapI _ (by omega) (by omega)
  go_enter Try.func78, Try.ntmps78
  go_wp2
  go_ret
  exact ⟨rfl, rfl⟩

end Go.Proofs.Ytefjicdhccfieaa
