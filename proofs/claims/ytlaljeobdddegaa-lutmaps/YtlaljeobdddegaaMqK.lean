import Derived.Test.YtlaljeobdddegaaMqJ
namespace Go.Proofs.Ytlaljeobdddegaa
open Go.RowKit Mp

theorem But.cell {g : Nat} {w w' : World} (h : But g w w') {p : Addr} {v : Value} (hv : w.cell? p = some v) (hne : p.block ≠ g) : w'.cell? p = some v :=
  h.grown.cell hv (by intro e; exact hne (Option.some.inj e))
theorem dst_sl (wx : World) (g p : Nat) (hp : p ≤ 3) : (Instr.sliceAt 110 (.pointer (some ⟨g, 0, none⟩)) (some (.int .i64 ((p : Int) + 1))) none none).run Try.prog wx = .ok (dstV g p) wx := by
  rw [run_sliceAt_array_l wx _ _ arr4 .i64 ((p : Int) + 1) (by omega) (by rw [arr4l]; omega), arr4s]
  show Result.ok (slicedAt _ ((p : Int) + 1).toNat _ _ 1) wx = _
  rw [arr4l, show ((p : Int) + 1).toNat = p + 1 by omega]
  unfold slicedAt dstV
  rw [addL, show 4 - (p + 1) = 3 - p by omega, Nat.mul_one, Nat.zero_add]
  by_cases h : p = 3
  · rw [if_pos (by omega), if_pos h]
  · rw [if_neg (by omega), if_neg h]
theorem src_sl (wx : World) (g n p : Nat) (hp : p ≤ n) (hn : n ≤ 3) : (Instr.sliceAt 110 (.pointer (some ⟨g, 0, none⟩)) (some (.int .i64 (p : Int))) (some (.int .i64 (n : Int))) none).run Try.prog wx = .ok (srcV g n p) wx := by
  rw [run_sliceAt_array_lh wx _ _ arr4 .i64 .i64 (p : Int) (n : Int) (by omega) (by omega) (by rw [arr4l]; omega), arr4s]
  show Result.ok (slicedAt _ (p : Int).toNat (n : Int).toNat _ 1) wx = _
  rw [arr4l, Int.toNat_natCast, Int.toNat_natCast]
  unfold slicedAt srcV
  rw [addL, if_neg (by omega), Nat.mul_one, Nat.zero_add]

set_option maxRecDepth 100000 in
set_option maxHeartbeats 8000000 in
theorem list_raw (w : World) (b o n : Nat) (q4 : w.cell? ⟨b, o + 4, none⟩ = some (.int .i64 (n : Int))) (h4 : n ≤ 4) :
    Calls Try.prog 75 #[.pointer (some ⟨b, o, none⟩)] w fun e w' => e = .returned (.slice (some ⟨b, o, none⟩) n n) ∧ w' = w.drewN 1 := by
  have h0 : (0 : Int) ≤ (n : Int) := by omega
  have h4I : (n : Int) ≤ 4 := by omega
  have RS : ∀ wx : World, (Instr.sliceAt 110 (.pointer (some ⟨b, o, none⟩)) none (some (.int .i64 (n : Int))) (some (.int .i64 (n : Int)))).run Try.prog wx = .ok (.slice (some ⟨b, o, none⟩) n n) wx := fun wx => leaves_sl wx b o n h4
  go_enter Try.func75, Try.ntmps75
  go_wp2_with fail
  refine wp_region_noPanic ?_
  refine wp_region_held_drew (S := fun wz => wz.cell? ⟨b, o + 4, none⟩ = some (.int .i64 (n : Int))) (by kernel_rfl) (by exact q4) (fun hHeld => ?_)
  refine tk 0 ?_
  refine tk 1 ?_
  refine tk 2 ?_
  refine tk 3 ?_
  refine tk 4 ?_
  refine tk 5 ?_
  refine tk 6 ?_
  refine tk 7 ?_
  refine tk 8 ?_
  refine tk 9 ?_
  refine tk 10 ?_
  refine tk 11 ?_
  refine tk 12 ?_
  refine wpAnyH_done (by kernel_rfl) ?_ _
  refine NoPanic.normal ?_
  go_wp2
  go_ret
  exact ⟨rfl, rfl⟩
/-- what is joined so far -/
structure JnS (w0 : World) (g M D T : Nat) (al bl : List Nat) (k : Nat) (l : List Nat) (w : World) : Prop where
  bk : Blk w g 114 (bxA l M D T)
  bw : Below g w0 w
  ris : Ris l
  mem : ∀ y, y ∈ l ↔ y ∈ al ∨ y ∈ bl.take k
  len : l.length ≤ 4
theorem JnS.to {w0 : World} {g M D T : Nat} {al bl : List Nat} {k : Nat} {l : List Nat} {w w' : World} (h : JnS w0 g M D T al bl k l w) (hb : Bl w w') : JnS w0 g M D T al bl k l w' := ⟨h.bk.below hb, h.bw.trans (hb.mono (Nat.le_of_lt h.bk.lt)), h.ris, h.mem, h.len⟩
theorem JnS.same {w0 : World} {g M D T : Nat} {al bl : List Nat} {k x : Nat} {l : List Nat} {w : World} (h : JnS w0 g M D T al bl k l w) (hx : bl[k]? = some x) (hm : x ∈ l) {w' : World} (hb : Bl w w') : JnS w0 g M D T al bl (k + 1) l w' :=
  ⟨h.bk.below hb, h.bw.trans (hb.mono (Nat.le_of_lt h.bk.lt)), h.ris, fun y => by
    rw [take_next _ _ _ hx, List.mem_append, ← or_assoc, ← h.mem y]
    exact ⟨Or.inl, fun hh => by
      rcases hh with hh | hh
      · exact hh
      · rw [List.mem_singleton.1 hh]; exact hm⟩, h.len⟩
theorem JnS.done {w0 : World} {g M D T : Nat} {al bl : List Nat} {k : Nat} {l : List Nat} {w : World} (h : JnS w0 g M D T al bl k l w) (ra : Ris al) (rb : Ris bl) (hk : bl.length ≤ k) : l = joinL al bl := by
  refine ris_ext h.ris (joinL_ris ra rb) (fun y => ?_)
  rw [h.mem y, joinL_mem, List.take_of_length_le hk]
theorem JnS.full {w0 : World} {g M D T : Nat} {al bl : List Nat} {k x : Nat} {l : List Nat} {w : World} (h : JnS w0 g M D T al bl k l w) (hx : bl[k]? = some x) (hn : x ∉ l) (h4 : l.length = 4) : ¬ (joinL al bl).length ≤ 4 := by
  have := nd_len (C := x :: l) (D := joinL al bl) (List.nodup_cons.2 ⟨hn, h.ris.nodup⟩) (fun y hy => (joinL_mem _ _ _).2 (by
    rcases List.mem_cons.1 hy with rfl | hy
    · exact Or.inr (List.mem_of_getElem? hx)
    · rcases (h.mem y).1 hy with h1 | h1
      · exact Or.inl h1
      · exact Or.inr (List.mem_of_mem_take h1)))
  rw [List.length_cons] at this
  omega
theorem JnS.num {w0 : World} {g M D T : Nat} {al bl : List Nat} {k : Nat} {l : List Nat} {w : World} (h : JnS w0 g M D T al bl k l w) : NumR w (some ⟨g, 0, none⟩) l := fun i y hy => by
  have hi := (List.getElem?_eq_some_iff.1 hy).1
  have h4 := h.len
  have e : l.getD i 0 = y := by rw [List.getD_eq_getElem?_getD, hy]; rfl
  have : i = 0 ∨ i = 1 ∨ i = 2 ∨ i = 3 := by omega
  refine ⟨g, 0, rfl, ?_⟩
  rw [Nat.zero_add, ← e]
  rcases this with rfl | rfl | rfl | rfl
  · exact h.bk.cell (i := 0) rfl
  · exact h.bk.cell (i := 1) rfl
  · exact h.bk.cell (i := 2) rfl
  · exact h.bk.cell (i := 3) rfl
end Go.Proofs.Ytlaljeobdddegaa
