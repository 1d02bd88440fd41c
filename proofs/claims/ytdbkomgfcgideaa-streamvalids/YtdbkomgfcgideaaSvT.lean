import Derived.Test.YtdbkomgfcgideaaSvS
namespace Go.Proofs.Ytdbkomgfcgideaa
open Go.RowKit

set_option maxRecDepth 100000 in
set_option maxHeartbeats 8000000 in
theorem law_valids (B : Nat) (w : World) (S : CnS) (N : CnD) (h : CnAt B w S N) (hB : B ≤ w.heap.size) :
    Calls Try.prog 3 #[.agg (S.cells N)] w fun e w' => e = .returned (.bool true) ∧ Below w.heap.size w w' := by
  have SM : Hid (∀ w : World, Calls Try.prog 5 #[] w fun e w' => ∃ S b, e = .returned (.agg (CnS.cells S (plainN b))) ∧ CnAt w'.heap.size w' S (plainN b) ∧ Below w.heap.size w w') := plain_any
  have VS : Hid (∀ (w : World) S b, CnAt w.heap.size w S (plainN b) → Calls Try.prog 4 #[.agg (CnS.cells S (plainN b))] w fun e w' => e = .returned (.bool true) ∧ Below w.heap.size w w') := by
    intro w S b hn
    have := valid_any w.heap.size w S (plainN b) hn (Nat.le_refl _)
    rw [plain_ok] at this
    exact this
  obtain ⟨r, HR⟩ : ∃ r, Hid (CnOk N = r) := ⟨_, rfl⟩
  have VN : Hid (∀ w', Below w.heap.size w w' → Calls Try.prog 4 #[.agg (S.cells N)] w' fun e w'' => e = .returned (.bool r) ∧ Below w'.heap.size w' w'') := by
    intro w' hw'
    have := valid_any B w' S N (h.to (hw'.mono hB)) (Nat.le_trans hB hw'.size)
    rw [HR.out] at this
    exact this
  have DN : Hid (∀ w', Below w.heap.size w w' → Calls Try.prog 6 #[.agg (S.cells N)] w' fun e w'' => e = .returned (.bool r) ∧ Below w'.heap.size w' w'') := by
    intro w' hw'
    have := configValid_any B w' S N (h.to (hw'.mono hB)) (Nat.le_trans hB hw'.size)
    rw [HR.out] at this
    exact this
  clear h HR
  generalize hcs : S.cells N = cs at *
  have hcs' : cs = #[.int .i64 N.sh.ins, .int .i64 N.sh.outs, .int .i64 N.sh.regs, .int .i64 N.sh.rows, .int .i64 N.sh.cols, .slice S.a1 N.cols.length S.c1, .slice S.a2 N.regs.length S.c2, .slice S.a3 N.outs.length S.c3] := hcs.symm
  clear hcs
  subst hcs'
  go_enter Try.func3, Try.ntmps3
  go_wp2_with fail
  generalize hW : World.alloc w _ = W
  have HB : Hid (Below w.heap.size w W) := by rw [← hW]; exact (Below.refl _ _).alloc (Nat.le_refl _) _
  have QN : Hid (∀ j, W.cell? ⟨w.heap.size, j, none⟩ = (#[.int .i64 N.sh.ins, .int .i64 N.sh.outs, .int .i64 N.sh.regs, .int .i64 N.sh.rows, .int .i64 N.sh.cols, .slice S.a1 N.cols.length S.c1, .slice S.a2 N.regs.length S.c2, .slice S.a3 N.outs.length S.c3] : Array Value)[j]?) := by rw [← hW]; intro j; simp
  have hN : w.heap.size < W.heap.size := by rw [← hW]; simp
  clear hW
  go_wp2_with (go_at_call 5; refine (SM.out _).mono ?_; rintro e w1 ⟨S1, b1, rfl, hn1, hb1⟩; have HB1 := hidden hb1; have HN1 := hidden hn1; clear hb1 hn1)
  have tok : True := trivial
  go_wp2_with (have _t := tok; go_at_call 4; refine (VS.out _ _ _ HN1.out).mono ?_; rintro e w2 ⟨rfl, hb2⟩; have HB2 := hidden (HB1.out.trans (hb2.mono HB1.out.size)); have u0 : w2.cell? ⟨w.heap.size, 0, none⟩ = some (.int .i64 N.sh.ins) := (HB2.out.cell (p := ⟨w.heap.size, 0, none⟩) hN).trans (QN.out 0); have u1 : w2.cell? ⟨w.heap.size, 1, none⟩ = some (.int .i64 N.sh.outs) := (HB2.out.cell (p := ⟨w.heap.size, 1, none⟩) hN).trans (QN.out 1); have u2 : w2.cell? ⟨w.heap.size, 2, none⟩ = some (.int .i64 N.sh.regs) := (HB2.out.cell (p := ⟨w.heap.size, 2, none⟩) hN).trans (QN.out 2); have u3 : w2.cell? ⟨w.heap.size, 3, none⟩ = some (.int .i64 N.sh.rows) := (HB2.out.cell (p := ⟨w.heap.size, 3, none⟩) hN).trans (QN.out 3); have u4 : w2.cell? ⟨w.heap.size, 4, none⟩ = some (.int .i64 N.sh.cols) := (HB2.out.cell (p := ⟨w.heap.size, 4, none⟩) hN).trans (QN.out 4); have u5 : w2.cell? ⟨w.heap.size, 5, none⟩ = some (.slice S.a1 N.cols.length S.c1) := (HB2.out.cell (p := ⟨w.heap.size, 5, none⟩) hN).trans (QN.out 5); have u6 : w2.cell? ⟨w.heap.size, 6, none⟩ = some (.slice S.a2 N.regs.length S.c2) := (HB2.out.cell (p := ⟨w.heap.size, 6, none⟩) hN).trans (QN.out 6); have u7 : w2.cell? ⟨w.heap.size, 7, none⟩ = some (.slice S.a3 N.outs.length S.c3) := (HB2.out.cell (p := ⟨w.heap.size, 7, none⟩) hN).trans (QN.out 7); clear hb2 tok)
  have tok : True := trivial
  go_wp2_with (have _t := tok; go_at_call 4; refine (VN.out _ (HB.out.trans (HB2.out.mono HB.out.size))).mono ?_; rintro e w3 ⟨rfl, hb3⟩; have HB3 := hidden (HB2.out.trans (hb3.mono HB2.out.size)); have v0 : w3.cell? ⟨w.heap.size, 0, none⟩ = some (.int .i64 N.sh.ins) := (HB3.out.cell (p := ⟨w.heap.size, 0, none⟩) hN).trans (QN.out 0); have v1 : w3.cell? ⟨w.heap.size, 1, none⟩ = some (.int .i64 N.sh.outs) := (HB3.out.cell (p := ⟨w.heap.size, 1, none⟩) hN).trans (QN.out 1); have v2 : w3.cell? ⟨w.heap.size, 2, none⟩ = some (.int .i64 N.sh.regs) := (HB3.out.cell (p := ⟨w.heap.size, 2, none⟩) hN).trans (QN.out 2); have v3 : w3.cell? ⟨w.heap.size, 3, none⟩ = some (.int .i64 N.sh.rows) := (HB3.out.cell (p := ⟨w.heap.size, 3, none⟩) hN).trans (QN.out 3); have v4 : w3.cell? ⟨w.heap.size, 4, none⟩ = some (.int .i64 N.sh.cols) := (HB3.out.cell (p := ⟨w.heap.size, 4, none⟩) hN).trans (QN.out 4); have v5 : w3.cell? ⟨w.heap.size, 5, none⟩ = some (.slice S.a1 N.cols.length S.c1) := (HB3.out.cell (p := ⟨w.heap.size, 5, none⟩) hN).trans (QN.out 5); have v6 : w3.cell? ⟨w.heap.size, 6, none⟩ = some (.slice S.a2 N.regs.length S.c2) := (HB3.out.cell (p := ⟨w.heap.size, 6, none⟩) hN).trans (QN.out 6); have v7 : w3.cell? ⟨w.heap.size, 7, none⟩ = some (.slice S.a3 N.outs.length S.c3) := (HB3.out.cell (p := ⟨w.heap.size, 7, none⟩) hN).trans (QN.out 7); clear hb3 tok u0 u1 u2 u3 u4 u5 u6 u7)
  go_wp2_with (go_at_call 6; refine (DN.out _ (HB.out.trans (HB3.out.mono HB.out.size))).mono ?_; rintro e w4 ⟨rfl, hb4⟩; have HB4 := hidden (HB3.out.trans (hb4.mono HB3.out.size)); clear hb4)
  go_ret
  exact ⟨ret_bool (by simp), HB.out.trans (HB4.out.mono HB.out.size)⟩

end Go.Proofs.Ytdbkomgfcgideaa
