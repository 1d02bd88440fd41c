import Derived.Test.YtefjicdhccfieaaJuP
namespace Go.Proofs.Ytefjicdhccfieaa
open Go.RowKit

/-- two boxes for the graphs that come by value -/
theorem two_below {w : World} (o1 o2 : Obj) : Below w.heap.size w ((w.alloc o1).alloc o2) := ((Below.refl _ _).alloc (Nat.le_refl _) _).trans (((Below.refl _ _).alloc (Nat.le_refl _) _).mono (by simp))
set_option maxRecDepth 100000 in
set_option maxHeartbeats 8000000 in
theorem movedOne_doc (w : World) (SA SB : GrS) (A B : GrD) (okA : OkB A) (okB : OkB B) (l : Int) (hl : 0 ≤ l ∧ l ≤ 4000000) :
    Calls Try.prog 50 #[.agg (SA.cells A), .agg (SB.cells B), .int .i64 l] w fun e w' => e = .returned (.int .i64 (mvF A 0 B.lats.length l)) ∧ Below w.heap.size w w' := by
  unfold GrS.cells
  have a0 := okA.i0; have a1 := okA.i1; have a2 := okA.l1; have b2 := okB.l1
  have HM : Hid (mvF A 0 B.lats.length l = if l / 2 ≤ A.ins then l else if l / 2 < A.first then l + 2 * 0 else l + 2 * B.lats.length) := rfl
  have hf : A.first = 1 + A.ins + A.lats.length := rfl
  rw [hf] at HM
  clear hf okA okB
  generalize mvF A 0 B.lats.length l = r at *
  generalize A.ins = ins at *
  generalize A.lats.length = la at *
  generalize B.lats.length = lb at *
  have t1 : Int.tdiv l 2 = l / 2 := by rw [Int.tdiv_eq_ediv_of_nonneg hl.1]
  have hm : 0 ≤ l / 2 ∧ l / 2 ≤ 2000000 := by omega
  generalize l / 2 = m at *
  have e1 : IntKind.i64.wrap m = m := wrapI _ (by omega) (by omega)
  have e2 : IntKind.i64.wrap (ins + (la : Int)) = ins + la := wrapI _ (by omega) (by omega)
  have e3 : IntKind.i64.wrap (2 * (lb : Int)) = 2 * lb := wrapI _ (by omega) (by omega)
  have e4 : IntKind.i64.wrap (l + 2 * (lb : Int)) = l + 2 * lb := wrapI _ (by omega) (by omega)
  by_cases h1 : ins + la < m
  · have HR : Hid (l + 2 * (lb : Int) = r) := by show _ = _; rw [HM.out, if_neg (by omega), if_neg (by omega)]
    clear HM
    go_enter Try.func50, Try.ntmps50
    go_wp2
    go_ret
    exact ⟨ret_int HR.out, two_below _ _⟩
  · have HR : Hid (l = r) := by
      show _ = _
      rw [HM.out]
      by_cases h2 : m ≤ ins
      · rw [if_pos h2]
      · rw [if_neg h2, if_pos (by omega)]; omega
    have h1' : decide (ins + (la : Int) < m) = false := decide_eq_false h1
    clear HM
    go_enter Try.func50, Try.ntmps50
    go_wp2
    go_ret
    exact ⟨ret_int HR.out, two_below _ _⟩
set_option maxRecDepth 100000 in
set_option maxHeartbeats 8000000 in
theorem moved_doc (w : World) (SA SB : GrS) (A B : GrD) (okA : OkB A) (okB : OkB B) (l : Int) (hl : 0 ≤ l ∧ l ≤ 4000000) :
    Calls Try.prog 51 #[.agg (SA.cells A), .agg (SB.cells B), .int .i64 l] w fun e w' => e = .returned (.int .i64 (mvF B A.lats.length (A.lats.length + A.ands.length) l)) ∧ Below w.heap.size w w' := by
  unfold GrS.cells
  have a2 := okA.l1; have a3 := okA.a1; have b0 := okB.i0; have b1 := okB.i1; have b2 := okB.l1
  have HM : Hid (mvF B A.lats.length (A.lats.length + A.ands.length) l = if l / 2 ≤ B.ins then l else if l / 2 < B.first then l + 2 * A.lats.length else l + 2 * (A.lats.length + A.ands.length)) := rfl
  have hf : B.first = 1 + B.ins + B.lats.length := rfl
  rw [hf] at HM
  clear hf okA okB
  generalize mvF B A.lats.length (A.lats.length + A.ands.length) l = r at *
  generalize B.ins = ins at *
  generalize A.lats.length = la at *
  generalize A.ands.length = na at *
  generalize B.lats.length = lb at *
  have t1 : Int.tdiv l 2 = l / 2 := by rw [Int.tdiv_eq_ediv_of_nonneg hl.1]
  have t2 : Int.tmod l 2 = l % 2 := by rw [Int.tmod_eq_emod_of_nonneg hl.1]
  have hd : l = 2 * (l / 2) + l % 2 := by omega
  have hm : 0 ≤ l / 2 ∧ l / 2 ≤ 2000000 := by omega
  have hp : 0 ≤ l % 2 ∧ l % 2 ≤ 1 := by omega
  generalize l / 2 = m at *
  generalize l % 2 = p at *
  have e1 : IntKind.i64.wrap m = m := wrapI _ (by omega) (by omega)
  have e2 : IntKind.i64.wrap p = p := wrapI _ (by omega) (by omega)
  have e3 : IntKind.i64.wrap (ins + (lb : Int)) = ins + lb := wrapI _ (by omega) (by omega)
  have e4 : IntKind.i64.wrap (m + (la : Int)) = m + la := wrapI _ (by omega) (by omega)
  have e5 : IntKind.i64.wrap (m + (la : Int) + (na : Int)) = m + la + na := wrapI _ (by omega) (by omega)
  have f1 : IntKind.i64.wrap (2 * m) = 2 * m := wrapI _ (by omega) (by omega)
  have f2 : IntKind.i64.wrap (2 * (m + (la : Int))) = 2 * (m + la) := wrapI _ (by omega) (by omega)
  have f3 : IntKind.i64.wrap (2 * (m + (la : Int) + (na : Int))) = 2 * (m + la + na) := wrapI _ (by omega) (by omega)
  have g1 : IntKind.i64.wrap (2 * m + p) = 2 * m + p := wrapI _ (by omega) (by omega)
  have g2 : IntKind.i64.wrap (2 * (m + (la : Int)) + p) = 2 * (m + la) + p := wrapI _ (by omega) (by omega)
  have g3 : IntKind.i64.wrap (2 * (m + (la : Int) + (na : Int)) + p) = 2 * (m + la + na) + p := wrapI _ (by omega) (by omega)
  by_cases h1 : m ≤ ins
  · have HR : Hid (2 * m + p = r) := by show _ = _; rw [HM.out, if_pos h1]; omega
    clear HM hd
    go_enter Try.func51, Try.ntmps51
    go_wp2
    go_ret
    exact ⟨ret_int HR.out, (two_below _ _)⟩
  · have h1' : decide (m ≤ ins) = false := decide_eq_false h1
    by_cases h2 : m ≤ ins + lb
    · have HR : Hid (2 * (m + (la : Int)) + p = r) := by show _ = _; rw [HM.out, if_neg h1, if_pos (by omega)]; omega
      clear HM hd
      go_enter Try.func51, Try.ntmps51
      go_wp2
      go_ret
      exact ⟨ret_int HR.out, (two_below _ _)⟩
    · have h2' : decide (m ≤ ins + (lb : Int)) = false := decide_eq_false h2
      have HR : Hid (2 * (m + (la : Int) + (na : Int)) + p = r) := by show _ = _; rw [HM.out, if_neg h1, if_neg (by omega)]; omega
      clear HM hd
      go_enter Try.func51, Try.ntmps51
      go_wp2
      go_ret
      exact ⟨ret_int HR.out, (two_below _ _)⟩

end Go.Proofs.Ytefjicdhccfieaa
