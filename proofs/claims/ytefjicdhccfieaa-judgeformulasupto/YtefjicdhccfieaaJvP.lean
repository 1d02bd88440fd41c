import Derived.Test.YtefjicdhccfieaaJvN
import Derived.Test.YtefjicdhccfieaaJvO
import Derived.Test.YtefjicdhccfieaaAcB
import Derived.Test.YtefjicdhccfieaaJvB
namespace Go.Proofs.Ytefjicdhccfieaa
open Go.RowKit

theorem tot_lens {cls : List CL} {n : Nat} (h : total cls ≤ n) : cls.length ≤ n ∧ ∀ t, t ∈ cls → t.l.length ≤ n := by
  induction cls generalizing n with
  | nil => exact ⟨Nat.zero_le _, fun t ht => by cases ht⟩
  | cons a r ih =>
    have e : total (a :: r) = a.l.length + 1 + total r := by simp [total]
    rw [e] at h
    obtain ⟨h1, h2⟩ := ih (n := n - (a.l.length + 1)) (by omega)
    refine ⟨by rw [List.length_cons]; omega, fun t ht => ?_⟩
    rcases List.mem_cons.1 ht with rfl | ht
    · omega
    · have := h2 t ht; omega
theorem formed_doc (B0 : Nat) (w0 : World) (SA SB : GrS) (A B : GrD) (okA : OkB A) (okB : OkB B) (hB0 : B0 ≤ w0.heap.size) (JC : ∀ w', Below w0.heap.size w0 w' → Calls Try.prog 26 #[.agg #[.int .i64 A.ins, .slice SA.a1 A.lats.length SA.c1, .slice SA.a2 A.ands.length SA.c2, .slice SA.a3 A.outs.length SA.c3], .agg #[.int .i64 B.ins, .slice SB.a1 B.lats.length SB.c1, .slice SB.a2 B.ands.length SB.c2, .slice SB.a3 B.outs.length SB.c3]] w' fun e w'' => JnP w' (joinG A B) e w'') (pa : Option Addr) (pc : Nat) (prs : List AndD) (R : RowAt B0 w0 pa 2 (prs.map AndD.cells)) (hpl : ∀ d, d ∈ prs → (0 ≤ d.x ∧ d.x ≤ 4000000) ∧ (0 ≤ d.y ∧ d.y ≤ 4000000)) (hpn : prs.length ≤ 400000) (which : Nat) (hwh : which = 0 ∨ which = 1 ∨ which = 2) :
    Calls Try.prog 29 #[.agg (SA.cells A), .agg (SB.cells B), .slice pa prs.length pc, .int .i64 (which : Int)] w0 fun e w' => FmQ w0 (formV (joinG A B) prs which) (formF (joinG A B) prs which) e w' := by
  rcases hwh with rfl | rfl | rfl
  · exact formed0 B0 w0 SA SB A B okA okB hB0 JC pa pc prs R hpl hpn
  · exact formed1 B0 w0 SA SB A B okA okB hB0 JC pa pc prs R hpl hpn
  · exact formed2 B0 w0 SA SB A B okA okB hB0 JC pa pc prs R hpl hpn
/-- a formula that is handed out, as two slices' clauses -/
theorem fm_lens {G : GrD} {prs : List AndD} {which : Nat} {cls : List CL} (hj : JnB G) (hp : prs.length ≤ 400000) (h : cls.map CL.l = formF G prs which) : cls.length ≤ 16777216 ∧ ∀ t, t ∈ cls → t.l.length ≤ 16777216 := by
  have h1 : total cls ≤ 12000000 := by rw [totL_cl, h]; exact formF_tot hj.a1 hj.l1 hj.o1 prs hp which
  exact tot_lens (by omega)

set_option maxRecDepth 100000 in
set_option maxHeartbeats 8000000 in
theorem joinedOk_any (B0 : Nat) (w0 : World) (SA SB : GrS) (A B : GrD) (hA : GrAt B0 w0 SA A) (hB : GrAt B0 w0 SB B) (hB0 : B0 ≤ w0.heap.size) (pa : Option Addr) (pc : Nat) (prs : List AndD) (R : RowAt B0 w0 pa 2 (prs.map AndD.cells)) (hpn : prs.length ≤ 400000) :
    Calls Try.prog 9 #[.agg (SA.cells A), .agg (SB.cells B), .slice pa prs.length pc] w0 fun e w' => e = .returned (.bool true) ∧ Below w0.heap.size w0 w' := by
  have AC : Hid (∀ w', Below w0.heap.size w0 w' → Calls Try.prog 23 #[.agg #[.int .i64 A.ins, .slice SA.a1 A.lats.length SA.c1, .slice SA.a2 A.ands.length SA.c2, .slice SA.a3 A.outs.length SA.c3], .agg #[.int .i64 B.ins, .slice SB.a1 B.lats.length SB.c1, .slice SB.a2 B.ands.length SB.c2, .slice SB.a3 B.outs.length SB.c3]] w' fun e w'' => e = .returned (.bool (AlikeG A B)) ∧ Below w'.heap.size w' w'') := fun w' hb => alike_doc B0 w' SA SB A B (hA.to (hb.mono hB0)) (hB.to (hb.mono hB0)) (Nat.le_trans hB0 hb.size)
  unfold GrS.cells
  cases hal : AlikeG A B
  · rw [hal] at AC
    clear hA hB R hal
    go_enter Try.func9, Try.ntmps9
    go_upto_region 1 with fail
    obtain ⟨o1, ho1⟩ : ∃ o, o = Obj.cells #[.int .i64 A.ins, .slice SA.a1 A.lats.length SA.c1, .slice SA.a2 A.ands.length SA.c2, .slice SA.a3 A.outs.length SA.c3] 30 (0, 0) := ⟨_, rfl⟩
    obtain ⟨o2, ho2⟩ : ∃ o, o = Obj.cells #[.int .i64 B.ins, .slice SB.a1 B.lats.length SB.c1, .slice SB.a2 B.ands.length SB.c2, .slice SB.a3 B.outs.length SB.c3] 30 (0, 0) := ⟨_, rfl⟩
    rw [← ho1, ← ho2]
    have s1 : (w0.alloc o1).heap.size = w0.heap.size + 1 := by simp
    have b1 := heap_new w0 o1
    have B1 : Below w0.heap.size w0 (w0.alloc o1) := (Below.refl _ _).alloc (Nat.le_refl _) _
    generalize w0.alloc o1 = w1 at *
    have s2 : (w1.alloc o2).heap.size = w1.heap.size + 1 := by simp
    have b2 := heap_new w1 o2
    have B2 : Below w1.heap.size w1 (w1.alloc o2) := (Below.refl _ _).alloc (Nat.le_refl _) _
    generalize w1.alloc o2 = W at *
    obtain ⟨ga, h5⟩ : ∃ x, x = w0.heap.size := ⟨_, rfl⟩
    obtain ⟨gb, h6⟩ : ∃ x, x = w0.heap.size + 1 := ⟨_, rfl⟩
    have d5 : W.heap[ga]? = some o1 := (B2.block ga (by omega)).trans (by rw [h5]; exact b1)
    have d6 : W.heap[gb]? = some o2 := by rw [h6, ← s1]; exact b2
    rw [ho1] at d5
    rw [ho2] at d6
    have HXA : Hid (BoxAt W ga SA A) := ⟨by omega, (cell_of_row _ _ 0 _ _ (0, 0) d5).trans rfl, (cell_of_row _ _ 1 _ _ (0, 0) d5).trans rfl, (cell_of_row _ _ 2 _ _ (0, 0) d5).trans rfl, (cell_of_row _ _ 3 _ _ (0, 0) d5).trans rfl⟩
    have HXB : Hid (BoxAt W gb SB B) := ⟨by omega, (cell_of_row _ _ 0 _ _ (0, 0) d6).trans rfl, (cell_of_row _ _ 1 _ _ (0, 0) d6).trans rfl, (cell_of_row _ _ 2 _ _ (0, 0) d6).trans rfl, (cell_of_row _ _ 3 _ _ (0, 0) d6).trans rfl⟩
    have HBW0 : Hid (Below w0.heap.size w0 W) := B1.trans (B2.mono (by omega))
    rw [← h6, ← h5]
    have hws : w0.heap.size ≤ W.heap.size := HBW0.out.size
    clear b1 b2 B1 B2 s1 s2 h5 h6 d5 d6 ho1 ho2
    have x0 := (HXA.out.to HXA.out.lt (Below.refl _ _)).c0
    have x1 := (HXA.out.to HXA.out.lt (Below.refl _ _)).c1
    have x2 := (HXA.out.to HXA.out.lt (Below.refl _ _)).c2
    have x3 := (HXA.out.to HXA.out.lt (Below.refl _ _)).c3
    have z0 := (HXB.out.to HXB.out.lt (Below.refl _ _)).c0
    have z1 := (HXB.out.to HXB.out.lt (Below.refl _ _)).c1
    have z2 := (HXB.out.to HXB.out.lt (Below.refl _ _)).c2
    have z3 := (HXB.out.to HXB.out.lt (Below.refl _ _)).c3
    go_wp2_with fail
    go_at_call 23
    refine (AC.out _ HBW0.out).mono ?_
    rintro e w3 ⟨rfl, hb3⟩
    have HB3 := hidden hb3
    clear hb3
    clear x0 x1 x2 x3 z0 z1 z2 z3
    go_wp2
    go_ret
    exact ⟨rfl, HBW0.out.trans (HB3.out.mono hws)⟩
  rw [hal] at AC
  obtain ⟨hga, hgb, -, -⟩ := alike_ok hal
  have okA := okB_of hga
  have okB := okB_of hgb
  have HJ := hidden (join_bounds okA okB)
  have JC : Hid (∀ w', Below w0.heap.size w0 w' → Calls Try.prog 26 #[.agg #[.int .i64 A.ins, .slice SA.a1 A.lats.length SA.c1, .slice SA.a2 A.ands.length SA.c2, .slice SA.a3 A.outs.length SA.c3], .agg #[.int .i64 B.ins, .slice SB.a1 B.lats.length SB.c1, .slice SB.a2 B.ands.length SB.c2, .slice SB.a3 B.outs.length SB.c3]] w' fun e w'' => JnP w' (joinG A B) e w'') := fun w' hb => joint_doc B0 w' SA SB A B (hA.to (hb.mono hB0)) (hB.to (hb.mono hB0)) (Nat.le_trans hB0 hb.size) okA okB
  have NC : Hid (∀ w', Below w0.heap.size w0 w' → Calls Try.prog 24 #[.agg #[.int .i64 A.ins, .slice SA.a1 A.lats.length SA.c1, .slice SA.a2 A.ands.length SA.c2, .slice SA.a3 A.outs.length SA.c3], .agg #[.int .i64 B.ins, .slice SB.a1 B.lats.length SB.c1, .slice SB.a2 B.ands.length SB.c2, .slice SB.a3 B.outs.length SB.c3]] w' fun e w'' => JnP w' (joinG A B) e w'') := fun w' hb => join_any B0 w' SA SB A B (hA.to (hb.mono hB0)) (hB.to (hb.mono hB0)) (Nat.le_trans hB0 hb.size) hal
  have HRR : Hid (∀ w', Below w0.heap.size w0 w' → RowAt B0 w' pa 2 (prs.map AndD.cells)) := fun w' hb => R.to (hb.mono hB0)
  have FC : Hid (pairsOk (joinG A B).vars prs = true → ∀ w', Below w0.heap.size w0 w' → ∀ which : Nat, which < 3 → Calls Try.prog 28 #[.agg #[.int .i64 A.ins, .slice SA.a1 A.lats.length SA.c1, .slice SA.a2 A.ands.length SA.c2, .slice SA.a3 A.outs.length SA.c3], .agg #[.int .i64 B.ins, .slice SB.a1 B.lats.length SB.c1, .slice SB.a2 B.ands.length SB.c2, .slice SB.a3 B.outs.length SB.c3], .slice pa prs.length pc, .int .i64 (which : Int)] w' fun e w'' => FmQ w' (formV (joinG A B) prs which) (formF (joinG A B) prs which) e w'') := fun hok w' hb which hw => formula_any B0 w' SA SB A B (hA.to (hb.mono hB0)) (hB.to (hb.mono hB0)) (Nat.le_trans hB0 hb.size) hal pa pc prs (HRR.out w' hb) hok hpn which (by omega)
  have DC : Hid (pairsOk (joinG A B).vars prs = true → ∀ w', Below w0.heap.size w0 w' → ∀ which : Nat, which < 3 → Calls Try.prog 29 #[.agg #[.int .i64 A.ins, .slice SA.a1 A.lats.length SA.c1, .slice SA.a2 A.ands.length SA.c2, .slice SA.a3 A.outs.length SA.c3], .agg #[.int .i64 B.ins, .slice SB.a1 B.lats.length SB.c1, .slice SB.a2 B.ands.length SB.c2, .slice SB.a3 B.outs.length SB.c3], .slice pa prs.length pc, .int .i64 (which : Int)] w' fun e w'' => FmQ w' (formV (joinG A B) prs which) (formF (joinG A B) prs which) e w'') := fun hok w' hb which hw => formed_doc B0 w' SA SB A B okA okB (Nat.le_trans hB0 hb.size) (fun w'' hb' => JC.out w'' (hb.trans (hb'.mono hb.size))) pa pc prs (HRR.out w' hb) (pairs_le hok HJ.out.vs.2) hpn which (by omega)
  clear hga hgb okA okB hal hA hB R
  generalize joinG A B = G at *
  have PC : Hid (∀ w' (T : GrS), Below w0.heap.size w0 w' → Calls Try.prog 27 #[.agg #[.int .i64 G.ins, .slice T.a1 G.lats.length T.c1, .slice T.a2 G.ands.length T.c2, .slice T.a3 G.outs.length T.c3], .slice pa prs.length pc] w' fun e w'' => e = .returned (.bool (pairsOk G.vars prs)) ∧ Below w'.heap.size w' w'') := fun w' T hb => paired_doc B0 w' T G HJ.out pa pc prs (HRR.out w' hb) (Nat.le_trans hB0 hb.size) (by simp only [big]; omega)
  have HLN : Hid (∀ (which : Nat) (cls : List CL), cls.map CL.l = formF G prs which → cls.length ≤ 16777216 ∧ ∀ t, t ∈ cls → t.l.length ≤ 16777216) := fun which cls h => fm_lens HJ.out hpn h
  obtain ⟨pn, HPN⟩ : ∃ x, Hid (x = prs.length) := ⟨_, rfl⟩
  rw [← HPN.out] at FC DC PC
  rw [← HPN.out]
  clear HRR
  go_enter Try.func9, Try.ntmps9
  go_upto_region 1 with fail
  obtain ⟨o1, ho1⟩ : ∃ o, o = Obj.cells #[.int .i64 A.ins, .slice SA.a1 A.lats.length SA.c1, .slice SA.a2 A.ands.length SA.c2, .slice SA.a3 A.outs.length SA.c3] 30 (0, 0) := ⟨_, rfl⟩
  obtain ⟨o2, ho2⟩ : ∃ o, o = Obj.cells #[.int .i64 B.ins, .slice SB.a1 B.lats.length SB.c1, .slice SB.a2 B.ands.length SB.c2, .slice SB.a3 B.outs.length SB.c3] 30 (0, 0) := ⟨_, rfl⟩
  rw [← ho1, ← ho2]
  have s1 : (w0.alloc o1).heap.size = w0.heap.size + 1 := by simp
  have b1 := heap_new w0 o1
  have B1 : Below w0.heap.size w0 (w0.alloc o1) := (Below.refl _ _).alloc (Nat.le_refl _) _
  generalize w0.alloc o1 = w1 at *
  have s2 : (w1.alloc o2).heap.size = w1.heap.size + 1 := by simp
  have b2 := heap_new w1 o2
  have B2 : Below w1.heap.size w1 (w1.alloc o2) := (Below.refl _ _).alloc (Nat.le_refl _) _
  generalize w1.alloc o2 = W at *
  obtain ⟨ga, h5⟩ : ∃ x, x = w0.heap.size := ⟨_, rfl⟩
  obtain ⟨gb, h6⟩ : ∃ x, x = w0.heap.size + 1 := ⟨_, rfl⟩
  have d5 : W.heap[ga]? = some o1 := (B2.block ga (by omega)).trans (by rw [h5]; exact b1)
  have d6 : W.heap[gb]? = some o2 := by rw [h6, ← s1]; exact b2
  rw [ho1] at d5
  rw [ho2] at d6
  have HXA : Hid (BoxAt W ga SA A) := ⟨by omega, (cell_of_row _ _ 0 _ _ (0, 0) d5).trans rfl, (cell_of_row _ _ 1 _ _ (0, 0) d5).trans rfl, (cell_of_row _ _ 2 _ _ (0, 0) d5).trans rfl, (cell_of_row _ _ 3 _ _ (0, 0) d5).trans rfl⟩
  have HXB : Hid (BoxAt W gb SB B) := ⟨by omega, (cell_of_row _ _ 0 _ _ (0, 0) d6).trans rfl, (cell_of_row _ _ 1 _ _ (0, 0) d6).trans rfl, (cell_of_row _ _ 2 _ _ (0, 0) d6).trans rfl, (cell_of_row _ _ 3 _ _ (0, 0) d6).trans rfl⟩
  have HBW0 : Hid (Below w0.heap.size w0 W) := B1.trans (B2.mono (by omega))
  rw [← h6, ← h5]
  have hws : w0.heap.size ≤ W.heap.size := HBW0.out.size
  clear b1 b2 B1 B2 s1 s2 h5 h6 d5 d6 ho1 ho2
  have x0 := (HXA.out.to HXA.out.lt (Below.refl _ _)).c0
  have x1 := (HXA.out.to HXA.out.lt (Below.refl _ _)).c1
  have x2 := (HXA.out.to HXA.out.lt (Below.refl _ _)).c2
  have x3 := (HXA.out.to HXA.out.lt (Below.refl _ _)).c3
  have z0 := (HXB.out.to HXB.out.lt (Below.refl _ _)).c0
  have z1 := (HXB.out.to HXB.out.lt (Below.refl _ _)).c1
  have z2 := (HXB.out.to HXB.out.lt (Below.refl _ _)).c2
  have z3 := (HXB.out.to HXB.out.lt (Below.refl _ _)).c3
  go_wp2_with fail
  go_at_call 23
  refine (AC.out _ HBW0.out).mono ?_
  rintro e w3 ⟨rfl, hb3⟩
  have HQ3 := hidden hb3
  have HBW3 : Hid (Below w0.heap.size w0 w3) := HBW0.out.trans (hb3.mono hws)
  clear hb3 AC
  clear x0 x1 x2 x3 z0 z1 z2 z3
  have x0 := (HXA.out.to HXA.out.lt HQ3.out).c0
  have x1 := (HXA.out.to HXA.out.lt HQ3.out).c1
  have x2 := (HXA.out.to HXA.out.lt HQ3.out).c2
  have x3 := (HXA.out.to HXA.out.lt HQ3.out).c3
  have z0 := (HXB.out.to HXB.out.lt HQ3.out).c0
  have z1 := (HXB.out.to HXB.out.lt HQ3.out).c1
  have z2 := (HXB.out.to HXB.out.lt HQ3.out).c2
  have z3 := (HXB.out.to HXB.out.lt HQ3.out).c3
  go_wp2_with fail
  go_at_call 24
  refine (NC.out _ HBW3.out).mono ?_
  rintro e w4 ⟨S, he, hat4, hb4⟩
  unfold GrS.cells at he
  subst he
  clear x0 x1 x2 x3 z0 z1 z2 z3
  have HA4 := hidden hat4
  have HQ4 : Hid (Below W.heap.size W w4) := HQ3.out.trans (hb4.mono HQ3.out.size)
  have HBW4 : Hid (Below w0.heap.size w0 w4) := HBW3.out.trans (hb4.mono HBW3.out.size)
  clear hat4 hb4 NC
  go_upto_region 5 with fail
  generalize hW5 : World.alloc w4 _ = w5
  obtain ⟨gx, hgx⟩ : ∃ x, x = w4.heap.size := ⟨_, rfl⟩
  have HB5 : Hid (Below w4.heap.size w4 w5) := by rw [← hW5]; exact (Below.refl _ _).alloc (Nat.le_refl _) _
  have d5 : w5.heap[gx]? = some (.cells #[.int .i64 G.ins, .slice S.a1 G.lats.length S.c1, .slice S.a2 G.ands.length S.c2, .slice S.a3 G.outs.length S.c3] 30 (0, 0)) := by rw [← hW5, hgx]; exact heap_new _ _
  have HX5 : Hid (BoxAt w5 gx S G) := ⟨(Array.getElem?_eq_some_iff.1 d5).1, (cell_of_row _ _ 0 _ _ (0, 0) d5).trans rfl, (cell_of_row _ _ 1 _ _ (0, 0) d5).trans rfl, (cell_of_row _ _ 2 _ _ (0, 0) d5).trans rfl, (cell_of_row _ _ 3 _ _ (0, 0) d5).trans rfl⟩
  rw [← hgx]
  have HA5 : Hid (GrAt w5.heap.size w5 S G) := (HA4.out.to HB5.out).mono HB5.out.size
  have HQ5 : Hid (Below W.heap.size W w5) := HQ4.out.trans (HB5.out.mono HQ4.out.size)
  have HBW5 : Hid (Below w0.heap.size w0 w5) := HBW4.out.trans (HB5.out.mono HBW4.out.size)
  clear hW5 hgx d5
  have K1 : Hid (∀ w', Below w5.heap.size w5 w' → (fun w' => w'.cell? ⟨gx, 0, none⟩ = some (.int .i64 G.ins) ∧ w'.cell? ⟨gx, 1, none⟩ = some (.slice S.a1 G.lats.length S.c1) ∧ w'.cell? ⟨gx, 2, none⟩ = some (.slice S.a2 G.ands.length S.c2) ∧ w'.cell? ⟨gx, 3, none⟩ = some (.slice S.a3 G.outs.length S.c3) ∧ w'.cell? ⟨ga, 0, none⟩ = some (.int .i64 A.ins) ∧ w'.cell? ⟨ga, 1, none⟩ = some (.slice SA.a1 A.lats.length SA.c1) ∧ w'.cell? ⟨ga, 2, none⟩ = some (.slice SA.a2 A.ands.length SA.c2) ∧ w'.cell? ⟨ga, 3, none⟩ = some (.slice SA.a3 A.outs.length SA.c3) ∧ w'.cell? ⟨gb, 0, none⟩ = some (.int .i64 B.ins) ∧ w'.cell? ⟨gb, 1, none⟩ = some (.slice SB.a1 B.lats.length SB.c1) ∧ w'.cell? ⟨gb, 2, none⟩ = some (.slice SB.a2 B.ands.length SB.c2) ∧ w'.cell? ⟨gb, 3, none⟩ = some (.slice SB.a3 B.outs.length SB.c3)) w') := fun w' hb => by
    have hx := HX5.out.to HX5.out.lt hb
    have ha := HXA.out.to HXA.out.lt (HQ5.out.trans (hb.mono HQ5.out.size))
    have hb' := HXB.out.to HXB.out.lt (HQ5.out.trans (hb.mono HQ5.out.size))
    exact ⟨hx.c0, hx.c1, hx.c2, hx.c3, ha.c0, ha.c1, ha.c2, ha.c3, hb'.c0, hb'.c1, hb'.c2, hb'.c3⟩
  refine wp_region_noPanic ?_
  refine wp_region_held_drew (S := (fun w' => w'.cell? ⟨gx, 0, none⟩ = some (.int .i64 G.ins) ∧ w'.cell? ⟨gx, 1, none⟩ = some (.slice S.a1 G.lats.length S.c1) ∧ w'.cell? ⟨gx, 2, none⟩ = some (.slice S.a2 G.ands.length S.c2) ∧ w'.cell? ⟨gx, 3, none⟩ = some (.slice S.a3 G.outs.length S.c3) ∧ w'.cell? ⟨ga, 0, none⟩ = some (.int .i64 A.ins) ∧ w'.cell? ⟨ga, 1, none⟩ = some (.slice SA.a1 A.lats.length SA.c1) ∧ w'.cell? ⟨ga, 2, none⟩ = some (.slice SA.a2 A.ands.length SA.c2) ∧ w'.cell? ⟨ga, 3, none⟩ = some (.slice SA.a3 A.outs.length SA.c3) ∧ w'.cell? ⟨gb, 0, none⟩ = some (.int .i64 B.ins) ∧ w'.cell? ⟨gb, 1, none⟩ = some (.slice SB.a1 B.lats.length SB.c1) ∧ w'.cell? ⟨gb, 2, none⟩ = some (.slice SB.a2 B.ands.length SB.c2) ∧ w'.cell? ⟨gb, 3, none⟩ = some (.slice SB.a3 B.outs.length SB.c3))) (by kernel_rfl) (by first | assumption | exact K1.out _ (Below.refl _ _) | exact K1.out _ (Below.drew (Below.refl _ _)) | exact K1.out _ (by assumption)) (fun hHeld => ?_)
  refine wpAnyH_take (i := 0) (oi := _) (v := ?_) rfl (by kernel_rfl) (by kernel_rfl) (by kernel_rfl) (fun _ _ _ h => h) (Or.inl ⟨by rfl, ?_⟩) (by assumption) ?_
  rotate_left
  · (intro w0 hSw; (try dsimp only at hSw); (try simp only [List.getElem_toArray, List.getElem_cons_zero]); go_simp; try (with_reducible rfl))
  try simp only [Act.put, List.getElem_toArray, List.getElem_cons_zero, List.setIfInBounds_toArray, List.set_cons_zero, List.set_cons_succ]
  refine wpAnyH_take (i := 1) (oi := _) (v := ?_) rfl (by kernel_rfl) (by kernel_rfl) (by kernel_rfl) (fun _ _ _ h => h) (Or.inl ⟨by rfl, ?_⟩) (by assumption) ?_
  rotate_left
  · (intro w0 hSw; (try dsimp only at hSw); (try simp only [List.getElem_toArray, List.getElem_cons_zero, List.getElem_cons_succ]); go_simp; try (with_reducible rfl))
  try simp only [Act.put, List.getElem_toArray, List.getElem_cons_zero, List.getElem_cons_succ, List.setIfInBounds_toArray, List.set_cons_zero, List.set_cons_succ]
  refine wpAnyH_take (i := 2) (oi := _) (v := ?_) rfl (by kernel_rfl) (by kernel_rfl) (by kernel_rfl) (fun _ _ _ h => h) (Or.inl ⟨by rfl, ?_⟩) (by assumption) ?_
  rotate_left
  · (intro w0 hSw; (try dsimp only at hSw); (try simp only [List.getElem_toArray, List.getElem_cons_zero, List.getElem_cons_succ]); go_simp; try (with_reducible rfl))
  try simp only [Act.put, List.getElem_toArray, List.getElem_cons_zero, List.getElem_cons_succ, List.setIfInBounds_toArray, List.set_cons_zero, List.set_cons_succ]
  refine wpAnyH_ready (rs := [3]) (by kernel_rfl) (by simp) ?_
  refine AllReadyH.cons (o := _) rfl (fun K hK => ?_) AllReadyH.nil
  (try simp only [List.getElem_toArray, List.getElem_cons_zero, List.getElem_cons_succ])
  go_simp
  go_at_call 26
  refine (JC.out _ (Below.drew HBW5.out)).mono ?_
  rintro e v1 ⟨T, he, hat1, hbv1⟩
  unfold GrS.cells at he
  subst he
  have hb1 : Below w5.heap.size w5 v1 := (Below.drew (Below.refl _ _)).trans hbv1
  have HT1 := hidden hat1
  clear hbv1 hat1
  go_wp2_with fail
  refine hK.out _ _ (by first | assumption | exact K1.out _ (Below.refl _ _) | exact K1.out _ (Below.drew (Below.refl _ _)) | exact K1.out _ (by assumption)) (fun hHeld1 => ?_)
  clear hK K
  try simp only [Act.put, List.setIfInBounds_toArray, List.set_cons_zero, List.set_cons_succ]
  refine wpAnyH_ready (rs := [4]) (by kernel_rfl) (by simp) ?_
  refine AllReadyH.cons (o := _) rfl (fun K hK => ?_) AllReadyH.nil
  (try simp only [List.getElem_toArray, List.getElem_cons_zero, List.getElem_cons_succ])
  go_simp
  go_at_call 25
  refine (sameGraph_any v1.heap.size v1 S T G ((HA5.out.to hb1).mono hb1.size) HT1.out (Nat.le_refl _)).mono ?_
  rintro e v2 ⟨rfl, hbv2⟩
  have hb2 : Below w5.heap.size w5 v2 := hb1.trans (hbv2.mono hb1.size)
  clear hbv2
  go_wp2_with fail
  refine hK.out _ _ (by first | assumption | exact K1.out _ (Below.refl _ _) | exact K1.out _ (Below.drew (Below.refl _ _)) | exact K1.out _ (by assumption)) (fun hHeld2 => ?_)
  clear hK K
  try simp only [Act.put, List.setIfInBounds_toArray, List.set_cons_zero, List.set_cons_succ]
  refine wpAnyH_take (i := 5) (oi := _) (v := ?_) rfl (by kernel_rfl) (by kernel_rfl) (by kernel_rfl) (fun _ _ _ h => h) (Or.inl ⟨by rfl, ?_⟩) (by assumption) ?_
  rotate_left
  · (intro w0 hSw; (try dsimp only at hSw); (try simp only [List.getElem_toArray, List.getElem_cons_zero, List.getElem_cons_succ]); go_simp; try (with_reducible rfl))
  try simp only [Act.put, List.getElem_toArray, List.getElem_cons_zero, List.getElem_cons_succ, List.setIfInBounds_toArray, List.set_cons_zero, List.set_cons_succ]
  refine wpAnyH_done (by kernel_rfl) ?_ _
  refine NoPanic.normal ?_
  have HQ6 : Hid (Below W.heap.size W v2) := HQ5.out.trans (hb2.mono HQ5.out.size)
  have HBW6 : Hid (Below w0.heap.size w0 v2) := HBW5.out.trans (hb2.mono HBW5.out.size)
  clear hb1 hb2 HT1 K1 HX5 HA5 HB5 HA4
  have x0 := (HXA.out.to HXA.out.lt HQ6.out).c0
  have x1 := (HXA.out.to HXA.out.lt HQ6.out).c1
  have x2 := (HXA.out.to HXA.out.lt HQ6.out).c2
  have x3 := (HXA.out.to HXA.out.lt HQ6.out).c3
  have z0 := (HXB.out.to HXB.out.lt HQ6.out).c0
  have z1 := (HXB.out.to HXB.out.lt HQ6.out).c1
  have z2 := (HXB.out.to HXB.out.lt HQ6.out).c2
  have z3 := (HXB.out.to HXB.out.lt HQ6.out).c3
  go_wp2_with fail
  go_at_call 26
  refine (JC.out _ HBW6.out).mono ?_
  rintro e v3 ⟨T3, he, -, hb7⟩
  unfold GrS.cells at he
  subst he
  clear x0 x1 x2 x3 z0 z1 z2 z3
  have HQ7 : Hid (Below W.heap.size W v3) := HQ6.out.trans (hb7.mono HQ6.out.size)
  have HBW7 : Hid (Below w0.heap.size w0 v3) := HBW6.out.trans (hb7.mono HBW6.out.size)
  clear hb7
  go_wp2_with fail
  go_at_call 27
  refine (PC.out _ T3 HBW7.out).mono ?_
  rintro e v4 ⟨rfl, hb8⟩
  have HQ8 : Hid (Below W.heap.size W v4) := HQ7.out.trans (hb8.mono HQ7.out.size)
  clear hb8 JC PC HQ3 HQ4 HQ5 HQ6 HQ7 HBW3 HBW4 HBW5 HBW6 HBW7
  cases hok : pairsOk G.vars prs
  · clear FC DC
    go_wp2
    go_ret
    exact ⟨rfl, HBW0.out.trans (HQ8.out.mono hws)⟩
  · have FC' := hidden (FC.out hok)
    have DC' := hidden (DC.out hok)
    clear FC DC hok
    go_wp2_with fail
    go_loopw [10] (fun i' w' => ∃ (k : Nat), k ≤ 3 ∧ i' = .int .i64 k ∧ Hid (Below W.heap.size W w')) (fun i' _ => 3 - (intOf i').toNat)
    case atStart => exact ⟨0, Nat.zero_le _, rfl, HQ8.out⟩
    case round =>
      clear HQ8
      obtain ⟨k, hk, rfl, HQ⟩ := hrel
      by_cases hlt : k < 3
      · have hltI : (k : Int) < 3 := by omega
        have e3 : IntKind.i64.wrap ((k : Int) + 1) = (k : Int) + 1 := wrapI _ (by omega) (by omega)
        have FCk := hidden (fun w' hb => FC'.out w' hb k hlt)
        have DCk := hidden (fun w' hb => DC'.out w' hb k hlt)
        have HLK := hidden (HLN.out k)
        generalize formV G prs k = fv at *
        generalize formF G prs k = ff at *
        have x0 := (HXA.out.to HXA.out.lt HQ.out).c0
        have x1 := (HXA.out.to HXA.out.lt HQ.out).c1
        have x2 := (HXA.out.to HXA.out.lt HQ.out).c2
        have x3 := (HXA.out.to HXA.out.lt HQ.out).c3
        have z0 := (HXB.out.to HXB.out.lt HQ.out).c0
        have z1 := (HXB.out.to HXB.out.lt HQ.out).c1
        have z2 := (HXB.out.to HXB.out.lt HQ.out).c2
        have z3 := (HXB.out.to HXB.out.lt HQ.out).c3
        go_wp2_with fail
        go_at_call 28
        refine (FCk.out _ (HBW0.out.trans (HQ.out.mono hws))).mono ?_
        rintro e u1 ⟨fa, fc, cl1, rfl, hcl1, hr1, he1, hbu1⟩
        clear x0 x1 x2 x3 z0 z1 z2 z3
        have HQ1 : Hid (Below W.heap.size W u1) := HQ.out.trans (hbu1.mono HQ.out.size)
        have HF1 := hidden (show cl1.map CL.l = ff ∧ RowAt u1.heap.size u1 fa 1 (cl1.map CL.cells) ∧ ∀ t, t ∈ cl1 → RowAt u1.heap.size u1 t.a 1 (t.l.map intC) from ⟨hcl1, hr1, he1⟩)
        clear hcl1 hr1 he1 hbu1
        obtain ⟨n1, HN1⟩ : ∃ n, Hid (n = cl1.length) := ⟨_, rfl⟩
        rw [← HN1.out]
        go_upto_region 15 with fail
        generalize hU2 : World.alloc u1 _ = u2
        obtain ⟨f1, hf1⟩ : ∃ x, x = u1.heap.size := ⟨_, rfl⟩
        have HB2 : Hid (Below u1.heap.size u1 u2) := by rw [← hU2]; exact (Below.refl _ _).alloc (Nat.le_refl _) _
        have HD2 : Hid (u2.heap[f1]? = some (.cells #[.int .i64 fv, .slice fa n1 fc] 24 (0, 0))) := by rw [← hU2, hf1]; exact heap_new _ _
        rw [← hf1]
        clear hU2 hf1
        have HQ2 : Hid (Below W.heap.size W u2) := HQ1.out.trans (HB2.out.mono HQ1.out.size)
        have hf1l : f1 < u2.heap.size := (Array.getElem?_eq_some_iff.1 HD2.out).1
        have x0 := (HXA.out.to HXA.out.lt HQ2.out).c0
        have x1 := (HXA.out.to HXA.out.lt HQ2.out).c1
        have x2 := (HXA.out.to HXA.out.lt HQ2.out).c2
        have x3 := (HXA.out.to HXA.out.lt HQ2.out).c3
        have z0 := (HXB.out.to HXB.out.lt HQ2.out).c0
        have z1 := (HXB.out.to HXB.out.lt HQ2.out).c1
        have z2 := (HXB.out.to HXB.out.lt HQ2.out).c2
        have z3 := (HXB.out.to HXB.out.lt HQ2.out).c3
        go_wp2_with fail
        go_at_call 29
        refine (DCk.out _ (HBW0.out.trans (HQ2.out.mono hws))).mono ?_
        rintro e u3 ⟨ha, hc, cl2, rfl, hcl2, hr2, he2, hbu3⟩
        clear x0 x1 x2 x3 z0 z1 z2 z3
        have HB3 := hidden hbu3
        have HQ3 : Hid (Below W.heap.size W u3) := HQ2.out.trans (hbu3.mono HQ2.out.size)
        have HF2 := hidden (show cl2.map CL.l = ff ∧ RowAt u3.heap.size u3 ha 1 (cl2.map CL.cells) ∧ ∀ t, t ∈ cl2 → RowAt u3.heap.size u3 t.a 1 (t.l.map intC) from ⟨hcl2, hr2, he2⟩)
        clear hcl2 hr2 he2 hbu3
        obtain ⟨n2, HN2⟩ : ∃ n, Hid (n = cl2.length) := ⟨_, rfl⟩
        rw [← HN2.out]
        go_upto_region 16 with fail
        generalize hU4 : World.alloc u3 _ = u4
        obtain ⟨f2, hf2⟩ : ∃ x, x = u3.heap.size := ⟨_, rfl⟩
        have HB4 : Hid (Below u3.heap.size u3 u4) := by rw [← hU4]; exact (Below.refl _ _).alloc (Nat.le_refl _) _
        have HD4 : Hid (u4.heap[f2]? = some (.cells #[.int .i64 fv, .slice ha n2 hc] 24 (0, 0))) := by rw [← hU4, hf2]; exact heap_new _ _
        rw [← hf2]
        clear hU4 hf2
        have hf2l : f2 < u4.heap.size := (Array.getElem?_eq_some_iff.1 HD4.out).1
        have HQ4 : Hid (Below W.heap.size W u4) := HQ3.out.trans (HB4.out.mono HQ3.out.size)
        have HD2' : Hid (u4.heap[f1]? = some (.cells #[.int .i64 fv, .slice fa n1 fc] 24 (0, 0))) := (HB4.out.block f1 (Nat.lt_of_lt_of_le hf1l HB3.out.size)).trans ((HB3.out.block f1 hf1l).trans HD2.out)
        have hb14 : Below u1.heap.size u1 u4 := HB2.out.trans ((HB3.out.trans (HB4.out.mono HB3.out.size)).mono HB2.out.size)
        have SCC : Hid (Calls Try.prog 30 #[.slice fa n1 fc, .slice ha n2 hc] u4 fun e w' => e = .returned (.bool true) ∧ Below u4.heap.size u4 w') := by
          rw [HN1.out, HN2.out]
          exact sameClauses_any u4.heap.size u4 fa fc cl1 ha hc cl2 ((HF1.out.2.1.to hb14).mono hb14.size) (fun t ht => ((HF1.out.2.2 t ht).to hb14).mono hb14.size) ((HF2.out.2.1.to HB4.out).mono HB4.out.size) (fun t ht => ((HF2.out.2.2 t ht).to HB4.out).mono HB4.out.size) (HF1.out.1.trans HF2.out.1.symm) (Nat.le_refl _) (HLK.out cl1 HF1.out.1).1 (HLK.out cl1 HF1.out.1).2
        have v1 : u4.cell? ⟨f1, 1, none⟩ = some (.slice fa n1 fc) := (cell_of_row _ _ 1 _ _ (0, 0) HD2'.out).trans rfl
        have v2 : u4.cell? ⟨f2, 1, none⟩ = some (.slice ha n2 hc) := (cell_of_row _ _ 1 _ _ (0, 0) HD4.out).trans rfl
        go_wp2_with fail
        go_at_call 30
        refine SCC.out.mono ?_
        rintro e u5 ⟨rfl, hbu5⟩
        have v3 : u5.cell? ⟨f1, 0, none⟩ = some (.int .i64 fv) := (hbu5.cell (p := ⟨f1, 0, none⟩) (Nat.lt_of_lt_of_le (Nat.lt_of_lt_of_le hf1l HB3.out.size) HB4.out.size)).trans ((cell_of_row _ _ 0 _ _ (0, 0) HD2'.out).trans rfl)
        have v4 : u5.cell? ⟨f2, 0, none⟩ = some (.int .i64 fv) := (hbu5.cell (p := ⟨f2, 0, none⟩) hf2l).trans ((cell_of_row _ _ 0 _ _ (0, 0) HD4.out).trans rfl)
        have HQ5 : Hid (Below W.heap.size W u5) := HQ4.out.trans (hbu5.mono HQ4.out.size)
        clear v1 v2 hbu5 SCC
        go_wp2
        go_roundw
        case measure => simp [intOf]; omega
        case rel => exact ⟨k + 1, by omega, by simp, HQ5.out⟩
      · have hge : ¬ ((k : Int) < 3) := by omega
        go_wp2
        go_ret
        exact ⟨rfl, HBW0.out.trans (HQ.out.mono hws)⟩

end Go.Proofs.Ytefjicdhccfieaa
