import Derived.Test.YtibjgoigdajkkaaDoorJ49
import Derived.Test.YtibjgoigdajkkaaDoorJ05
namespace Go.Proofs.YtibjgoigdajkkaaDoor
open Go.RowKit

/-- the law's own trace -/
def ownT (a b : Nat) : List TR := [⟨some ⟨a, 0, none⟩, 2, [true, true]⟩, ⟨some ⟨b, 0, none⟩, 1, [false]⟩]
theorem inl_of {w : World} {a : Option Addr} {c : Nat} {l : List Int} (h : RowAt w.heap.size w a 1 (l.map intC)) (hne : l ≠ []) : InL3 w a c l :=
  ⟨fun ha => by
    obtain ⟨b, o, e, _⟩ := h (by simpa using hne)
    rw [ha] at e
    exact absurd e (by simp), h⟩
set_option maxRecDepth 100000 in
set_option maxHeartbeats 8000000 in
theorem law_fits (B : Nat) (w : World) (S : NtS) (N : NtD) (h : NtAt B w S N) (hB : B ≤ w.heap.size) (hnt : N.tabs.length ≤ 1000000) (hnil : S.a1 = none → S.c1 = 0 ∧ N.init = []) (R1 : InL3 w S.a4 S.c4 N.outs) (R2 : InL3 w S.a3 S.c3 N.next) (sh : ShD) (ta : Option Addr) (tc : Nat) (trs : List TR) (ht : TrAt B w ta trs) (hV : Vars w) (h1w : 1 ≤ w.heap.size) :
    Calls Tryd.prog 3 #[.agg (S.cells N), .agg sh.arr, .slice ta trs.length tc] w fun e w' => e = .returned (.bool true) ∧ Below w.heap.size w w' := by
  obtain ⟨x0, x1, x2, x3, x4⟩ := sh
  have SM : Hid (∀ w : World, Calls Tryd.prog 5 #[] w fun e w' => ∃ S b, e = .returned (.agg (NtS.cells S (pairN b))) ∧ NtAt w'.heap.size w' S (pairN b) ∧ Below w.heap.size w w') := pair_any
  have RT : Hid (∀ (w : World) S b (a : Option Addr) c trs, NtAt w.heap.size w S (pairN b) → TrAt w.heap.size w a trs → Vars w → 1 ≤ w.heap.size → Calls Tryd.prog 4 #[.agg (NtS.cells S (pairN b)), .agg #[.int .i64 2, .int .i64 2, .int .i64 1, .int .i64 5, .int .i64 2], .slice a trs.length c] w fun e w' => e = .returned (.bool true) ∧ Below w.heap.size w w') := fun w S b a c trs hg ht hv h1 =>
    placed_any w w.heap.size S (pairN b) hg (Nat.le_refl _) (by simp [pairN]) (fun e => by obtain ⟨x, o, ha, -⟩ := hg.i (by simp [pairN]); rw [e] at ha; cases ha) (inl_of hg.o (by simp [pairN])) (inl_of hg.n (by simp [pairN])) ⟨2, 2, 1, 5, 2⟩ a c trs ht hv h1
  have RG : Hid (∀ w', Below w.heap.size w w' → Calls Tryd.prog 4 #[.agg (S.cells N), .agg #[.int .i64 x0, .int .i64 x1, .int .i64 x2, .int .i64 x3, .int .i64 x4], .slice ta trs.length tc] w' fun e w'' => e = .returned (.bool true) ∧ Below w'.heap.size w' w'') := fun w' hw' =>
    placed_any w' B S N (h.to (hw'.mono hB)) (Nat.le_trans hB hw'.size) hnt hnil (R1.to hw') (R2.to hw') ⟨x0, x1, x2, x3, x4⟩ ta tc trs (ht.to (hw'.mono hB)) (hV.to hw' h1w) (Nat.le_trans h1w hw'.size)
  have HV := hidden hV
  clear h ht hnt hnil R1 R2 hV
  show Calls Tryd.prog 3 #[.agg (S.cells N), .agg #[.int .i64 x0, .int .i64 x1, .int .i64 x2, .int .i64 x3, .int .i64 x4], .slice ta trs.length tc] w _
  unfold NtS.cells at *
  obtain ⟨nb, Enb⟩ := exh w.heap.size
  obtain ⟨sb, Esb⟩ := exh (w.heap.size + 1)
  go_enter Tryd.func3, Tryd.ntmps3
  go_upto_region 1 with fail
  rw [← Esb.out, ← Enb.out]
  have HA1 : Hid (Below w.heap.size w (w.alloc (.cells #[.int .i64 N.ins, .slice S.a1 N.init.length S.c1, .slice S.a2 N.tabs.length S.c2, .slice S.a3 N.next.length S.c3, .slice S.a4 N.outs.length S.c4] 26))) := (Below.refl _ _).alloc (Nat.le_refl _) _
  generalize hW1 : w.alloc (.cells #[.int .i64 N.ins, .slice S.a1 N.init.length S.c1, .slice S.a2 N.tabs.length S.c2, .slice S.a3 N.next.length S.c3, .slice S.a4 N.outs.length S.c4] 26) = W1 at *
  have HX1 : Hid (BoxAt W1 nb S N) := by rw [← hW1, Enb.out]; exact BoxAt.new w S N
  have hsbW : sb = W1.heap.size := by rw [Esb.out, ← hW1]; simp
  have ha2 : Below W1.heap.size W1 (W1.alloc (.cells #[.int .i64 x0, .int .i64 x1, .int .i64 x2, .int .i64 x3, .int .i64 x4] 28)) := (Below.refl _ _).alloc (Nat.le_refl _) _
  have HB : Hid (Below w.heap.size w (W1.alloc (.cells #[.int .i64 x0, .int .i64 x1, .int .i64 x2, .int .i64 x3, .int .i64 x4] 28))) := HA1.out.trans (ha2.mono HA1.out.size)
  have HX : Hid (BoxAt (W1.alloc (.cells #[.int .i64 x0, .int .i64 x1, .int .i64 x2, .int .i64 x3, .int .i64 x4] 28)) nb S N) := HX1.out.to HX1.out.lt ha2
  have HSB : Hid (Blk (W1.alloc (.cells #[.int .i64 x0, .int .i64 x1, .int .i64 x2, .int .i64 x3, .int .i64 x4] 28)) sb 28 #[.int .i64 x0, .int .i64 x1, .int .i64 x2, .int .i64 x3, .int .i64 x4]) := by rw [hsbW]; exact Blk.new _ _ _
  clear hW1 hsbW ha2 HX1 HA1
  generalize W1.alloc (.cells #[.int .i64 x0, .int .i64 x1, .int .i64 x2, .int .i64 x3, .int .i64 x4] 28) = W at *
  go_wp2_with fail
  go_at_call 5
  refine (SM.out _).mono ?_
  rintro e w1 ⟨S1, pb, rfl, hn1, hb1⟩
  have HB1 := hidden hb1
  have HN1 := hidden hn1
  obtain ⟨s1, t1, s2, t2, s3, t3, s4, t4⟩ := S1
  clear hb1 hn1 SM
  go_wp2_with fail
  generalize hW2 : World.alloc _ _ = W2
  have hs2 : W2.heap.size = w1.heap.size + 3 := by rw [← hW2]; simp
  have HB2 : Hid (Below w1.heap.size w1 W2) := by
    rw [← hW2]
    exact (((Below.refl _ _).alloc (Nat.le_refl _) _).alloc (by simp) _).alloc (by simp; omega) _
  have zb : ∀ j, W2.cell? ⟨w1.heap.size + 1 + 1, j, none⟩ = (#[.slice (some ⟨w1.heap.size, 0, none⟩) 2 2, .slice (some ⟨w1.heap.size + 1, 0, none⟩) 1 1] : Array Value)[j]? := by intro j; rw [← hW2]; exact cell_new (by simp)
  have z0 : ∀ j, W2.cell? ⟨w1.heap.size, j, none⟩ = (#[.bool true, .bool true] : Array Value)[j]? := by intro j; rw [← hW2, World.cell?_alloc_lt _ _ _ (by first | (simp; done) | (simp; omega)), World.cell?_alloc_lt _ _ _ (by first | (simp; done) | (simp; omega))]; exact cell_new (by simp)
  have z1 : ∀ j, W2.cell? ⟨w1.heap.size + 1, j, none⟩ = (#[.bool false] : Array Value)[j]? := by intro j; rw [← hW2, World.cell?_alloc_lt _ _ _ (by first | (simp; done) | (simp; omega))]; exact cell_new (by simp)
  have HT2 : Hid (TrAt W2.heap.size W2 (some ⟨w1.heap.size + 1 + 1, 0, none⟩) (ownT w1.heap.size (w1.heap.size + 1))) := by
    have f : ∀ (b : Nat) (cs : Array Value) (els : List (List Value)), (∀ j, W2.cell? ⟨b, j, none⟩ = cs[j]?) → els.flatten = cs.toList → ∀ (m : Nat) (v : Value), els.flatten[m]? = some v → W2.cell? ⟨b, m, none⟩ = some v := by
      intro b cs els h1 h2 m v hv
      rw [h1 m, ← Array.getElem?_toList, ← h2]; exact hv
    refine ⟨rowAt_flat (by omega) (by simp [ownT, TR.cells]) (f _ _ _ zb rfl), ?_, by simp [ownT]⟩
    intro t htm
    simp only [ownT, List.mem_cons, List.not_mem_nil, or_false] at htm
    rcases htm with rfl | rfl
    · exact rowAt_flat (by omega) (by simp [boolC]) (f _ _ _ z0 rfl)
    · exact rowAt_flat (by omega) (by simp [boolC]) (f _ _ _ z1 rfl)
  have HG2 : Hid (NtAt W2.heap.size W2 ⟨s1, t1, s2, t2, s3, t3, s4, t4⟩ (pairN pb)) := (HN1.out.to HB2.out).mono HB2.out.size
  have HBW2 : Hid (Below W.heap.size W W2) := HB1.out.trans (HB2.out.mono HB1.out.size)
  have hww2 : Below w.heap.size w W2 := HB.out.trans (HBW2.out.mono HB.out.size)
  have HR2 := hidden (RT.out W2 ⟨s1, t1, s2, t2, s3, t3, s4, t4⟩ pb _ 2 _ HG2.out HT2.out (HV.out.to hww2 h1w) (Nat.le_trans h1w hww2.size))
  clear hW2 zb z0 z1 RT HN1 HT2 HG2 hs2 hww2
  go_at_call 4
  refine HR2.out.mono ?_
  rintro e w3 ⟨rfl, hb3⟩
  have HB3 := hidden (HBW2.out.trans (hb3.mono HBW2.out.size))
  have HX3 : Hid (BoxAt w3 nb S N) := HX.out.to HX.out.lt HB3.out
  have HS3 := hidden (HSB.out.below HB3.out)
  have q0 := HX3.out.c0
  have q1 := HX3.out.c1
  have q2 := HX3.out.c2
  have q3 := HX3.out.c3
  have q4 := HX3.out.c4
  have r0 : w3.cell? ⟨sb, 0, none⟩ = some (.int .i64 x0) := HS3.out.cell (i := 0) rfl
  have r1 : w3.cell? ⟨sb, 1, none⟩ = some (.int .i64 x1) := HS3.out.cell (i := 1) rfl
  have r2 : w3.cell? ⟨sb, 2, none⟩ = some (.int .i64 x2) := HS3.out.cell (i := 2) rfl
  have r3 : w3.cell? ⟨sb, 3, none⟩ = some (.int .i64 x3) := HS3.out.cell (i := 3) rfl
  have r4 : w3.cell? ⟨sb, 4, none⟩ = some (.int .i64 x4) := HS3.out.cell (i := 4) rfl
  clear hb3 HR2 HX3 HS3
  go_wp2_with fail
  go_at_call 4
  refine (RG.out _ (HB.out.trans (HB3.out.mono HB.out.size))).mono ?_
  rintro e w4 ⟨rfl, hb4⟩
  have HB4 := hidden (HB3.out.trans (hb4.mono HB3.out.size))
  clear hb4 q0 q1 q2 q3 q4 r0 r1 r2 r3 r4
  go_wp2_with fail
  go_ret
  exact ⟨rfl, HB.out.trans (HB4.out.mono HB.out.size)⟩


end Go.Proofs.YtibjgoigdajkkaaDoor
