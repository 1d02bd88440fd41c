import Derived.Test.YtdiahnommkhkiaaDoorJ04
import Derived.Test.YtdiahnommkhkiaaDoorJ16
namespace Go.Proofs.YtdiahnommkhkiaaDoor
open Go.RowKit

/-- what a region that draws may lean on: all that was there is there -/
abbrev Sees (W w' : World) : Prop := Below W.heap.size W w' ∧ (∀ b o, b < W.heap.size → w'.cell? ⟨b, o, none⟩ = W.cell? ⟨b, o, none⟩)
theorem sees_drew (W : World) : Sees W W.drew := ⟨(Below.refl _ _).drew, fun b o h => ((Below.refl W.heap.size W).drew).cell (p := ⟨b, o, none⟩) h⟩
theorem sees_call {W w1 w2 : World} (hb : Below w1.heap.size w1 w2) (h : Sees W w1) : Sees W w2 :=
  have h' : Below W.heap.size W w2 := h.1.trans (hb.mono h.1.size)
  ⟨h', fun b o hh => h'.cell (p := ⟨b, o, none⟩) hh⟩
/-- the first line -/
def headT (wd : List UInt8) (G : GrD) : List UInt8 := wd ++ [32] ++ decI (G.ins + G.lats.length + G.ands.length) ++ [32] ++ decI G.ins ++ [32] ++ decI G.lats.length ++ [32] ++ decI G.outs.length ++ [32] ++ decI G.ands.length ++ [10]
def Whole (x : Int) (t : List UInt8) : Prop := ∀ w' : World, Calls Tryd.prog 15 #[.int .i64 x] w' fun e w'' => e = .returned (.string (bs t)) ∧ Below w'.heap.size w' w''
theorem whole_of (x : Int) (h0 : 0 ≤ x) (h1 : x < 4294967296) : ∃ t, Hid (Whole x t) ∧ Hid (t = decI x) ∧ t.length ≤ 10 :=
  ⟨decI x, fun w' => whole_any x h0 h1 w', rfl, decI_len h1⟩
set_option maxRecDepth 100000 in
set_option maxHeartbeats 4000000 in
theorem head_any (wd : List UInt8) (hwd : wd.length ≤ 10) (w : World) (S : GrS) (G : GrD) (ni n : Nat) (hF : FineG G ni n) :
    Calls Tryd.prog 14 #[.string (bs wd), .agg (S.cells G)] w fun e w' => e = .returned (.string (bs (headT wd G))) ∧ Below w.heap.size w w' := by
  have VA : Hid (∀ w' : World, Calls Tryd.prog 28 #[.agg (S.cells G)] w' fun e w'' => e = .returned (.int .i64 (n : Int)) ∧ Below w'.heap.size w' w'') := fun w' => by
    have := vars_any w' S G (by rw [hF.ins]; omega) (by have := hF.first; have := hF.le; have := hF.all; rw [hF.ins]; omega) (by have := hF.ll; unfold big; omega) (by have := hF.all; have := hF.le; unfold big; omega)
    rw [show G.vars = (n : Int) by unfold GrD.vars GrD.first; rw [hF.ins]; have := hF.first; have := hF.all; omega] at this
    exact this
  obtain ⟨nl, HNL⟩ : ∃ nl, Hid (G.lats.length = nl) := ⟨_, rfl⟩
  obtain ⟨no, HNO⟩ : ∃ no, Hid (G.outs.length = no) := ⟨_, rfl⟩
  obtain ⟨na, HNA⟩ : ∃ na, Hid (G.ands.length = na) := ⟨_, rfl⟩
  have f1 := hF.first
  have f2 := hF.all
  have f3 := hF.le
  have f4 := hF.ll
  have f5 := hF.lo
  have HIN := hidden hF.ins
  rw [HNL.out] at f1 f4
  rw [HNO.out] at f5
  rw [HNA.out] at f2
  have hm : (n : Int) - 1 = (ni : Int) + (nl : Int) + (na : Int) := by omega
  obtain ⟨m, hmd⟩ : ∃ m : Int, m = (n : Int) - 1 := ⟨_, rfl⟩
  obtain ⟨d0, W0, D0, l0⟩ := whole_of m (by omega) (by omega)
  obtain ⟨d1, W1, D1, l1⟩ := whole_of (ni : Int) (by omega) (by omega)
  obtain ⟨d2, W2, D2, l2⟩ := whole_of (nl : Int) (by omega) (by omega)
  obtain ⟨d3, W3, D3, l3⟩ := whole_of (no : Int) (by omega) (by omega)
  obtain ⟨d4, W4, D4, l4⟩ := whole_of (na : Int) (by omega) (by omega)
  obtain ⟨z0, Hz0, Lz0, Az0⟩ := add_to (bs wd) ⟨#[32]⟩ wd [32] rfl rfl (by (try simp only [List.length_cons, List.length_nil] at *); omega)
  obtain ⟨z1, Hz1, Lz1, Az1⟩ := add_to (bs z0) (bs d0) z0 d0 rfl rfl (by (try simp only [List.length_cons, List.length_nil] at *); omega)
  obtain ⟨z2, Hz2, Lz2, Az2⟩ := add_to (bs z1) ⟨#[32]⟩ z1 [32] rfl rfl (by (try simp only [List.length_cons, List.length_nil] at *); omega)
  obtain ⟨z3, Hz3, Lz3, Az3⟩ := add_to (bs z2) (bs d1) z2 d1 rfl rfl (by (try simp only [List.length_cons, List.length_nil] at *); omega)
  obtain ⟨z4, Hz4, Lz4, Az4⟩ := add_to (bs z3) ⟨#[32]⟩ z3 [32] rfl rfl (by (try simp only [List.length_cons, List.length_nil] at *); omega)
  obtain ⟨z5, Hz5, Lz5, Az5⟩ := add_to (bs z4) (bs d2) z4 d2 rfl rfl (by (try simp only [List.length_cons, List.length_nil] at *); omega)
  obtain ⟨z6, Hz6, Lz6, Az6⟩ := add_to (bs z5) ⟨#[32]⟩ z5 [32] rfl rfl (by (try simp only [List.length_cons, List.length_nil] at *); omega)
  obtain ⟨z7, Hz7, Lz7, Az7⟩ := add_to (bs z6) (bs d3) z6 d3 rfl rfl (by (try simp only [List.length_cons, List.length_nil] at *); omega)
  obtain ⟨z8, Hz8, Lz8, Az8⟩ := add_to (bs z7) ⟨#[32]⟩ z7 [32] rfl rfl (by (try simp only [List.length_cons, List.length_nil] at *); omega)
  obtain ⟨z9, Hz9, Lz9, Az9⟩ := add_to (bs z8) (bs d4) z8 d4 rfl rfl (by (try simp only [List.length_cons, List.length_nil] at *); omega)
  obtain ⟨z10, Hz10, Lz10, Az10⟩ := add_to (bs z9) ⟨#[10]⟩ z9 [10] rfl rfl (by (try simp only [List.length_cons, List.length_nil] at *); omega)
  have HT : Hid (z10 = headT wd G) := by
    show _ = _
    unfold headT
    rw [Hz10.out, Hz9.out, Hz8.out, Hz7.out, Hz6.out, Hz5.out, Hz4.out, Hz3.out, Hz2.out, Hz1.out, Hz0.out, D0.out, D1.out, D2.out, D3.out, D4.out, HNL.out, HNO.out, HNA.out, HIN.out, hmd, hm]
  have HM : Hid (IntKind.i64.wrap ((n : Int) - 1) = m) := by show _ = _; rw [wrapI _ (by omega) (by omega), hmd]
  have hn0 : (1 : Int) ≤ (n : Int) := by omega
  clear Hz0 Hz1 Hz2 Hz3 Hz4 Hz5 Hz6 Hz7 Hz8 Hz9 Hz10 D0 D1 D2 D3 D4 hm hF f1 f2
  have hcs : S.cells G = #[.int .i64 (ni : Int), .slice S.a1 nl S.c1, .slice S.a2 na S.c2, .slice S.a3 no S.c3] := by unfold GrS.cells; rw [HIN.out, HNL.out, HNO.out, HNA.out]
  rw [hcs] at VA ⊢
  clear hcs
  have eM := HM.out
  clear hmd HM
  go_enter Tryd.func14, Tryd.ntmps14
  go_wp2_with fail
  generalize hW : World.alloc w _ = W0'
  have HB0 : Hid (Below w.heap.size w W0') := by rw [← hW]; exact (Below.refl _ _).alloc (Nat.le_refl _) _
  have HQ : Hid (∀ j, W0'.cell? ⟨w.heap.size, j, none⟩ = (#[.int .i64 (ni : Int), .slice S.a1 nl S.c1, .slice S.a2 na S.c2, .slice S.a3 no S.c3] : Array Value)[j]?) := by
    rw [← hW]; intro j; exact cell_new rfl
  have hN : w.heap.size < W0'.heap.size := by rw [← hW]; simp
  clear hW
  go_at_call 28
  refine (VA.out _).mono ?_
  rintro e W ⟨rfl, hb1⟩
  have HB : Hid (Below w.heap.size w W) := HB0.out.trans (hb1.mono HB0.out.size)
  have hNW : w.heap.size < W.heap.size := Nat.lt_of_lt_of_le hN hb1.size
  have q0 : W.cell? ⟨w.heap.size, 0, none⟩ = some (.int .i64 (ni : Int)) := (hb1.cell (p := ⟨w.heap.size, 0, none⟩) hN).trans (by simpa using HQ.out 0)
  have q1 : W.cell? ⟨w.heap.size, 1, none⟩ = some (.slice S.a1 nl S.c1) := (hb1.cell (p := ⟨w.heap.size, 1, none⟩) hN).trans (by simpa using HQ.out 1)
  have q2 : W.cell? ⟨w.heap.size, 2, none⟩ = some (.slice S.a2 na S.c2) := (hb1.cell (p := ⟨w.heap.size, 2, none⟩) hN).trans (by simpa using HQ.out 2)
  have q3 : W.cell? ⟨w.heap.size, 3, none⟩ = some (.slice S.a3 no S.c3) := (hb1.cell (p := ⟨w.heap.size, 3, none⟩) hN).trans (by simpa using HQ.out 3)
  clear hb1 HQ VA
  go_upto_region 2 with fail
  refine wp_region_noPanic ?_
  refine wp_region_held_drew (S := (fun w' => Below W.heap.size W w' ∧ (∀ b' o, b' < W.heap.size → w'.cell? ⟨b', o, none⟩ = W.cell? ⟨b', o, none⟩))) (by kernel_rfl) (by first | assumption | exact sees_drew _ | exact sees_call (by assumption) (by assumption)) (fun hHeld => ?_)
  refine wpAnyH_take (i := 0) (oi := _) (v := ?_) rfl (by kernel_rfl) (by kernel_rfl) (by kernel_rfl) (fun _ _ _ h => h) (Or.inl ⟨by rfl, ?_⟩) (by assumption) ?_
  rotate_left
  · (intro w0 hSw; (try dsimp only at hSw); (try simp only [List.getElem_toArray, List.getElem_cons_zero]); go_simp; try (with_reducible rfl))
  try simp only [Act.put, List.getElem_toArray, List.getElem_cons_zero, List.setIfInBounds_toArray, List.set_cons_zero, List.set_cons_succ]
  refine wpAnyH_take (i := 1) (oi := _) (v := ?_) rfl (by kernel_rfl) (by kernel_rfl) (by kernel_rfl) (fun _ _ _ h => h) (Or.inl ⟨by rfl, ?_⟩) (by assumption) ?_
  rotate_left
  · (intro w0 hSw; (try dsimp only at hSw); (try simp only [List.getElem_toArray, List.getElem_cons_zero, List.getElem_cons_succ]); go_simp; try (with_reducible rfl))
  try simp only [Act.put, List.getElem_toArray, List.getElem_cons_zero, List.getElem_cons_succ, List.setIfInBounds_toArray, List.set_cons_zero, List.set_cons_succ]
  refine wpAnyH_take (i := 2) (oi := _) (v := ?_) rfl (by kernel_rfl) (by kernel_rfl) (by kernel_rfl) (fun _ _ _ h => h) (Or.inl ⟨by rfl, ?_⟩) (by assumption) ?_
  rotate_left
  · (intro w0 hSw; (try dsimp only at hSw); (try simp only [List.getElem_toArray, List.getElem_cons_zero, List.getElem_cons_succ]); go_simp; try (with_reducible rfl))
  try simp only [Act.put, List.getElem_toArray, List.getElem_cons_zero, List.getElem_cons_succ, List.setIfInBounds_toArray, List.set_cons_zero, List.set_cons_succ]
  refine wpAnyH_take (i := 6) (oi := _) (v := ?_) rfl (by kernel_rfl) (by kernel_rfl) (by kernel_rfl) (fun _ _ _ h => h) (Or.inl ⟨by rfl, ?_⟩) (by assumption) ?_
  rotate_left
  · (intro w0 hSw; (try dsimp only at hSw); (try simp only [List.getElem_toArray, List.getElem_cons_zero, List.getElem_cons_succ]); go_simp; try (with_reducible rfl))
  try simp only [Act.put, List.getElem_toArray, List.getElem_cons_zero, List.getElem_cons_succ, List.setIfInBounds_toArray, List.set_cons_zero, List.set_cons_succ]
  refine wpAnyH_take (i := 7) (oi := _) (v := ?_) rfl (by kernel_rfl) (by kernel_rfl) (by kernel_rfl) (fun _ _ _ h => h) (Or.inl ⟨by rfl, ?_⟩) (by assumption) ?_
  rotate_left
  · (intro w0 hSw; (try dsimp only at hSw); (try simp only [List.getElem_toArray, List.getElem_cons_zero, List.getElem_cons_succ]); go_simp; try (with_reducible rfl))
  try simp only [Act.put, List.getElem_toArray, List.getElem_cons_zero, List.getElem_cons_succ, List.setIfInBounds_toArray, List.set_cons_zero, List.set_cons_succ]
  refine wpAnyH_take (i := 11) (oi := _) (v := ?_) rfl (by kernel_rfl) (by kernel_rfl) (by kernel_rfl) (fun _ _ _ h => h) (Or.inl ⟨by rfl, ?_⟩) (by assumption) ?_
  rotate_left
  · (intro w0 hSw; (try dsimp only at hSw); (try simp only [List.getElem_toArray, List.getElem_cons_zero, List.getElem_cons_succ]); go_simp; try (with_reducible rfl))
  try simp only [Act.put, List.getElem_toArray, List.getElem_cons_zero, List.getElem_cons_succ, List.setIfInBounds_toArray, List.set_cons_zero, List.set_cons_succ]
  refine wpAnyH_take (i := 12) (oi := _) (v := ?_) rfl (by kernel_rfl) (by kernel_rfl) (by kernel_rfl) (fun _ _ _ h => h) (Or.inl ⟨by rfl, ?_⟩) (by assumption) ?_
  rotate_left
  · (intro w0 hSw; (try dsimp only at hSw); (try simp only [List.getElem_toArray, List.getElem_cons_zero, List.getElem_cons_succ]); go_simp; try (with_reducible rfl))
  try simp only [Act.put, List.getElem_toArray, List.getElem_cons_zero, List.getElem_cons_succ, List.setIfInBounds_toArray, List.set_cons_zero, List.set_cons_succ]
  refine wpAnyH_take (i := 13) (oi := _) (v := ?_) rfl (by kernel_rfl) (by kernel_rfl) (by kernel_rfl) (fun _ _ _ h => h) (Or.inl ⟨by rfl, ?_⟩) (by assumption) ?_
  rotate_left
  · (intro w0 hSw; (try dsimp only at hSw); (try simp only [List.getElem_toArray, List.getElem_cons_zero, List.getElem_cons_succ]); go_simp; try (with_reducible rfl))
  try simp only [Act.put, List.getElem_toArray, List.getElem_cons_zero, List.getElem_cons_succ, List.setIfInBounds_toArray, List.set_cons_zero, List.set_cons_succ]
  refine wpAnyH_take (i := 17) (oi := _) (v := ?_) rfl (by kernel_rfl) (by kernel_rfl) (by kernel_rfl) (fun _ _ _ h => h) (Or.inl ⟨by rfl, ?_⟩) (by assumption) ?_
  rotate_left
  · (intro w0 hSw; (try dsimp only at hSw); (try simp only [List.getElem_toArray, List.getElem_cons_zero, List.getElem_cons_succ]); go_simp; try (with_reducible rfl))
  try simp only [Act.put, List.getElem_toArray, List.getElem_cons_zero, List.getElem_cons_succ, List.setIfInBounds_toArray, List.set_cons_zero, List.set_cons_succ]
  refine wpAnyH_take (i := 18) (oi := _) (v := ?_) rfl (by kernel_rfl) (by kernel_rfl) (by kernel_rfl) (fun _ _ _ h => h) (Or.inl ⟨by rfl, ?_⟩) (by assumption) ?_
  rotate_left
  · (intro w0 hSw; (try dsimp only at hSw); (try simp only [List.getElem_toArray, List.getElem_cons_zero, List.getElem_cons_succ]); go_simp; try (with_reducible rfl))
  try simp only [Act.put, List.getElem_toArray, List.getElem_cons_zero, List.getElem_cons_succ, List.setIfInBounds_toArray, List.set_cons_zero, List.set_cons_succ]
  refine wpAnyH_take (i := 19) (oi := _) (v := ?_) rfl (by kernel_rfl) (by kernel_rfl) (by kernel_rfl) (fun _ _ _ h => h) (Or.inl ⟨by rfl, ?_⟩) (by assumption) ?_
  rotate_left
  · (intro w0 hSw; (try dsimp only at hSw); (try simp only [List.getElem_toArray, List.getElem_cons_zero, List.getElem_cons_succ]); go_simp; try (with_reducible rfl))
  try simp only [Act.put, List.getElem_toArray, List.getElem_cons_zero, List.getElem_cons_succ, List.setIfInBounds_toArray, List.set_cons_zero, List.set_cons_succ]
  refine wpAnyH_take (i := 23) (oi := _) (v := ?_) rfl (by kernel_rfl) (by kernel_rfl) (by kernel_rfl) (fun _ _ _ h => h) (Or.inl ⟨by rfl, ?_⟩) (by assumption) ?_
  rotate_left
  · (intro w0 hSw; (try dsimp only at hSw); (try simp only [List.getElem_toArray, List.getElem_cons_zero, List.getElem_cons_succ]); go_simp; try (with_reducible rfl))
  try simp only [Act.put, List.getElem_toArray, List.getElem_cons_zero, List.getElem_cons_succ, List.setIfInBounds_toArray, List.set_cons_zero, List.set_cons_succ]
  refine wpAnyH_take (i := 24) (oi := _) (v := ?_) rfl (by kernel_rfl) (by kernel_rfl) (by kernel_rfl) (fun _ _ _ h => h) (Or.inl ⟨by rfl, ?_⟩) (by assumption) ?_
  rotate_left
  · (intro w0 hSw; (try dsimp only at hSw); (try simp only [List.getElem_toArray, List.getElem_cons_zero, List.getElem_cons_succ]); go_simp; try (with_reducible rfl))
  try simp only [Act.put, List.getElem_toArray, List.getElem_cons_zero, List.getElem_cons_succ, List.setIfInBounds_toArray, List.set_cons_zero, List.set_cons_succ]
  refine wpAnyH_take (i := 25) (oi := _) (v := ?_) rfl (by kernel_rfl) (by kernel_rfl) (by kernel_rfl) (fun _ _ _ h => h) (Or.inl ⟨by rfl, ?_⟩) (by assumption) ?_
  rotate_left
  · (intro w0 hSw; (try dsimp only at hSw); (try simp only [List.getElem_toArray, List.getElem_cons_zero, List.getElem_cons_succ]); go_simp; try (with_reducible rfl))
  try simp only [Act.put, List.getElem_toArray, List.getElem_cons_zero, List.getElem_cons_succ, List.setIfInBounds_toArray, List.set_cons_zero, List.set_cons_succ]
  refine wpAnyH_ready (rs := [3]) (by kernel_rfl) (by simp) ?_
  refine AllReadyH.cons (o := _) rfl (fun K hK => ?_) AllReadyH.nil
  (try simp only [List.getElem_toArray, List.getElem_cons_zero, List.getElem_cons_succ])
  go_simp
  go_at_call 15
  refine (W0.out _).mono ?_
  rintro e w2 ⟨rfl, hb2⟩
  go_wp2_with fail
  refine hK.out _ _ (by first | assumption | exact sees_drew _ | exact sees_call (by assumption) (by assumption)) (fun hHeld1 => ?_)
  clear hK K
  try simp only [Act.put, List.setIfInBounds_toArray, List.set_cons_zero, List.set_cons_succ]
  refine wpAnyH_take (i := 4) (oi := _) (v := ?_) rfl (by kernel_rfl) (by kernel_rfl) (by kernel_rfl) (fun _ _ _ h => h) (Or.inl ⟨by rfl, ?_⟩) (by assumption) ?_
  rotate_left
  · (intro w0 hSw; (try dsimp only at hSw); (try simp only [List.getElem_toArray, List.getElem_cons_zero, List.getElem_cons_succ]); go_simp; try (with_reducible rfl))
  try simp only [Act.put, List.getElem_toArray, List.getElem_cons_zero, List.getElem_cons_succ, List.setIfInBounds_toArray, List.set_cons_zero, List.set_cons_succ]
  refine wpAnyH_take (i := 5) (oi := _) (v := ?_) rfl (by kernel_rfl) (by kernel_rfl) (by kernel_rfl) (fun _ _ _ h => h) (Or.inl ⟨by rfl, ?_⟩) (by assumption) ?_
  rotate_left
  · (intro w0 hSw; (try dsimp only at hSw); (try simp only [List.getElem_toArray, List.getElem_cons_zero, List.getElem_cons_succ]); go_simp; try (with_reducible rfl))
  try simp only [Act.put, List.getElem_toArray, List.getElem_cons_zero, List.getElem_cons_succ, List.setIfInBounds_toArray, List.set_cons_zero, List.set_cons_succ]
  refine wpAnyH_ready (rs := [8]) (by kernel_rfl) (by simp) ?_
  refine AllReadyH.cons (o := _) rfl (fun K hK => ?_) AllReadyH.nil
  (try simp only [List.getElem_toArray, List.getElem_cons_zero, List.getElem_cons_succ])
  go_simp
  go_at_call 15
  refine (W1.out _).mono ?_
  rintro e w2 ⟨rfl, hb2⟩
  go_wp2_with fail
  refine hK.out _ _ (by first | assumption | exact sees_drew _ | exact sees_call (by assumption) (by assumption)) (fun hHeld2 => ?_)
  clear hK K
  try simp only [Act.put, List.setIfInBounds_toArray, List.set_cons_zero, List.set_cons_succ]
  refine wpAnyH_take (i := 9) (oi := _) (v := ?_) rfl (by kernel_rfl) (by kernel_rfl) (by kernel_rfl) (fun _ _ _ h => h) (Or.inl ⟨by rfl, ?_⟩) (by assumption) ?_
  rotate_left
  · (intro w0 hSw; (try dsimp only at hSw); (try simp only [List.getElem_toArray, List.getElem_cons_zero, List.getElem_cons_succ]); go_simp; try (with_reducible rfl))
  try simp only [Act.put, List.getElem_toArray, List.getElem_cons_zero, List.getElem_cons_succ, List.setIfInBounds_toArray, List.set_cons_zero, List.set_cons_succ]
  refine wpAnyH_take (i := 10) (oi := _) (v := ?_) rfl (by kernel_rfl) (by kernel_rfl) (by kernel_rfl) (fun _ _ _ h => h) (Or.inl ⟨by rfl, ?_⟩) (by assumption) ?_
  rotate_left
  · (intro w0 hSw; (try dsimp only at hSw); (try simp only [List.getElem_toArray, List.getElem_cons_zero, List.getElem_cons_succ]); go_simp; try (with_reducible rfl))
  try simp only [Act.put, List.getElem_toArray, List.getElem_cons_zero, List.getElem_cons_succ, List.setIfInBounds_toArray, List.set_cons_zero, List.set_cons_succ]
  refine wpAnyH_ready (rs := [14]) (by kernel_rfl) (by simp) ?_
  refine AllReadyH.cons (o := _) rfl (fun K hK => ?_) AllReadyH.nil
  (try simp only [List.getElem_toArray, List.getElem_cons_zero, List.getElem_cons_succ])
  go_simp
  go_at_call 15
  refine (W2.out _).mono ?_
  rintro e w2 ⟨rfl, hb2⟩
  go_wp2_with fail
  refine hK.out _ _ (by first | assumption | exact sees_drew _ | exact sees_call (by assumption) (by assumption)) (fun hHeld3 => ?_)
  clear hK K
  try simp only [Act.put, List.setIfInBounds_toArray, List.set_cons_zero, List.set_cons_succ]
  refine wpAnyH_take (i := 15) (oi := _) (v := ?_) rfl (by kernel_rfl) (by kernel_rfl) (by kernel_rfl) (fun _ _ _ h => h) (Or.inl ⟨by rfl, ?_⟩) (by assumption) ?_
  rotate_left
  · (intro w0 hSw; (try dsimp only at hSw); (try simp only [List.getElem_toArray, List.getElem_cons_zero, List.getElem_cons_succ]); go_simp; try (with_reducible rfl))
  try simp only [Act.put, List.getElem_toArray, List.getElem_cons_zero, List.getElem_cons_succ, List.setIfInBounds_toArray, List.set_cons_zero, List.set_cons_succ]
  refine wpAnyH_take (i := 16) (oi := _) (v := ?_) rfl (by kernel_rfl) (by kernel_rfl) (by kernel_rfl) (fun _ _ _ h => h) (Or.inl ⟨by rfl, ?_⟩) (by assumption) ?_
  rotate_left
  · (intro w0 hSw; (try dsimp only at hSw); (try simp only [List.getElem_toArray, List.getElem_cons_zero, List.getElem_cons_succ]); go_simp; try (with_reducible rfl))
  try simp only [Act.put, List.getElem_toArray, List.getElem_cons_zero, List.getElem_cons_succ, List.setIfInBounds_toArray, List.set_cons_zero, List.set_cons_succ]
  refine wpAnyH_ready (rs := [20]) (by kernel_rfl) (by simp) ?_
  refine AllReadyH.cons (o := _) rfl (fun K hK => ?_) AllReadyH.nil
  (try simp only [List.getElem_toArray, List.getElem_cons_zero, List.getElem_cons_succ])
  go_simp
  go_at_call 15
  refine (W3.out _).mono ?_
  rintro e w2 ⟨rfl, hb2⟩
  go_wp2_with fail
  refine hK.out _ _ (by first | assumption | exact sees_drew _ | exact sees_call (by assumption) (by assumption)) (fun hHeld4 => ?_)
  clear hK K
  try simp only [Act.put, List.setIfInBounds_toArray, List.set_cons_zero, List.set_cons_succ]
  refine wpAnyH_take (i := 21) (oi := _) (v := ?_) rfl (by kernel_rfl) (by kernel_rfl) (by kernel_rfl) (fun _ _ _ h => h) (Or.inl ⟨by rfl, ?_⟩) (by assumption) ?_
  rotate_left
  · (intro w0 hSw; (try dsimp only at hSw); (try simp only [List.getElem_toArray, List.getElem_cons_zero, List.getElem_cons_succ]); go_simp; try (with_reducible rfl))
  try simp only [Act.put, List.getElem_toArray, List.getElem_cons_zero, List.getElem_cons_succ, List.setIfInBounds_toArray, List.set_cons_zero, List.set_cons_succ]
  refine wpAnyH_take (i := 22) (oi := _) (v := ?_) rfl (by kernel_rfl) (by kernel_rfl) (by kernel_rfl) (fun _ _ _ h => h) (Or.inl ⟨by rfl, ?_⟩) (by assumption) ?_
  rotate_left
  · (intro w0 hSw; (try dsimp only at hSw); (try simp only [List.getElem_toArray, List.getElem_cons_zero, List.getElem_cons_succ]); go_simp; try (with_reducible rfl))
  try simp only [Act.put, List.getElem_toArray, List.getElem_cons_zero, List.getElem_cons_succ, List.setIfInBounds_toArray, List.set_cons_zero, List.set_cons_succ]
  refine wpAnyH_ready (rs := [26]) (by kernel_rfl) (by simp) ?_
  refine AllReadyH.cons (o := _) rfl (fun K hK => ?_) AllReadyH.nil
  (try simp only [List.getElem_toArray, List.getElem_cons_zero, List.getElem_cons_succ])
  go_simp
  go_at_call 15
  refine (W4.out _).mono ?_
  rintro e w2 ⟨rfl, hb2⟩
  go_wp2_with fail
  refine hK.out _ _ (by first | assumption | exact sees_drew _ | exact sees_call (by assumption) (by assumption)) (fun hHeld5 => ?_)
  clear hK K
  try simp only [Act.put, List.setIfInBounds_toArray, List.set_cons_zero, List.set_cons_succ]
  refine wpAnyH_take (i := 27) (oi := _) (v := ?_) rfl (by kernel_rfl) (by kernel_rfl) (by kernel_rfl) (fun _ _ _ h => h) (Or.inl ⟨by rfl, ?_⟩) (by assumption) ?_
  rotate_left
  · (intro w0 hSw; (try dsimp only at hSw); (try simp only [List.getElem_toArray, List.getElem_cons_zero, List.getElem_cons_succ]); go_simp; try (with_reducible rfl))
  try simp only [Act.put, List.getElem_toArray, List.getElem_cons_zero, List.getElem_cons_succ, List.setIfInBounds_toArray, List.set_cons_zero, List.set_cons_succ]
  refine wpAnyH_take (i := 28) (oi := _) (v := ?_) rfl (by kernel_rfl) (by kernel_rfl) (by kernel_rfl) (fun _ _ _ h => h) (Or.inl ⟨by rfl, ?_⟩) (by assumption) ?_
  rotate_left
  · (intro w0 hSw; (try dsimp only at hSw); (try simp only [List.getElem_toArray, List.getElem_cons_zero, List.getElem_cons_succ]); go_simp; try (with_reducible rfl))
  try simp only [Act.put, List.getElem_toArray, List.getElem_cons_zero, List.getElem_cons_succ, List.setIfInBounds_toArray, List.set_cons_zero, List.set_cons_succ]
  refine wpAnyH_take (i := 29) (oi := _) (v := ?_) rfl (by kernel_rfl) (by kernel_rfl) (by kernel_rfl) (fun _ _ _ h => h) (Or.inl ⟨by rfl, ?_⟩) (by assumption) ?_
  rotate_left
  · (intro w0 hSw; (try dsimp only at hSw); (try simp only [List.getElem_toArray, List.getElem_cons_zero, List.getElem_cons_succ]); go_simp; try (with_reducible rfl))
  try simp only [Act.put, List.getElem_toArray, List.getElem_cons_zero, List.getElem_cons_succ, List.setIfInBounds_toArray, List.set_cons_zero, List.set_cons_succ]
  refine wpAnyH_done (by kernel_rfl) ?_ _
  refine NoPanic.normal ?_
  go_wp2_with fail
  go_ret
  exact ⟨ret_str (congrArg bs HT.out), HB.out.trans (Below.mono (And.left (by assumption)) HB.out.size)⟩


end Go.Proofs.YtdiahnommkhkiaaDoor
