import Derived.Test.YtiillkhhnajmdaaDoorSaF
namespace Go.Proofs.YtiillkhhnajmdaaDoor
open Go.RowKit

def ownC (p : Nat) : List CL := [⟨some ⟨p, 0, none⟩, 2, [1, -1]⟩]
theorem own_ok (p : Nat) : FmOk 1 (ownC p) = true := by simp [FmOk, ownC, litOk]
theorem own_txt (p : Nat) : bs (fmT 1 (ownC p)) = ⟨#[112, 32, 99, 110, 102, 32, 49, 32, 49, 10, 49, 32, 45, 49, 32, 48, 10]⟩ := by
  have d1 : decI 1 = [49] := by unfold decI; rw [decTxt_small _ (by decide)]; rfl
  have l1 : litT 1 = [49] := by unfold litT; rw [if_neg (by decide), d1]
  have l2 : litT (-1) = [45, 49] := by unfold litT; rw [if_pos (by decide)]; exact congrArg (List.cons 45) d1
  have e : fmT 1 (ownC p) = [112, 32, 99, 110, 102, 32, 49, 32, 49, 10, 49, 32, 45, 49, 32, 48, 10] := by
    unfold fmT headT clsT ownC clP
    simp only [List.map_cons, List.map_nil, List.flatten_cons, List.flatten_nil, List.length_cons, List.length_nil]
    rw [show ((0 + 1 : Nat) : Int) = 1 from rfl, d1, l1, l2]; rfl
  rw [e]; rfl

set_option maxRecDepth 100000 in
set_option maxHeartbeats 8000000 in
theorem law_prints (B : Nat) (w : World) (a : Option Addr) (c : Nat) (v : Int) (cls : List CL) (h : ClAt B w a cls) (hB : B ≤ w.heap.size) (hT : Tens w) (hG : Tryd.prog.globals.size ≤ w.heap.size) :
    Calls Tryd.prog 3 #[.agg #[.int .i64 v, .slice a cls.length c]] w fun e w' => e = .returned (.bool true) ∧ Below w.heap.size w w' := by
  obtain ⟨r, HR⟩ : ∃ r, Hid (FmOk v cls = r) := ⟨_, rfl⟩
  have VL : Hid (∀ w', Below w.heap.size w w' → Calls Tryd.prog 5 #[.agg #[.int .i64 v, .slice a cls.length c]] w' fun e w'' => e = .returned (.bool r) ∧ Below w'.heap.size w' w'') := fun w' hw' => by
    have := cnfValid_any B w' a c v cls (h.to (hw'.mono hB)) (Nat.le_trans hB hw'.size)
    rw [HR.out] at this
    exact this
  have PR : Hid (r = true → ∀ w', Below w.heap.size w w' → Calls Tryd.prog 4 #[.agg #[.int .i64 v, .slice a cls.length c]] w' fun e w'' => e = .returned (.string (bs (fmT v cls))) ∧ Below w'.heap.size w' w'') := fun hr w' hw' =>
    print_any B w' a c v cls (h.to (hw'.mono hB)) (Nat.le_trans hB hw'.size) (HR.out.trans hr) (hT.to hw' hG) (Nat.le_trans hG hw'.size)
  have CP : Hid (r = true → ∀ w', Below w.heap.size w w' → Calls Tryd.prog 6 #[.agg #[.int .i64 v, .slice a cls.length c]] w' fun e w'' => e = .returned (.string (bs (fmT v cls))) ∧ Below w'.heap.size w' w'') := fun hr w' hw' =>
    cnfPrint_any B w' a c v cls (h.to (hw'.mono hB)) (Nat.le_trans hB hw'.size) (HR.out.trans hr)
  have OW : Hid (∀ (w' : World) (p q : Nat), Below w.heap.size w w' → ClAt w'.heap.size w' (some ⟨q, 0, none⟩) (ownC p) → Calls Tryd.prog 4 #[.agg #[.int .i64 1, .slice (some ⟨q, 0, none⟩) 1 1]] w' fun e w'' => e = .returned (.string ⟨#[112, 32, 99, 110, 102, 32, 49, 32, 49, 10, 49, 32, 45, 49, 32, 48, 10]⟩) ∧ Below w'.heap.size w' w'') := fun w' p q hw' hc => by
    have := print_any w'.heap.size w' (some ⟨q, 0, none⟩) 1 1 (ownC p) hc (Nat.le_refl _) (own_ok p) (hT.to hw' hG) (Nat.le_trans hG hw'.size)
    rw [own_txt p] at this
    exact this
  clear h HR hT hG
  generalize fmT v cls = ft at *
  generalize cls.length = n at *
  go_enter Tryd.func3, Tryd.ntmps3
  go_upto_region 1 with fail
  generalize hW : World.alloc w _ = V
  obtain ⟨gx, hgx⟩ : ∃ x, x = w.heap.size := ⟨_, rfl⟩
  have HBV : Hid (Below w.heap.size w V) := by rw [← hW]; exact (Below.refl _ _).alloc (Nat.le_refl _) _
  have HG4 : Hid (∀ j, V.cell? ⟨gx, j, none⟩ = (#[.int .i64 v, .slice a n c] : Array Value)[j]?) := by
    rw [← hW, hgx]; intro j; exact cell_new rfl
  have hgl : gx < V.heap.size := by rw [← hW, hgx]; simp
  rw [← hgx]
  clear hW hgx
  have q0 := HG4.out 0
  have q1 := HG4.out 1
  simp at q0 q1
  have K2 : Hid (∀ w', Below V.heap.size V w' → w'.cell? ⟨gx, 0, none⟩ = some (.int .i64 v) ∧ w'.cell? ⟨gx, 1, none⟩ = some (.slice a n c)) := fun w' hb => ⟨(hb.cell (p := ⟨gx, 0, none⟩) hgl).trans q0, (hb.cell (p := ⟨gx, 1, none⟩) hgl).trans q1⟩
  clear HG4 q0 q1
  go_wp2_with fail
  generalize hW2 : World.alloc (World.alloc V _) _ = W
  have hs2 : W.heap.size = V.heap.size + 2 := by rw [← hW2]; simp
  have HB2 : Hid (Below V.heap.size V W) := by
    rw [← hW2]
    exact ((Below.refl _ _).alloc (Nat.le_refl _) _).alloc (by simp) _
  have z0 : ∀ j, W.cell? ⟨V.heap.size, j, none⟩ = (#[.int .i64 1, .int .i64 (-1)] : Array Value)[j]? := by intro j; rw [← hW2, World.cell?_alloc_lt _ _ _ (by first | (simp; done) | (simp; omega))]; exact cell_new rfl
  have z1 : ∀ j, W.cell? ⟨V.heap.size + 1, j, none⟩ = (#[.slice (some ⟨V.heap.size, 0, none⟩) 2 2] : Array Value)[j]? := by intro j; rw [← hW2]; exact cell_new (by simp)
  have HC : Hid (ClAt W.heap.size W (some ⟨V.heap.size + 1, 0, none⟩) (ownC V.heap.size)) := by
    refine ⟨?_, ?_, by simp [total, ownC]⟩
    · intro _
      refine ⟨V.heap.size + 1, 0, rfl, by omega, ?_⟩
      intro i cs hi j x hx
      have hi0 : i = 0 := by
        have := (List.getElem?_eq_some_iff.1 hi).1
        simp [ownC] at this; exact this
      subst hi0
      simp only [ownC, List.map_cons, List.map_nil, List.getElem?_cons_zero, Option.some.injEq] at hi
      subst hi
      have hj0 : j = 0 := by
        have := (List.getElem?_eq_some_iff.1 hx).1
        simp [CL.cells] at this; exact this
      subst hj0
      simp only [CL.cells, List.getElem?_cons_zero, Option.some.injEq] at hx
      subst hx
      have := z1 0
      simpa using this
    · intro t ht
      simp only [ownC, List.mem_singleton] at ht
      subst ht
      intro _
      refine ⟨V.heap.size, 0, rfl, by show V.heap.size < W.heap.size; omega, ?_⟩
      intro i cs hi j x hx
      have hi2 : i < 2 := by
        have := (List.getElem?_eq_some_iff.1 hi).1
        simpa using this
      have hz := z0 i
      match i, hi2 with
      | 0, _ =>
        simp [intC] at hi; subst hi
        have hj0 : j = 0 := by have := (List.getElem?_eq_some_iff.1 hx).1; simpa using this
        subst hj0
        simp at hx; subst hx
        simpa using hz
      | 1, _ =>
        simp [intC] at hi; subst hi
        have hj0 : j = 0 := by have := (List.getElem?_eq_some_iff.1 hx).1; simpa using this
        subst hj0
        simp at hx; subst hx
        simpa using hz
  have HBW : Hid (Below w.heap.size w W) := HBV.out.trans (HB2.out.mono HBV.out.size)
  have OWN := hidden (OW.out W V.heap.size (V.heap.size + 1) HBW.out HC.out)
  clear hW2 z0 z1 HC OW hs2
  go_at_call 4
  refine OWN.out.mono ?_
  rintro e x1 ⟨rfl, hb1⟩
  have HBV1 : Hid (Below V.heap.size V x1) := HB2.out.trans (hb1.mono HB2.out.size)
  have HBw1 : Hid (Below w.heap.size w x1) := HBV.out.trans (HBV1.out.mono HBV.out.size)
  clear hb1 OWN HB2 HBW
  obtain ⟨q0, q1⟩ := K2.out _ HBV1.out
  go_wp2_with fail
  go_at_call 5
  refine (VL.out _ HBw1.out).mono ?_
  rintro e x2 ⟨rfl, hb2⟩
  have HBV2 : Hid (Below V.heap.size V x2) := HBV1.out.trans (hb2.mono HBV1.out.size)
  have HBw2 : Hid (Below w.heap.size w x2) := HBV.out.trans (HBV2.out.mono HBV.out.size)
  clear hb2 VL q0 q1 HBV1 HBw1
  cases r
  · clear PR CP
    go_wp2
    go_ret
    exact ⟨rfl, HBw2.out⟩
  · have P1 := hidden (PR.out rfl)
    have C1 := hidden (CP.out rfl)
    clear PR CP
    obtain ⟨q0, q1⟩ := K2.out _ HBV2.out
    go_wp2_with fail
    go_at_call 4
    refine (P1.out _ HBw2.out).mono ?_
    rintro e x3 ⟨rfl, hb3⟩
    have HBV3 : Hid (Below V.heap.size V x3) := HBV2.out.trans (hb3.mono HBV2.out.size)
    have HBw3 : Hid (Below w.heap.size w x3) := HBV.out.trans (HBV3.out.mono HBV.out.size)
    clear hb3 P1 q0 q1 HBV2 HBw2
    obtain ⟨q0, q1⟩ := K2.out _ HBV3.out
    generalize bs ft = fs at *
    go_wp2_with fail
    go_at_call 6
    refine (C1.out _ HBw3.out).mono ?_
    rintro e x4 ⟨rfl, hb4⟩
    have HBw4 : Hid (Below w.heap.size w x4) := HBw3.out.trans (hb4.mono HBw3.out.size)
    clear hb4 C1 q0 q1
    go_wp2
    go_ret
    exact ⟨rfl, HBw4.out⟩

end Go.Proofs.YtiillkhhnajmdaaDoor
