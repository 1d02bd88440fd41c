import Derived.Test.YtllaedigdjhkjaaRhJ
namespace Go.Proofs.Ytllaedigdjhkjaa
open Go.RowKit

theorem ref_one : RefP 1 [[1], [-1]] [[]] := by
  refine ⟨⟨by decide, by decide, by decide⟩, rfl, fun i c hc => ?_⟩
  have h0 : i = 0 := by
    have := (List.getElem?_eq_some_iff.1 hc).1
    simp at this; exact this
  subst h0
  simp at hc
  subst hc
  refine ⟨fun m hm => (by cases hm), .inr ⟨[-1], by simp, fun m hm => ?_⟩⟩
  rw [List.mem_singleton.1 hm]
  exact .unit (c := [1]) (by simp) (by simp) (fun m hm hne => absurd (List.mem_singleton.1 hm) hne)
theorem block_row {w : World} {B b sz : Nat} {els : List (List Value)} {cs : Array Value} {t : TypeId} (hb : b < B) (hh : w.heap[b]? = some (.cells cs t (0, 0))) (hs : ∀ l, l ∈ els → l.length = sz) (hf : els.flatten = cs.toList) : RowAt B w (some ⟨b, 0, none⟩) sz els :=
  rowAt_flat hb hs (fun m v hm => by
    rw [cell_of_row _ _ m cs _ _ hh]
    rw [hf] at hm
    simpa using hm)
theorem check_one (W : World) : Calls Try.prog 7
    #[.agg #[.int .i64 1, .slice (some ⟨W.heap.size + 1 + 1, 0, none⟩) 2 2], .slice (some ⟨W.heap.size + 1 + 1 + 1, 0, none⟩) 1 1]
    ((((W.alloc (.cells #[.int .i64 1] 3)).alloc (.cells #[.int .i64 (-1)] 3)).alloc (.cells #[.slice (some ⟨W.heap.size, 0, none⟩) 1 1, .slice (some ⟨W.heap.size + 1, 0, none⟩) 1 1] 26)).alloc (.cells #[.slice none 0 0] 26))
    fun e w' => e = .returned (.bool true) ∧ Below W.heap.size W w' := by
  have s1 : (W.alloc (.cells #[.int .i64 1] 3)).heap.size = W.heap.size + 1 := by simp
  have b1 := heap_new W (.cells #[.int .i64 1] 3)
  have B1 : Below W.heap.size W (W.alloc (.cells #[.int .i64 1] 3)) := (Below.refl _ _).alloc (Nat.le_refl _) _
  generalize W.alloc (.cells #[.int .i64 1] 3) = w1 at *
  have s2 : (w1.alloc (.cells #[.int .i64 (-1)] 3)).heap.size = w1.heap.size + 1 := by simp
  have b2 := heap_new w1 (.cells #[.int .i64 (-1)] 3)
  have c1 := (heap_alloc_old w1 (.cells #[.int .i64 (-1)] 3) (k := W.heap.size) (by omega)).trans b1
  have B2 : Below W.heap.size W (w1.alloc (.cells #[.int .i64 (-1)] 3)) := B1.alloc (by omega) _
  generalize w1.alloc (.cells #[.int .i64 (-1)] 3) = w2 at *
  have s3 : (w2.alloc (.cells #[.slice (some ⟨W.heap.size, 0, none⟩) 1 1, .slice (some ⟨W.heap.size + 1, 0, none⟩) 1 1] 26)).heap.size = w2.heap.size + 1 := by simp
  have b3 := heap_new w2 (.cells #[.slice (some ⟨W.heap.size, 0, none⟩) 1 1, .slice (some ⟨W.heap.size + 1, 0, none⟩) 1 1] 26)
  have d1 := (heap_alloc_old w2 (.cells #[.slice (some ⟨W.heap.size, 0, none⟩) 1 1, .slice (some ⟨W.heap.size + 1, 0, none⟩) 1 1] 26) (k := W.heap.size) (by omega)).trans c1
  have d2 := (heap_alloc_old w2 (.cells #[.slice (some ⟨W.heap.size, 0, none⟩) 1 1, .slice (some ⟨W.heap.size + 1, 0, none⟩) 1 1] 26) (k := w1.heap.size) (by omega)).trans b2
  have B3 : Below W.heap.size W (w2.alloc (.cells #[.slice (some ⟨W.heap.size, 0, none⟩) 1 1, .slice (some ⟨W.heap.size + 1, 0, none⟩) 1 1] 26)) := B2.alloc (by omega) _
  generalize w2.alloc (.cells #[.slice (some ⟨W.heap.size, 0, none⟩) 1 1, .slice (some ⟨W.heap.size + 1, 0, none⟩) 1 1] 26) = w3 at *
  have s4 : (w3.alloc (.cells #[.slice none 0 0] 26)).heap.size = w3.heap.size + 1 := by simp
  have b4 := heap_new w3 (.cells #[.slice none 0 0] 26)
  have e1 := (heap_alloc_old w3 (.cells #[.slice none 0 0] 26) (k := W.heap.size) (by omega)).trans d1
  have e2 := (heap_alloc_old w3 (.cells #[.slice none 0 0] 26) (k := w1.heap.size) (by omega)).trans d2
  have e3 := (heap_alloc_old w3 (.cells #[.slice none 0 0] 26) (k := w2.heap.size) (by omega)).trans b3
  have B4 : Below W.heap.size W (w3.alloc (.cells #[.slice none 0 0] 26)) := B3.alloc (by omega) _
  generalize w3.alloc (.cells #[.slice none 0 0] 26) = w4 at *
  rw [s1] at e2 s2
  rw [s2] at e3 s3
  rw [s3] at b4 s4
  have hcl : ClAt w4.heap.size w4 (some ⟨W.heap.size + 1 + 1, 0, none⟩) [⟨some ⟨W.heap.size, 0, none⟩, 1, [1]⟩, ⟨some ⟨W.heap.size + 1, 0, none⟩, 1, [-1]⟩] := by
    refine ⟨block_row (by omega) e3 (by intro l hl; simp [CL.cells] at hl; rcases hl with rfl | rfl <;> rfl) (by simp [CL.cells]), fun t ht => ?_, by simp [total]⟩
    simp at ht
    rcases ht with rfl | rfl
    · exact block_row (by omega) e1 (by intro l hl; simp [intC] at hl; subst hl; rfl) (by simp [intC])
    · exact block_row (by omega) e2 (by intro l hl; simp [intC] at hl; subst hl; rfl) (by simp [intC])
  have hst : ClAt w4.heap.size w4 (some ⟨W.heap.size + 1 + 1 + 1, 0, none⟩) [⟨none, 0, []⟩] := by
    refine ⟨block_row (by omega) b4 (by intro l hl; simp [CL.cells] at hl; subst hl; rfl) (by simp [CL.cells]), fun t ht => ?_, by simp [total]⟩
    simp at ht
    subst ht
    exact fun he => absurd rfl he
  refine (check_any w4.heap.size w4 _ 2 1 _ hcl (Nat.le_refl _) _ 1 _ hst (by simp [total])).mono ?_
  rintro e w' ⟨b, rfl, hiff, hb⟩
  have : b = true := hiff.2 ref_one
  subst this
  exact ⟨rfl, B4.trans (hb.mono B4.size)⟩
set_option maxRecDepth 100000 in
set_option maxHeartbeats 8000000 in
theorem law_refute (w : World) (a : Option Addr) (cc : Nat) (v : Int) (cls : List CL) (h : ClAt w.heap.size w a cls) (sa : Option Addr) (sc : Nat) (stp : List CL) (hst : ClAt w.heap.size w sa stp) (htot : total cls + total stp ≤ 16777216) :
    Calls Try.prog 3 #[.agg #[.int .i64 v, .slice a cls.length cc], .slice sa stp.length sc] w fun e w' => e = .returned (.bool true) ∧ Below w.heap.size w w' := by
  have HCL := hidden h
  have HST := hidden hst
  clear h hst
  go_enter Try.func3, Try.ntmps3
  go_upto_region 1 with fail
  generalize hW : World.alloc w _ = W
  obtain ⟨fx, hfx⟩ : ∃ x, x = w.heap.size := ⟨_, rfl⟩
  have HB1 : Hid (Below w.heap.size w W) := by rw [← hW]; exact (Below.refl _ _).alloc (Nat.le_refl _) _
  have HX : Hid (W.heap[fx]? = some (.cells #[.int .i64 v, .slice a cls.length cc] 24 (0, 0))) := by rw [← hW, hfx]; exact heap_new _ _
  have hfl : fx < W.heap.size := by rw [← hW, hfx]; simp
  rw [← hfx]
  clear hW hfx
  go_wp2_with fail
  go_at_call 7
  refine (check_one W).mono ?_
  rintro e w1 ⟨rfl, hb1⟩
  have HB2 : Hid (Below w.heap.size w w1) := HB1.out.trans (hb1.mono HB1.out.size)
  have HX1 : Hid (w1.heap[fx]? = some (.cells #[.int .i64 v, .slice a cls.length cc] 24 (0, 0))) := (hb1.block fx hfl).trans HX.out
  have hfl1 : fx < w1.heap.size := Nat.lt_of_lt_of_le hfl hb1.size
  have f0 : w1.cell? ⟨fx, 0, none⟩ = some (.int .i64 v) := cell_of_row _ _ 0 _ _ (0, 0) HX1.out
  have f1 : w1.cell? ⟨fx, 1, none⟩ = some (.slice a cls.length cc) := cell_of_row _ _ 1 _ _ (0, 0) HX1.out
  have CK := hidden (check_any w.heap.size w1 a cc v cls (HCL.out.to HB2.out) HB2.out.size sa sc stp (HST.out.to HB2.out) htot)
  clear hb1 HB1 HX
  go_wp2_with fail
  go_at_call 7
  refine CK.out.mono ?_
  rintro e w2 ⟨b, rfl, hiff, hb2⟩
  have HIFF := hidden hiff
  have HB3 : Hid (Below w.heap.size w w2) := HB2.out.trans (hb2.mono HB2.out.size)
  have g0 : w2.cell? ⟨fx, 0, none⟩ = some (.int .i64 v) := (hb2.cell (p := ⟨fx, 0, none⟩) hfl1).trans f0
  have g1 : w2.cell? ⟨fx, 1, none⟩ = some (.slice a cls.length cc) := (hb2.cell (p := ⟨fx, 1, none⟩) hfl1).trans f1
  have RF := hidden (refuted_any w.heap.size w2 a cc v cls (HCL.out.to HB3.out) HB3.out.size sa sc stp (HST.out.to HB3.out) htot)
  clear hiff hb2 f0 f1 CK
  go_wp2_with fail
  go_at_call 8
  refine RF.out.mono ?_
  rintro e w3 ⟨b', rfl, hiff', hb3⟩
  have HB4 : Hid (Below w.heap.size w w3) := HB3.out.trans (hb3.mono HB3.out.size)
  have hbb : b = b' := by
    cases b <;> cases b'
    · rfl
    · exact HIFF.out.2 (hiff'.1 rfl)
    · exact (hiff'.2 (HIFF.out.1 rfl)).symm
    · rfl
  subst hbb
  clear hiff' hb3 RF g0 g1
  cases b
  · go_wp2
    go_ret
    exact ⟨rfl, HB4.out⟩
  · go_wp2
    go_ret
    exact ⟨rfl, HB4.out⟩

end Go.Proofs.Ytllaedigdjhkjaa
