import Derived.Test.YtpipdmeibfkehaaAcH
import Derived.Deep.CutBlock
namespace Go.Proofs.Ytpipdmeibfkehaa
open Go.RowKit

def firstN (G : GrD) : Nat := 1 + G.ins.toNat + G.lats.length
def nd0C (G : GrD) : List Bool := marks (marks (List.replicate (firstN G + G.ands.length) false) (G.outs.map vOf)) (G.lats.map nOf)
def needR (G : GrD) : List Bool := sweepC (firstN G) (opsOf G) G.ands.length (nd0C G)
def nkOf (G : GrD) : List Bool := (needR G).drop (firstN G)
def cleanOf (G : GrD) : GrD := cleanG (firstN G) (nkOf G) G
theorem nd0C_len (G : GrD) : (nd0C G).length = firstN G + G.ands.length := by unfold nd0C; rw [marks_len, marks_len, List.length_replicate]
theorem needR_len (G : GrD) : (needR G).length = firstN G + G.ands.length := by unfold needR; rw [sweepC_len, nd0C_len]
theorem nkOf_len (G : GrD) : (nkOf G).length = G.ands.length := by unfold nkOf; rw [List.length_drop, needR_len]; omega
/-- what a valid graph has -/
structure FineG (G : GrD) (ni n : Nat) : Prop where
  ins : G.ins = (ni : Int)
  first : firstN G = 1 + ni + G.lats.length
  all : firstN G + G.ands.length = n
  le : n ≤ 60000
  ll : G.lats.length ≤ 6000
  lo : G.outs.length ≤ 60000
  ands : ∀ (k : Nat) (d : AndD), G.ands[k]? = some d → (0 ≤ d.x ∧ d.x < 2 * ((firstN G + k : Nat) : Int)) ∧ (0 ≤ d.y ∧ d.y < 2 * ((firstN G + k : Nat) : Int))
  lats : ∀ z, z ∈ G.lats → 0 ≤ z.next ∧ z.next < 2 * (n : Int)
  outs : ∀ z, z ∈ G.outs → 0 ≤ z ∧ z < 2 * (n : Int)
theorem fine_of {G : GrD} (h : GrOk G = true) : ∃ ni n, FineG G ni n := by
  unfold GrOk at h
  simp only [Bool.and_eq_true, decide_eq_true_eq] at h
  obtain ⟨⟨⟨⟨h0, h1, h2, h3, h4⟩, ha⟩, hl⟩, ho⟩ := h
  have hf : G.first = (firstN G : Int) := by unfold GrD.first firstN; omega
  have hv : G.vars = ((firstN G + G.ands.length : Nat) : Int) := by unfold GrD.vars; rw [hf]; omega
  refine ⟨G.ins.toNat, firstN G + G.ands.length, by omega, rfl, rfl, by omega, h2, h3, ?_, ?_, ?_⟩
  · intro k d hd
    have hk := (List.getElem?_eq_some_iff.1 hd).1
    have := List.all_eq_true.1 ha k (List.mem_range.2 hk)
    rw [andOk_of hd, hf] at this
    simp only [litOk, Bool.and_eq_true, decide_eq_true_eq] at this
    omega
  · intro z hz
    have := List.all_eq_true.1 hl z hz
    unfold latOk at this
    rw [hv] at this
    simpa only [litOk, decide_eq_true_eq] using this
  · intro z hz
    have := List.all_eq_true.1 ho z hz
    rw [hv] at this
    simpa only [litOk, decide_eq_true_eq] using this
/-- an own row, by its elements -/
theorem own_row {w : World} {C e sz n : Nat} {v : Value} {els : List (List Value)} (h : w.ownsRow C e sz v n els.flatten) (hs : ∀ l, l ∈ els → l.length = sz) (hz : 0 < sz) : ∃ a c, v = .slice a n c ∧ RowAt w.heap.size w a sz els := by
  rcases h.2 with ⟨h0, h1⟩ | ⟨g, cap, cur, hv, h1⟩
  · refine ⟨none, 0, by rw [h0, h1], ?_⟩
    have hl := h.1
    rw [h1, Nat.zero_mul] at hl
    intro hne
    exfalso
    cases els with
    | nil => exact hne rfl
    | cons x t =>
      have := hs x List.mem_cons_self
      rw [List.flatten_cons, List.length_append] at hl
      omega
  · subst hv
    refine ⟨_, cap, rfl, rowAt_flat (h.lt g rfl).2 hs fun m v hm => ?_⟩
    have := (List.getElem?_eq_some_iff.1 hm).1
    rw [h.cellAt m (by have := h.1; omega)]; exact hm

theorem set4 {w : World} {b : Nat} {o0 o1 o2 o3 : Value} (h0 : w.cell? ⟨b, 0, none⟩ = some o0) (h1 : w.cell? ⟨b, 1, none⟩ = some o1) (h2 : w.cell? ⟨b, 2, none⟩ = some o2) (h3 : w.cell? ⟨b, 3, none⟩ = some o3) (x0 x1 x2 x3 : Value) :
    ((((w.setCell ⟨b, 0, none⟩ x0).setCell ⟨b, 1, none⟩ x1).setCell ⟨b, 2, none⟩ x2).setCell ⟨b, 3, none⟩ x3).cell? ⟨b, 0, none⟩ = some x0 ∧ ((((w.setCell ⟨b, 0, none⟩ x0).setCell ⟨b, 1, none⟩ x1).setCell ⟨b, 2, none⟩ x2).setCell ⟨b, 3, none⟩ x3).cell? ⟨b, 1, none⟩ = some x1 ∧ ((((w.setCell ⟨b, 0, none⟩ x0).setCell ⟨b, 1, none⟩ x1).setCell ⟨b, 2, none⟩ x2).setCell ⟨b, 3, none⟩ x3).cell? ⟨b, 2, none⟩ = some x2 ∧ ((((w.setCell ⟨b, 0, none⟩ x0).setCell ⟨b, 1, none⟩ x1).setCell ⟨b, 2, none⟩ x2).setCell ⟨b, 3, none⟩ x3).cell? ⟨b, 3, none⟩ = some x3 := by
  have n : ∀ i j : Nat, i ≠ j → (⟨b, i, none⟩ : Addr) ≠ ⟨b, j, none⟩ := fun i j h e => h (by injection e)
  have o : ∀ (w : World) (i j : Nat) (x : Value), i ≠ j → (w.setCell ⟨b, i, none⟩ x).cell? ⟨b, j, none⟩ = w.cell? ⟨b, j, none⟩ := fun w i j x h => by apply World.cell?_setCell_other; exact n i j h
  refine ⟨?_, ?_, ?_, ?_⟩
  · rw [o _ 3 0 _ (by decide), o _ 2 0 _ (by decide), o _ 1 0 _ (by decide)]; apply World.cell?_setCell_same; exact h0
  · rw [o _ 3 1 _ (by decide), o _ 2 1 _ (by decide)]; apply World.cell?_setCell_same; exact ((o _ 0 1 _ (by decide)).trans h1)
  · rw [o _ 3 2 _ (by decide)]; apply World.cell?_setCell_same; exact ((o _ 1 2 _ (by decide)).trans ((o _ 0 2 _ (by decide)).trans h2))
  · apply World.cell?_setCell_same; exact ((o _ 2 3 _ (by decide)).trans ((o _ 1 3 _ (by decide)).trans ((o _ 0 3 _ (by decide)).trans h3)))
theorem own_not {w : World} {C e sz n : Nat} {v : Value} {xs : List Value} (h : w.ownsRow C e sz v n xs) {x : Nat} (hx : x < C) : v.ownBlock = none ∨ v.ownBlock ≠ some x := by
  refine .inr fun e => ?_
  have := (h.lt x e).1
  omega

set_option maxRecDepth 100000 in
set_option maxHeartbeats 16000000 in
theorem cleanGraph_any (B : Nat) (w : World) (S : GrS) (G : GrD) (h : GrAt B w S G) (hB : B ≤ w.heap.size) (hok : GrOk G = true) :
    Calls Try.prog 9 #[.agg (S.cells G)] w fun e w' => (∃ T, e = .returned (.agg (T.cells (cleanOf G))) ∧ GrAt w'.heap.size w' T (cleanOf G)) ∧ Below w.heap.size w w' := by
  obtain ⟨ni, n, hF⟩ := fine_of hok
  have VA : Hid (∀ w' : World, Calls Try.prog 10 #[.agg (S.cells G)] w' fun e w'' => e = .returned (.int .i64 (n : Int)) ∧ Below w'.heap.size w' w'') := fun w' => by
    have := vars_any w' S G (by rw [hF.ins]; omega) (by have := hF.first; have := hF.le; have := hF.all; rw [hF.ins]; omega) h.ll h.la
    rw [show G.vars = (n : Int) by unfold GrD.vars GrD.first; rw [hF.ins]; have := hF.first; have := hF.all; omega] at this
    exact this
  obtain ⟨ib, hib, hzb, hsb, hbb⟩ := info_bool
  have HI := hidden hib
  have HZ := hidden hzb
  have HS := hidden hsb
  have HBY := hidden hbb
  clear hib hzb hsb hbb
  obtain ⟨first, hfd⟩ : ∃ f, f = firstN G := ⟨_, rfl⟩
  have HIN := hidden hF.ins
  have HFI := hidden hF
  have HFD := hidden hfd
  have hf1 := hF.first
  have hf2 := hF.all
  have hf3 := hF.le
  have hf4 := hF.ll
  have hf5 := hF.lo
  rw [← hfd] at hf1 hf2
  have HAT := hidden h
  clear h hF hfd hok
  unfold GrS.cells at *
  have hmkb : ib.bytes * n ≤ 281474976710656 := by rw [HBY.out]; omega
  have hmx : n ≤ maxLen := by simp only [maxLen]; omega
  rw [HIN.out] at VA ⊢
  go_enter Try.func9, Try.ntmps9
  go_upto_region 2 with fail
  generalize hW0 : World.alloc (World.alloc w _) _ = W0
  have HB0 : Hid (Below w.heap.size w W0) := by rw [← hW0]; exact ((Below.refl _ _).alloc (Nat.le_refl _) _).alloc (by simp) _
  have HSZ0 : Hid (W0.heap.size = w.heap.size + 2) := by show _ = _; rw [← hW0]; simp
  have HQ : Hid (∀ j, W0.cell? ⟨w.heap.size, j, none⟩ = (#[.int .i64 (ni : Int), .slice S.a1 G.lats.length S.c1, .slice S.a2 G.ands.length S.c2, .slice S.a3 G.outs.length S.c3] : Array Value)[j]?) := by
    rw [← hW0]; intro j
    rw [World.cell?_alloc_lt _ _ _ (by simp)]; exact cell_new rfl
  have HQR : Hid (∀ j, W0.cell? ⟨w.heap.size + 1, j, none⟩ = (#[.int .i64 0, .slice none 0 0, .slice none 0 0, .slice none 0 0] : Array Value)[j]?) := by
    rw [← hW0]; intro j
    exact cell_new (by simp)
  have p0 := HQ.out 0
  have p1 := HQ.out 1
  have p2 := HQ.out 2
  have p3 := HQ.out 3
  simp at p0 p1 p2 p3
  go_wp2_with fail
  go_at_call 10
  refine (VA.out _).mono ?_
  rintro e w0 ⟨rfl, hb0⟩
  have HBa : Hid (Below w.heap.size w w0) := HB0.out.trans (hb0.mono HB0.out.size)
  have HQ0 : Hid (∀ j, w0.cell? ⟨w.heap.size, j, none⟩ = (#[.int .i64 (ni : Int), .slice S.a1 G.lats.length S.c1, .slice S.a2 G.ands.length S.c2, .slice S.a3 G.outs.length S.c3] : Array Value)[j]?) := fun j => (hb0.cell (p := ⟨w.heap.size, j, none⟩) (by have := HSZ0.out; show w.heap.size < _; omega)).trans (HQ.out j)
  have HQR0 : Hid (∀ j, w0.cell? ⟨w.heap.size + 1, j, none⟩ = (#[.int .i64 0, .slice none 0 0, .slice none 0 0, .slice none 0 0] : Array Value)[j]?) := fun j => (hb0.cell (p := ⟨w.heap.size + 1, j, none⟩) (by have := HSZ0.out; show w.heap.size + 1 < _; omega)).trans (HQR.out j)
  have HRF : Hid (∀ j, w0.frozen? ⟨w.heap.size + 1, j, none⟩ = false) := fun j => (hb0.frozen (p := ⟨w.heap.size + 1, j, none⟩) (by have := HSZ0.out; show w.heap.size + 1 < _; omega)).trans (by rw [← hW0]; exact World.frozen?_alloc_at _ _ _ _ (by simp))
  have hsz0 : w.heap.size + 2 ≤ w0.heap.size := by have := HSZ0.out; have := hb0.size; omega
  clear hb0 hW0 HQ HQR HB0 HSZ0 p0 p1 p2 p3
  have tok : True := trivial
  go_upto_block 0 with (have _t := tok; at_make; (refine wpList_make_full _ rfl (.tmp 26) (.tmp 26) 37 rfl w0.heap.size 4 ib _ 1 Try.underlying37 HI.out HZ.out HS.out .i64 .i64 (n : Int) (n : Int) n rfl rfl rfl rfl hmkb hmx (Nat.le_refl _) ?_; intro w1 hown1 hgrow1; have HB1 := hidden (HBa.out.trans ((none_below hgrow1).mono HBa.out.size)); have HOM := hidden hown1; have HG1 := hidden hgrow1; clear tok hown1 hgrow1))
  rw [show (1 : Int) + (ni : Int) + (G.lats.length : Int) = (first : Int) by omega]
  have hfn : first ≤ n := by omega
  have hf0 : 1 ≤ first := by omega
  clear hf1
  obtain ⟨g, hgd⟩ : ∃ g, g = w0.heap.size := ⟨_, rfl⟩
  have hg1 : w.heap.size + 2 ≤ g := by omega
  have HM : Hid (w1.ownsRow g 4 1 (.slice (some ⟨g, 0, none⟩) n n) n ((List.replicate n false).map bV)) := by
    have := HOM.out
    rw [made_false, ← hgd] at this
    exact this
  have hgl : g < w1.heap.size := (HM.out.lt g rfl).2
  rw [← hgd]
  have HQ1 : Hid (∀ j, w1.cell? ⟨w.heap.size, j, none⟩ = (#[.int .i64 (ni : Int), .slice S.a1 G.lats.length S.c1, .slice S.a2 G.ands.length S.c2, .slice S.a3 G.outs.length S.c3] : Array Value)[j]?) := fun j => (HG1.out.cell_far ⟨w.heap.size, j, none⟩ (by show w.heap.size < _; omega) (by simp)).trans (HQ0.out j)
  have HQR1 : Hid (∀ j, w1.cell? ⟨w.heap.size + 1, j, none⟩ = (#[.int .i64 0, .slice none 0 0, .slice none 0 0, .slice none 0 0] : Array Value)[j]?) := fun j => (HG1.out.cell_far ⟨w.heap.size + 1, j, none⟩ (by show w.heap.size + 1 < _; omega) (by simp)).trans (HQR0.out j)
  have HRF1 : Hid (∀ j, w1.frozen? ⟨w.heap.size + 1, j, none⟩ = false) := fun j => (HG1.out.frozen_far ⟨w.heap.size + 1, j, none⟩ (by show w.heap.size + 1 < _; omega) (by simp)).trans (HRF.out j)
  have HAT1 : Hid (GrAt B w1 S G) := HAT.out.to (HB1.out.mono hB)
  clear HRF HQR0 HQ0 HOM HG1 hgd HBa HAT hsz0 VA HI HZ HS HBY hmkb hmx
  refine cgOuts w1 G B g g n w.heap.size S.a3 S.c3 (by simpa using HQ1.out 3) (by omega) (by omega) HAT1.out.o (Nat.le_trans hB HB1.out.size) (by omega) HFI.out.outs hf3 hf5 (List.replicate n false) (by simp) HM.out _ _ _ _ _ _ _ _ _ _ _ _ _ _ _ _ _ _ _ _ _ _ _ _ _ _ _ _ _ _ _ _ _ _ _ _ _ _ _ _ _ _ _ _ _ _ _ _ _ _ _ _ _ _ _ _ _ _ _ _ _ _ _ _ _ _ _ _ _ _ _ _ _ _ _ _ _ _ _ _ _ _ _ _ _ _ _ _ _ _ _ _ _ _ _ _ _ _ _ _ _ _ _ _ _ _ _ _ _ _ _ _ _ _ _ _ _ _ _ _ _ _ _ _ _ _ _ _ _ _ _ _ _ _ _ _ _ _ _ _ _ _ _ _ _ _ _ _ _ _ _ _ _ _ _ _ _ _ _ _ _ _ _ _ _ _ _ _ _ _ _ _ _ _ _ _ _ _ _ _ _ _ _ _ _ _ _ _ _ _ _ _ _ _ _ _ _ _ _ _ _ _ _ _ _ _ _ _ _ _ _ _ _ _ _ _ _ _ _ _ (hidden ?_)
  intro w2 v5 v28 v29 v30 v31 v32 v33 v34 v35 v36 v37 v38 v39 v40 v41 v42 hcut
  obtain ⟨HN2, HG2⟩ := hcut
  replace HN2 := hidden HN2
  replace HG2 := hidden HG2
  have HB2 : Hid (Below w.heap.size w w2) := HB1.out.trans (below_grown HG2.out HB1.out.size (fun k hk => by have := Option.some.inj hk; omega))
  have hgl2 : w1.heap.size ≤ w2.heap.size := HG2.out.size
  go_upto_block 2 with fail
  refine cgLats w2 G B g g n w.heap.size S.a1 S.c1 ((HG2.out.cell_far ⟨w.heap.size, 1, none⟩ (by show w.heap.size < _; omega) (by simp; omega)).trans (by simpa using HQ1.out 1)) (by omega) (by omega) (HAT1.out.to ((below_grown HG2.out (C := B) (by have := HB1.out.size; omega) (fun k hk => by have := Option.some.inj hk; omega)))).l (by have := HB1.out.size; omega) (by omega) HFI.out.lats hf3 (by omega) (marks (List.replicate n false) (G.outs.map vOf)) (by rw [marks_len]; simp) HN2.out _ _ _ _ _ _ _ _ _ _ _ _ _ _ _ _ _ _ _ _ _ _ _ _ _ _ _ _ _ _ _ _ _ _ _ _ _ _ _ _ _ _ _ _ _ _ _ _ _ _ _ _ _ _ _ _ _ _ _ _ _ _ _ _ _ _ _ _ _ _ _ _ _ _ _ _ _ _ _ _ _ _ _ _ _ _ _ _ _ _ _ _ _ _ _ _ _ _ _ _ _ _ _ _ _ _ _ _ _ _ _ _ _ _ _ _ _ _ _ _ _ _ _ _ _ _ _ _ _ _ _ _ _ _ _ _ _ _ _ _ _ _ _ _ _ _ _ _ _ _ _ _ _ _ _ _ _ _ _ _ _ _ _ _ _ _ _ _ _ _ _ _ _ _ _ _ _ _ _ _ _ _ _ _ _ _ _ _ _ _ _ _ _ _ _ _ _ _ _ _ _ _ _ _ _ _ _ _ _ _ _ _ _ _ _ _ _ _ _ _ (hidden ?_)
  intro w3 v6 v43 v44 v45 v46 v47 v48 v49 v50 v51 v52 v53 v54 v55 v56 v57 v58 hcut
  obtain ⟨HN3, HG3⟩ := hcut
  replace HN3 := hidden HN3
  have HG13 : Hid (w1.grownBy w3 (some g)) := grown_trans HG2.out HG3
  have hgl3 : w1.heap.size ≤ w3.heap.size := HG13.out.size
  clear HG3 HG2 HN2 HB2 hgl2
  have q2 : w3.cell? ⟨w.heap.size, 2, none⟩ = some (.slice S.a2 G.ands.length S.c2) := (HG13.out.cell_far ⟨w.heap.size, 2, none⟩ (by show w.heap.size < _; omega) (by simp; omega)).trans (by simpa using HQ1.out 2)
  have eA : IntKind.i64.wrap ((G.ands.length : Int) - 1) = (G.ands.length : Int) - 1 := wrapI _ (by omega) (by omega)
  have HR3 : Hid (GrAt B w3 S G) := HAT1.out.to (below_grown HG13.out (C := B) (by have := HB1.out.size; omega) (fun k hk => by have := Option.some.inj hk; omega))
  obtain ⟨R, hR⟩ : ∃ R, R = needR G := ⟨_, rfl⟩
  have HRR : Hid (sweepC first (opsOf G) G.ands.length (marks (marks (List.replicate n false) (G.outs.map vOf)) (G.lats.map nOf)) = R) := by
    show _ = _
    rw [hR]
    unfold needR nd0C
    rw [← HFD.out, hf2]
  go_upto_block 4 with fail
  refine cgSweep w3 G B g g n first w.heap.size S.a2 S.c2 q2 (by omega) (by omega) HR3.out.a (by have := HB1.out.size; omega) (by omega) (by rw [HFD.out]; exact HFI.out.ands) hf3 hf2 _ R (by rw [marks_len, marks_len]; simp) HRR HN3.out _ _ _ _ _ _ _ _ _ _ _ _ _ _ _ _ _ _ _ _ _ _ _ _ _ _ _ _ _ _ _ _ _ _ _ _ _ _ _ _ _ _ _ _ _ _ _ _ _ _ _ _ _ _ _ _ _ _ _ _ _ _ _ _ _ _ _ _ _ _ _ _ _ _ _ _ _ _ _ _ _ _ _ _ _ _ _ _ _ _ _ _ _ _ _ _ _ _ _ _ _ _ _ _ _ _ _ _ _ _ _ _ _ _ _ _ _ _ _ _ _ _ _ _ _ _ _ _ _ _ _ _ _ _ _ _ _ _ _ _ _ _ _ _ _ _ _ _ _ _ _ _ _ _ _ _ _ _ _ _ _ _ _ _ _ _ _ _ _ _ _ _ _ _ _ _ _ _ _ _ _ _ _ _ _ _ _ _ _ _ _ _ _ _ _ _ _ _ _ _ _ _ _ _ _ _ _ _ _ _ _ _ _ _ _ _ _ _ _ (hidden ?_)
  intro w4 v7 v63 v64 v65 v66 v67 v68 v69 v70 v71 v72 v73 v74 v75 v76 v77 v78 v79 v80 v81 v82 v83 v84 v85 v86 v87 v88 v89 v90 hcut
  obtain ⟨HN4, HG4⟩ := hcut
  replace HN4 := hidden HN4
  have HG14 : Hid (w1.grownBy w4 (some g)) := grown_trans HG13.out HG4
  have hgl4 : w1.heap.size ≤ w4.heap.size := HG14.out.size
  clear HG4 HG13 HN3 HR3 hgl3 q2 eA HRR
  have q0 : w4.cell? ⟨w.heap.size, 0, none⟩ = some (.int .i64 (ni : Int)) := (HG14.out.cell_far ⟨w.heap.size, 0, none⟩ (by show w.heap.size < _; omega) (by simp; omega)).trans (by simpa using HQ1.out 0)
  go_upto_block 6 with fail
  generalize hV : World.alloc w4 _ = V
  obtain ⟨hb, hhbd⟩ : ∃ x, x = w4.heap.size := ⟨_, rfl⟩
  have HVB : Hid (∀ j, V.cell? ⟨hb, j, none⟩ = (#[.int .i64 (ni : Int), .slice none 0 0, .slice none 0 0, .slice none 0 0] : Array Value)[j]?) := by
    rw [← hV, hhbd]; intro j; exact cell_new rfl
  have HVF : Hid (∀ j, V.frozen? ⟨hb, j, none⟩ = false) := by
    rw [← hV, hhbd]; intro j; exact World.frozen?_alloc_at _ _ _ _ rfl
  have HV4 : Hid (Below w4.heap.size w4 V) := by rw [← hV]; exact (Below.refl _ _).alloc (Nat.le_refl _) _
  have hhb : hb < V.heap.size := by rw [← hV, hhbd]; simp
  have hb4 : w4.heap.size ≤ hb := by omega
  have hb4' : hb ≤ w4.heap.size := by omega
  rw [← hhbd]
  clear hV hhbd q0
  have hnkd : ∃ nk, nk = nkOf G := ⟨_, rfl⟩
  obtain ⟨nk, hnkd⟩ := hnkd
  have HNK := hidden hnkd
  have hnkl : nk.length = G.ands.length := by rw [hnkd]; exact nkOf_len G
  have HNV : Hid (∀ (i : Nat) (b : Bool), nk[i]? = some b → V.cell? ⟨g, first + i, none⟩ = some (.bool b)) := by
    intro i b hi
    have hil : i < nk.length := (List.getElem?_eq_some_iff.1 hi).1
    have e1 : R[first + i]? = some b := by
      rw [hnkd] at hi
      unfold nkOf at hi
      rw [List.getElem?_drop, ← HFD.out, ← hR] at hi
      exact hi
    refine (HV4.out.cell (p := ⟨g, first + i, none⟩) (by show g < _; omega)).trans ?_
    rw [HN4.out.cellAt (first + i) (by omega), List.getElem?_map, e1]; rfl
  have HTV : Hid (∀ v, toV first nk v ≤ 60000 ∨ n ≤ v) := by
    intro v
    left
    unfold toV
    split
    · omega
    · have := List.count_le_length (a := true) (l := nk.take (v - first))
      have h2 : (nk.take (v - first)).length ≤ nk.length := by rw [List.length_take]; omega
      omega
  have HQV : Hid (∀ j, V.cell? ⟨w.heap.size, j, none⟩ = (#[.int .i64 (ni : Int), .slice S.a1 G.lats.length S.c1, .slice S.a2 G.ands.length S.c2, .slice S.a3 G.outs.length S.c3] : Array Value)[j]?) := fun j => (HV4.out.cell (p := ⟨w.heap.size, j, none⟩) (by show w.heap.size < _; omega)).trans ((HG14.out.cell_far ⟨w.heap.size, j, none⟩ (by show w.heap.size < _; omega) (by simp; omega)).trans (HQ1.out j))
  have HQRV : Hid (∀ j, V.cell? ⟨w.heap.size + 1, j, none⟩ = (#[.int .i64 0, .slice none 0 0, .slice none 0 0, .slice none 0 0] : Array Value)[j]?) := fun j => (HV4.out.cell (p := ⟨w.heap.size + 1, j, none⟩) (by show w.heap.size + 1 < _; omega)).trans ((HG14.out.cell_far ⟨w.heap.size + 1, j, none⟩ (by show w.heap.size + 1 < _; omega) (by simp; omega)).trans (HQR1.out j))
  have HRFV : Hid (∀ j, V.frozen? ⟨w.heap.size + 1, j, none⟩ = false) := fun j => (HV4.out.frozen (p := ⟨w.heap.size + 1, j, none⟩) (by show w.heap.size + 1 < _; omega)).trans ((HG14.out.frozen_far ⟨w.heap.size + 1, j, none⟩ (by show w.heap.size + 1 < _; omega) (by simp; omega)).trans (HRF1.out j))
  have HB14 : Hid (Below w.heap.size w V) := (HB1.out.trans (below_grown HG14.out HB1.out.size (fun k hk => by have := Option.some.inj hk; omega))).trans (HV4.out.mono (by have := HB1.out.size; omega))
  have HATV : Hid (GrAt B V S G) := HAT1.out.to ((below_grown HG14.out (C := B) (by have := HB1.out.size; omega) (fun k hk => by have := Option.some.inj hk; omega)).trans (HV4.out.mono (by have := HB1.out.size; omega)))
  have hwV : w.heap.size + 2 ≤ hb := by omega
  clear HN4 HG14 HQ1 HQR1 HRF1 HAT1 HB1 HV4 HM hnkd hR
  refine cgTo V first (by omega) _ _ _ _ _ _ _ _ _ _ _ _ _ _ _ _ _ _ _ _ _ _ _ _ _ _ _ _ _ _ _ _ _ _ _ _ _ _ _ _ _ _ _ _ _ _ _ _ _ _ _ _ _ _ _ _ _ _ _ _ _ _ _ _ _ _ _ _ _ _ _ _ _ _ _ _ _ _ _ _ _ _ _ _ _ _ _ _ _ _ _ _ _ _ _ _ _ _ _ _ _ _ _ _ _ _ _ _ _ _ _ _ _ _ _ _ _ _ _ _ _ _ _ _ _ _ _ _ _ _ _ _ _ _ _ _ _ _ _ _ _ _ _ _ _ _ _ _ _ _ _ _ _ _ _ _ _ _ _ _ _ _ _ _ _ _ _ _ _ _ _ _ _ _ _ _ _ _ _ _ _ _ _ _ _ _ _ _ _ _ _ _ _ _ _ _ _ _ _ _ _ _ _ _ _ _ _ _ _ _ _ _ _ _ _ _ _ _ _ _ (hidden ?_)
  intro w5 v9 v10 v94 v95 v96 v97 v98 v99 v100 v101 v102 hcut
  obtain ⟨HT5, HB5⟩ := hcut
  replace HT5 := hidden HT5
  replace HB5 := hidden HB5
  have HO0 : Hid (w5.ownsRow V.heap.size 3 1 v9 first ((List.range first).map (fun v => iV (toV first nk v)))) := by
    have e : (List.range first).map iV = (List.range first).map (fun v => iV (toV first nk v)) := List.map_congr_left fun v hv => by rw [toV_low (List.mem_range.1 hv)]
    show World.ownsRow _ _ _ _ _ _ _
    rw [← e]; exact HT5.out
  clear HT5
  go_upto_block 8 with fail
  refine cgAndsTo w5 V G first nk B n g w.heap.size hb S.a2 S.c2 v9 (by simpa using HQV.out 2) (by omega) (by omega) HATV.out.a (by omega) (by omega) (by rw [HFD.out]; exact HFI.out.ands) hf3 hf2 hhb hnkl HNV (by omega) (by omega) HTV (show V.grownBy w5 (some hb) from ⟨HB5.out.os, HB5.out.tape, HB5.out.output, HB5.out.size, fun k hk _ => HB5.out.block k hk⟩) ((HB5.out.cell (p := ⟨hb, 2, none⟩) hhb).trans (by simpa using HVB.out 2)) (fun j => (HB5.out.frozen (p := ⟨hb, j, none⟩) hhb).trans (HVF.out j)) HO0 (fun j _ => HB5.out.cell (p := ⟨hb, j, none⟩) hhb) _ _ _ _ _ _ _ _ _ _ _ _ _ _ _ _ _ _ _ _ _ _ _ _ _ _ _ _ _ _ _ _ _ _ _ _ _ _ _ _ _ _ _ _ _ _ _ _ _ _ _ _ _ _ _ _ _ _ _ _ _ _ _ _ _ _ _ _ _ _ _ _ _ _ _ _ _ _ _ _ _ _ _ _ _ _ _ _ _ _ _ _ _ _ _ _ _ _ _ _ _ _ _ _ _ _ _ _ _ _ _ _ _ _ _ _ _ _ _ _ _ _ _ _ _ _ _ _ _ _ _ _ _ _ _ _ _ _ _ _ _ _ _ _ _ _ _ _ _ _ _ _ _ _ _ _ _ _ _ _ _ _ _ _ _ _ _ _ _ _ _ _ _ _ _ _ _ _ _ _ _ _ _ _ _ _ _ _ _ _ _ _ _ _ _ _ _ _ _ _ _ _ _ _ _ _ _ _ _ _ _ _ _ _ _ _ _ (hidden ?_)
  intro w6 t9 v11 v12 v13 v103 v104 v105 v106 v107 v108 v109 v110 v111 v112 v113 v114 v115 v116 v117 v118 v119 v120 v121 v122 v123 v124 v125 v126 v127 v128 v129 v130 v131 v132 v133 v134 v135 v136 v137 v138 v139 v140 v141 v142 v143 v144 v145 v146 v147 v148 v149 v150 v151 v152 v153 v154 v155 v156 v157 v158 v159 hcut
  obtain ⟨⟨u2, hu2, ho2, hot, hsp⟩, HG6, HF6, HC6⟩ := hcut
  have HU2 := hidden hu2
  have HO2 := hidden ho2
  replace HG6 := hidden HG6
  replace HF6 := hidden HF6
  replace HC6 := hidden HC6
  have hT : ∃ tg tc, t9 = .slice (some ⟨tg, 0, none⟩) n tc := by
    rcases hot.2 with ⟨_, h1⟩ | ⟨tg, cap, cur, hv, _⟩
    · omega
    · exact ⟨tg, cap, hv⟩
  obtain ⟨tg, tc, rfl⟩ := hT
  have htg := hot.lt tg rfl
  have HTT : Hid (∀ v, v < n → w6.cell? ⟨tg, v, none⟩ = some (.int .i64 (toV first nk v : Nat)) ∧ toV first nk v ≤ 60000) := by
    intro v hv
    refine ⟨?_, ?_⟩
    · rw [hot.cellAt v (by omega), List.getElem?_map, List.getElem?_range hv]; rfl
    · have := HTV.out v; omega
  have hs6 := HG6.out.size
  have htg1 := htg.1
  have htg2 := htg.2
  clear hu2 ho2 hot hsp htg HB5 HO0
  go_upto_block 10 with fail
  refine cgLatsTo w6 G first nk B n w.heap.size hb tg tc S.a1 S.c1 ((HG6.out.cell_far ⟨w.heap.size, 1, none⟩ (by show w.heap.size < _; omega) (by simp; omega)).trans (by simpa using HQV.out 1)) (by omega) (by omega) (HATV.out.to (below_grown HG6.out (C := B) (by omega) (fun k hk => by have := Option.some.inj hk; omega))).l (by omega) (by omega) HFI.out.lats hf3 (by omega) (by omega) htg2 (by omega) HTT ((HC6.out 1 (by decide)).trans (by simpa using HVB.out 1)) HF6.out _ _ _ _ _ _ _ _ _ _ _ _ _ _ _ _ _ _ _ _ _ _ _ _ _ _ _ _ _ _ _ _ _ _ _ _ _ _ _ _ _ _ _ _ _ _ _ _ _ _ _ _ _ _ _ _ _ _ _ _ _ _ _ _ _ _ _ _ _ _ _ _ _ _ _ _ _ _ _ _ _ _ _ _ _ _ _ _ _ _ _ _ _ _ _ _ _ _ _ _ _ _ _ _ _ _ _ _ _ _ _ _ _ _ _ _ _ _ _ _ _ _ _ _ _ _ _ _ _ _ _ _ _ _ _ _ _ _ _ _ _ _ _ _ _ _ _ _ _ _ _ _ _ _ _ _ _ _ _ _ _ _ _ _ _ _ _ _ _ _ _ _ _ _ _ _ _ _ _ _ _ _ _ _ _ _ _ _ _ _ _ _ _ _ _ _ _ _ _ _ _ _ _ _ _ _ _ _ _ _ _ _ _ _ _ _ _ _ _ (hidden ?_)
  intro w7 v14 v15 v160 v161 v162 v163 v164 v165 v166 v167 v168 v169 v170 v171 v172 v173 v174 v175 v176 v177 v178 v179 v180 v181 v182 v183 v184 v185 v186 v187 v188 v189 v190 v191 v192 v193 hcut
  obtain ⟨⟨u1, hu1, ho1⟩, HG7, HC7, HF7⟩ := hcut
  have HU1 := hidden hu1
  have HO1 := hidden ho1
  replace HG7 := hidden HG7
  replace HF7 := hidden HF7
  replace HC7 := hidden HC7
  have hs7 := HG7.out.size
  have HG67 : Hid (V.grownBy w7 (some hb)) := grown_trans HG6.out HG7.out
  clear hu1 ho1
  go_upto_block 12 with fail
  refine cgOutsTo w7 G first nk B n w.heap.size hb tg tc S.a3 S.c3 ((HG67.out.cell_far ⟨w.heap.size, 3, none⟩ (by show w.heap.size < _; omega) (by simp; omega)).trans (by simpa using HQV.out 3)) (by omega) (by omega) (HATV.out.to (below_grown HG67.out (C := B) (by omega) (fun k hk => by have := Option.some.inj hk; omega))).o (by omega) (by omega) HFI.out.outs hf3 hf5 (by omega) (by omega) (by omega) (show ∀ v, v < n → _ from fun v hv => ⟨(HG7.out.cell_far ⟨tg, v, none⟩ htg2 (by simp; omega)).trans (HTT.out v hv).1, (HTT.out v hv).2⟩) ((HC7.out 3 (by decide)).trans ((HC6.out 3 (by decide)).trans (by simpa using HVB.out 3))) (HF7.out 3) _ _ _ _ _ _ _ _ _ _ _ _ _ _ _ _ _ _ _ _ _ _ _ _ _ _ _ _ _ _ _ _ _ _ _ _ _ _ _ _ _ _ _ _ _ _ _ _ _ _ _ _ _ _ _ _ _ _ _ _ _ _ _ _ _ _ _ _ _ _ _ _ _ _ _ _ _ _ _ _ _ _ _ _ _ _ _ _ _ _ _ _ _ _ _ _ _ _ _ _ _ _ _ _ _ _ _ _ _ _ _ _ _ _ _ _ _ _ _ _ _ _ _ _ _ _ _ _ _ _ _ _ _ _ _ _ _ _ _ _ _ _ _ _ _ _ _ _ _ _ _ _ _ _ _ _ _ _ _ _ _ _ _ _ _ _ _ _ _ _ _ _ _ _ _ _ _ _ _ _ _ _ _ _ _ _ _ _ _ _ _ _ _ _ _ _ _ _ _ _ _ _ _ _ _ _ _ _ _ _ _ _ _ _ _ _ _ _ _ (hidden ?_)
  intro w8 v16 v17 v194 v195 v196 v197 v198 v199 v200 v201 v202 v203 v204 v205 v206 v207 v208 v209 v210 v211 v212 v213 v214 v215 v216 v217 v218 v219 hcut
  obtain ⟨⟨u3, hu3, ho3⟩, HG8, HC8⟩ := hcut
  replace HG8 := hidden HG8
  replace HC8 := hidden HC8
  have HG68 : Hid (V.grownBy w8 (some hb)) := grown_trans HG67.out HG8.out
  have hs8 := HG8.out.size
  have HO1' : Hid (w8.ownsRow w6.heap.size 32 2 u1 G.lats.length (G.lats.flatMap (latC first nk))) := HO1.out.kept HG8.out (own_not HO1.out (by omega))
  have HO2' : Hid (w8.ownsRow V.heap.size 33 2 u2 (keptK first nk G.ands (G.ands.length)).length ((keptK first nk G.ands (G.ands.length)).flatMap AndD.cells)) := (HO2.out.kept HG7.out (own_not HO2.out (by omega))).kept HG8.out (own_not HO2.out (by omega))
  have HO3 := hidden ho3
  have b0 : w8.cell? ⟨hb, 0, none⟩ = some (.int .i64 (ni : Int)) := (HC8.out 0 (by decide)).trans ((HC7.out 0 (by decide)).trans ((HC6.out 0 (by decide)).trans (by simpa using HVB.out 0)))
  have b1 : w8.cell? ⟨hb, 1, none⟩ = some u1 := (HC8.out 1 (by decide)).trans HU1.out
  have b2 : w8.cell? ⟨hb, 2, none⟩ = some u2 := (HC8.out 2 (by decide)).trans ((HC7.out 2 (by decide)).trans HU2.out)
  have b3 : w8.cell? ⟨hb, 3, none⟩ = some u3 := hu3
  have HR8 : Hid (∀ j, w8.cell? ⟨w.heap.size + 1, j, none⟩ = (#[.int .i64 0, .slice none 0 0, .slice none 0 0, .slice none 0 0] : Array Value)[j]?) := fun j => (HG68.out.cell_far ⟨w.heap.size + 1, j, none⟩ (by show w.heap.size + 1 < _; omega) (by simp; omega)).trans (HQRV.out j)
  have HF8 : Hid (∀ j, w8.frozen? ⟨w.heap.size + 1, j, none⟩ = false) := fun j => (HG68.out.frozen_far ⟨w.heap.size + 1, j, none⟩ (by show w.heap.size + 1 < _; omega) (by simp; omega)).trans (HRFV.out j)
  have r0 := HR8.out 0
  have r1 := HR8.out 1
  have r2 := HR8.out 2
  have r3 := HR8.out 3
  have f0 := HF8.out 0
  have f1 := HF8.out 1
  have f2 := HF8.out 2
  have f3 := HF8.out 3
  simp at r0 r1 r2 r3
  have HB8 : Hid (Below w.heap.size w w8) := HB14.out.trans (below_grown HG68.out HB14.out.size (fun k hk => by have := Option.some.inj hk; omega))
  clear hu3 ho3 HG68 HG67 HC8 HC7 HC6 HO1 HO2 HU1 HU2 HVB HQV HQRV HRFV HG8 HG7 HG6 HF7 HF6 HTT HATV HVF HNV HTV HB14
  obtain ⟨a1, c1, hx1⟩ := own_form HO1'.out
  obtain ⟨a2, c2, hx2⟩ := own_form HO2'.out
  obtain ⟨a3, c3, hx3⟩ := own_form HO3.out
  subst hx1 hx2 hx3
  go_wp2
  obtain ⟨rs, hrs⟩ : ∃ x, x = w.heap.size + 1 := ⟨_, rfl⟩
  rw [← hrs] at r0 r1 r2 r3 ⊢
  have hrl : rs < V.heap.size := by omega
  have hrw : w.heap.size ≤ rs := by omega
  obtain ⟨z0, z1, z2, z3⟩ := set4 r0 r1 r2 r3 (Value.int IntKind.i64 (ni : Int)) (Value.slice a1 G.lats.length c1) (Value.slice a2 (keptK first nk G.ands G.ands.length).length c2) (Value.slice a3 G.outs.length c3)
  clear hrs HF8 HR8 f0 f1 f2 f3 r0 r1 r2 r3 b0 b1 b2 b3
  have HG9 : Hid (w8.grownBy ((((w8.setCell ⟨rs, 0, none⟩ (Value.int IntKind.i64 (ni : Int))).setCell ⟨rs, 1, none⟩ (Value.slice a1 G.lats.length c1)).setCell ⟨rs, 2, none⟩ (Value.slice a2 (keptK first nk G.ands G.ands.length).length c2)).setCell ⟨rs, 3, none⟩ (Value.slice a3 G.outs.length c3)) (some rs)) := grown_trans (grown_trans (grown_trans (grown_set _ _ _ _) (grown_set _ _ _ _)) (grown_set _ _ _ _)) (grown_set _ _ _ _)
  generalize World.setCell _ (⟨rs, 3, none⟩ : Addr) _ = w9 at HG9 z0 z1 z2 z3 ⊢
  refine bodyPost_ret (v := .agg #[.int .i64 (ni : Int), .slice a1 G.lats.length c1, .slice a2 (keptK first nk G.ands G.ands.length).length c2, .slice a3 G.outs.length c3]) (by simp [results, Try.results9, go_sem, *]) rfl ?_
  have hs9 := HG9.out.size
  have hP1 := HO1'.out.kept HG9.out (own_not HO1'.out (by omega))
  have hP2 := HO2'.out.kept HG9.out (own_not HO2'.out (by omega))
  have hP3 := HO3.out.kept HG9.out (own_not HO3.out (by omega))
  have hC : cleanOf G = cleanG first nk G := by unfold cleanOf; rw [← HFD.out, ← HNK.out]
  have hkA : keptK first nk G.ands G.ands.length = keptA first nk G.ands := keptK_all _ _ _ hnkl
  rw [hkA] at hP2
  have e1 : G.lats.flatMap (latC first nk) = ((cleanG first nk G).lats.map LatD.cells).flatten := by
    show _ = ((G.lats.map _).map LatD.cells).flatten
    rw [List.map_map, List.flatMap_def]; rfl
  have e2 : (keptA first nk G.ands).flatMap AndD.cells = ((cleanG first nk G).ands.map AndD.cells).flatten := by
    rw [List.flatMap_def]; rfl
  rw [e1] at hP1
  rw [e2] at hP2
  obtain ⟨a1', c1', he1, hR1⟩ := own_row hP1 (by intro l hl; obtain ⟨d, _, rfl⟩ := List.mem_map.1 hl; rfl) (by decide)
  obtain ⟨a2', c2', he2, hR2⟩ := own_row hP2 (by intro l hl; obtain ⟨d, _, rfl⟩ := List.mem_map.1 hl; rfl) (by decide)
  obtain ⟨_, a3', c3', he3, hR3⟩ := ownRow hP3
  simp only [Value.slice.injEq, true_and] at he1 he2 he3
  obtain ⟨rfl, rfl⟩ := he1
  obtain ⟨rfl, rfl⟩ := he2
  obtain ⟨rfl, rfl⟩ := he3
  have hlA : (keptA first nk G.ands).length ≤ G.ands.length := by
    rw [← hkA, keptK_len _ _ _ _ hnkl]
    have := List.count_le_length (a := true) (l := nk.take G.ands.length)
    have h2 : (nk.take G.ands.length).length ≤ nk.length := by rw [List.length_take]; omega
    omega
  refine ⟨⟨⟨a1, c1, a2, c2, a3, c3⟩, ?_, ?_⟩, ?_⟩
  · rw [hC, hkA]
    unfold cleanG
    simp only [List.length_map, HIN.out]
  · rw [hC]
    refine ⟨hR1, hR2, hR3, ?_, ?_, ?_⟩
    · show (G.lats.map _).length < big
      rw [List.length_map]; unfold big; omega
    · show (keptA first nk G.ands).length < big
      unfold big; omega
    · show (G.outs.map _).length < big
      rw [List.length_map]; unfold big; omega
  · exact HB8.out.trans (below_grown HG9.out HB8.out.size (fun k hk => by have := Option.some.inj hk; omega))
end Go.Proofs.Ytpipdmeibfkehaa
