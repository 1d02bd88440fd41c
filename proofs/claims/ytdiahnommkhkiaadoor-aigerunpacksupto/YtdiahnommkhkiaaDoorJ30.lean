import Derived.Test.YtdiahnommkhkiaaDoorJ28
import Derived.Test.YtdiahnommkhkiaaDoorJ29
namespace Go.Proofs.YtdiahnommkhkiaaDoor
open Go.RowKit

set_option maxRecDepth 100000 in
set_option maxHeartbeats 16000000 in
theorem graph_by (r : Nat) (T : List UInt8) (hz : Int × Int × Int × Int × Int) (w : World) (x : ByAt w r T 0 hz) (hv : Vars w) (hr2 : 2 ≤ r) :
    Calls Tryd.prog 35 #[.pointer (some ⟨r, 0, none⟩)] w fun e w' =>
      (∃ G S, GoodB T G ∧ e = .returned (.agg (GrS.cells S G)) ∧ GrAt w'.heap.size w' S G ∧ NewAt w.heap.size S ∧ w.grownBy w' (some r)) ∨ (∃ x, BadB T x ∧ Thr w r x e w') := by
  have hlt : r < w.heap.size := x.lt
  have HLN : Hid (T.length ≤ 1048576) := x.len
  have HX := hidden x
  have HV := hidden hv
  clear x hv
  go_enter Tryd.func35, Tryd.ntmps35
  go_upto_region 1 with fail
  generalize hW0 : World.alloc w _ = W0
  obtain ⟨rs, hrs⟩ : ∃ x, x = w.heap.size := ⟨_, rfl⟩
  have HB0 : Hid (Below w.heap.size w W0) := by rw [← hW0]; exact (Below.refl _ _).alloc (Nat.le_refl _) _
  have HQ0 : Hid (∀ j, W0.cell? ⟨rs, j, none⟩ = (#[.int .i64 0, .slice none 0 0, .slice none 0 0, .slice none 0 0] : Array Value)[j]?) := by
    rw [← hW0, hrs]; intro j; exact cell_new rfl
  have HF0 : Hid (∀ j, W0.frozen? ⟨rs, j, none⟩ = false) := by
    rw [← hW0, hrs]; intro j; exact World.frozen?_alloc_at _ _ _ _ rfl
  have hrl : rs < W0.heap.size := by rw [← hW0, hrs]; simp
  rw [← hrs]
  have hrw : w.heap.size ≤ rs := by omega
  have hrr : rs ≠ r := by omega
  clear hW0 hrs
  have HX0 := hidden (HX.out.to HB0.out)
  have RH := hidden (readHead_by r T hz W0 HX0.out (HV.out.to HB0.out (by omega)) hr2)
  go_wp2_with fail
  go_at_call 39
  refine RH.out.mono ?_
  rintro e w1 (⟨a, h, q1, q2, rfl, q3, q4⟩ | ⟨q1, p0, rfl, hp1, hp2, hp3⟩)
  rotate_left
  · have HBAD := hidden (badB_head q1)
    have HTh : Hid (Thr w r 0 (thrown p0) w1) := ⟨p0, rfl, hp1, Nat.le_trans HB0.out.size hp2, grown_trans (gbel HB0.out _) hp3⟩
    clear hp1 hp2 hp3 q1
    unfold thrown
    go_wp2
    first | exact ⟨rfl, Or.inr ⟨0, HBAD.out, HTh.out⟩⟩ | exact Or.inr ⟨0, HBAD.out, HTh.out⟩
  obtain ⟨ni, nl, no, na, rfl⟩ := headB_ints q2
  have HHD : Hid (HeadAtB T ni nl no na) := ⟨a, q1, q2⟩
  have HX1 : Hid (ByAt w1 r T (offL T 0) (hInts ni nl no na)) := by (show ByAt _ _ _ _ _); unfold offL itB; rw [nextB_some q1, Nat.zero_add]; exact q3
  have HG1 : Hid (w.grownBy w1 (some r)) := grown_trans (gbel HB0.out _) q4
  have HQ1 : Hid (∀ j, w1.cell? ⟨rs, j, none⟩ = (#[.int .i64 0, .slice none 0 0, .slice none 0 0, .slice none 0 0] : Array Value)[j]?) := fun j => (gcell q4 hrl hrr).trans (HQ0.out j)
  have HF1 : Hid (∀ j, w1.frozen? ⟨rs, j, none⟩ = false) := fun j => (q4.frozen_far ⟨rs, j, none⟩ hrl (fun e => hrr (Option.some.inj e))).trans (HF0.out j)
  have hs1 := q4.size
  obtain ⟨hb1, hb2, hb3⟩ := HHD.out.bound
  have c2 : w1.cell? ⟨r, 2, none⟩ = some (.int .i64 (ni : Int)) := by obtain ⟨⟨bg, ln, _, q⟩, _⟩ := HX1.out; exact q.cell 2
  clear q1 q2 q3 q4 RH HX0 HB0 HQ0 HF0 HX
  go_upto_region 3 with fail
  generalize hV : World.alloc w1 _ = V
  obtain ⟨gb, hgd⟩ : ∃ x, x = w1.heap.size := ⟨_, rfl⟩
  have HVB : Hid (∀ j, V.cell? ⟨gb, j, none⟩ = (#[.int .i64 (ni : Int), .slice none 0 0, .slice none 0 0, .slice none 0 0] : Array Value)[j]?) := by
    rw [← hV, hgd]; intro j; exact cell_new rfl
  have HVF : Hid (∀ j, V.frozen? ⟨gb, j, none⟩ = false) := by
    rw [← hV, hgd]; intro j; exact World.frozen?_alloc_at _ _ _ _ rfl
  have HBV : Hid (Below w1.heap.size w1 V) := by rw [← hV]; exact (Below.refl _ _).alloc (Nat.le_refl _) _
  have hgl : gb < V.heap.size := by rw [← hV, hgd]; simp
  have hgw : w1.heap.size ≤ gb := by omega
  rw [← hgd]
  clear hV hgd c2
  have hgr : gb ≠ r := by have := HG1.out.size; omega
  have hgs : gb ≠ rs := by omega
  have HXV := hidden (HX1.out.to HBV.out)
  have HGV : Hid (w.grownBy V (some r)) := grown_trans HG1.out (gbel HBV.out _)
  have HQV : Hid (∀ j, V.cell? ⟨rs, j, none⟩ = (#[.int .i64 0, .slice none 0 0, .slice none 0 0, .slice none 0 0] : Array Value)[j]?) := fun j => (HBV.out.cell (p := ⟨rs, j, none⟩) (by show rs < _; omega)).trans (HQ1.out j)
  have HFV : Hid (∀ j, V.frozen? ⟨rs, j, none⟩ = false) := fun j => (HBV.out.frozen (p := ⟨rs, j, none⟩) (by show rs < _; omega)).trans (HF1.out j)
  have hsV := HBV.out.size
  have c0 : V.cell? ⟨r, 0, none⟩ = some (.int .i64 1) := HXV.out.lay
  have HVV : Hid (Vars V) := HV.out.grown HGV.out hr2 (by omega)
  clear HX1 HG1 HQ1 HF1 HBV
  obtain ⟨w2, hw2⟩ : ∃ x, x = V := ⟨_, rfl⟩
  rw [← hw2]
  clear c0
  have HX2 : Hid (ByAt w2 r T (offL T 0) (hInts ni nl no na)) := by rw [hw2]; exact HXV.out
  have HG2 : Hid (w.grownBy w2 (some r)) := by rw [hw2]; exact HGV.out
  have HC2 : Hid (∀ j, w2.cell? ⟨gb, j, none⟩ = (#[.int .i64 (ni : Int), .slice none 0 0, .slice none 0 0, .slice none 0 0] : Array Value)[j]?) := by rw [hw2]; exact HVB.out
  have HF2 : Hid (∀ j, w2.frozen? ⟨gb, j, none⟩ = false) := by rw [hw2]; exact HVF.out
  have HQ2 : Hid (∀ j, w2.cell? ⟨rs, j, none⟩ = (#[.int .i64 0, .slice none 0 0, .slice none 0 0, .slice none 0 0] : Array Value)[j]?) := by rw [hw2]; exact HQV.out
  have HFR2 : Hid (∀ j, w2.frozen? ⟨rs, j, none⟩ = false) := by rw [hw2]; exact HFV.out
  have hs2 : V.heap.size ≤ w2.heap.size := by rw [hw2]; exact Nat.le_refl _
  clear hw2
  have c3 : w2.cell? ⟨r, 3, none⟩ = some (.int .i64 (nl : Int)) := by obtain ⟨⟨bg, ln, _, q⟩, _⟩ := HX2.out; exact q.cell 3
  have HVW : Hid (∀ w', w.grownBy w' (some r) → Vars w') := fun w' hg => HV.out.grown hg hr2 (by omega)
  have hws := HGV.out.size
  have c0 : w2.cell? ⟨r, 0, none⟩ = some (.int .i64 1) := HX2.out.lay
  clear HXV HGV HVB HVF HQV HFV HVV
  go_upto_block 0 with fail
  refine gbLats w w2 r gb nl (fun k => offL T k) T (hInts ni nl no na) HX2 (HVW.out w2 HG2.out) HG2 (by omega) hgr (by omega) (by omega) hr2 (by omega) (by omega) (by simpa using HC2.out 1) HF2.out (show ∀ (k : Nat) w', _ from fun k w' hk hx hvv => readLatch_by r T (offL T k) k _ w' hx hvv hr2 (by show (0 : Int) ≤ ((ni + nl + na : Nat) : Int) ∧ ((ni + nl + na : Nat) : Int) ≤ 60000; omega)) _ _ _ _ _ _ _ _ _ _ _ _ _ _ _ _ _ _ _ _ _ _ _ _ _ _ _ _ _ _ _ _ _ _ _ _ _ _ _ _ _ _ _ _ _ _ _ _ _ _ _ _ _ _ _ _ _ _ _ _ _ _ _ _ _ _ _ _ _ _ _ (hidden ?_) (hidden ?_)
  rotate_left
  · intro k a' w' p0 ha hk h1 h2 h3 h4 h5
    have HBAD := hidden (badB_lat HHD.out hk h1 h2)
    have HTh : Hid (Thr w r ((offL T k : Nat) : Int) (thrown p0) w') := ⟨p0, rfl, h3, h4, h5⟩
    clear h1 h2 h3 h4 h5
    unfold thrown at HTh
    exact ⟨ha, Or.inr ⟨_, HBAD.out, HTh.out⟩⟩
  intro w3 v4 v26 v27 v28 v29 v30 v31 v32 v33 v34 v35 v36 v37 hcut
  obtain ⟨ls, u1, hl1, hl2, hl3, hl4, hl5, hl6, hl7, hl8⟩ := hcut
  have HLL := hidden hl1
  have HLA := hidden hl2
  have HX3 : Hid (ByAt w3 r T (offL T (nl + 0)) (hInts ni nl no na)) := hl3
  have HU1 := hidden hl4
  have HO1 := hidden hl5
  have HR3 := hidden hl6
  have HF3 := hidden hl7
  have HC3 := hidden hl8
  have HG3 : Hid (w.grownBy w3 (some r)) := hl6.grown HG2.out (by omega)
  have hs3 := hl6.size
  have HLE : Hid (∀ i, i < nl → ∃ d, LatB T (offL T i) (2 * (((ni + nl + na : Nat) : Int) + 1)) d) := fun i hi => ex_el (P := fun i d => LatB T (offL T i) (2 * (((ni + nl + na : Nat) : Int) + 1)) d) hl1 hl2 hi
  have c4 : w3.cell? ⟨r, 4, none⟩ = some (.int .i64 (no : Int)) := by obtain ⟨⟨bg, ln, _, q⟩, _⟩ := HX3.out; exact q.cell 4
  clear hl1 hl2 hl3 hl4 hl5 hl6 hl7 hl8 c3 c0
  go_upto_block 2 with fail
  refine gbOuts w w3 r gb no (fun k => offL T (nl + k)) T (hInts ni nl no na) HX3 (HVW.out w3 HG3.out) HG3 (by omega) hgr (by omega) (by omega) hr2 (by omega) (by omega) ((HC3.out 3 (by decide)).trans (by simpa using HC2.out 3)) HF3.out (show ∀ (k : Nat) w', _ from fun k w' hk hx hvv => readOutput_by r T (offL T (nl + k)) _ w' hx hvv hr2 (by show (0 : Int) ≤ ((ni + nl + na : Nat) : Int) ∧ ((ni + nl + na : Nat) : Int) ≤ 60000; omega)) _ _ _ _ _ _ _ _ _ _ _ _ _ _ _ _ _ _ _ _ _ _ _ _ _ _ _ _ _ _ _ _ _ _ _ _ _ _ _ _ _ _ _ _ _ _ _ _ _ _ _ _ _ _ _ _ _ _ _ _ _ _ _ _ _ _ _ _ _ _ _ (hidden ?_) (hidden ?_)
  rotate_left
  · intro k a' w' p0 ha hk h1 h2 h3 h4 h5
    have HBAD := hidden (badB_out HHD.out HLE.out hk h1 h2)
    have HTh : Hid (Thr w r ((offL T (nl + k) : Nat) : Int) (thrown p0) w') := ⟨p0, rfl, h3, h4, h5⟩
    clear h1 h2 h3 h4 h5
    unfold thrown at HTh
    exact ⟨ha, Or.inr ⟨_, HBAD.out, HTh.out⟩⟩
  intro w4 v43 v44 v45 v46 v47 v48 v49 v50 v51 v52 hcut
  obtain ⟨os, u3, hl1, hl2, hl3, hl4, hl5, hl6, hl7, hl8⟩ := hcut
  have HOL := hidden hl1
  have HOA := hidden hl2
  have HX4 : Hid (ByAt w4 r T (offA T (nl + no) 0) (hInts ni nl no na)) := hl3
  have HU3 := hidden hl4
  have HO3 := hidden hl5
  have HR4 := hidden hl6
  have HF4 := hidden hl7
  have HC4 := hidden hl8
  have HG4 : Hid (w.grownBy w4 (some r)) := hl6.grown HG3.out (by omega)
  have hs4 := hl6.size
  have HOE : Hid (∀ i, i < no → ∃ d, OutB T (offL T (nl + i)) (2 * (((ni + nl + na : Nat) : Int) + 1)) d) := fun i hi => ex_el (P := fun i d => OutB T (offL T (nl + i)) (2 * (((ni + nl + na : Nat) : Int) + 1)) d) hl1 hl2 hi
  have c5 : w4.cell? ⟨r, 5, none⟩ = some (.int .i64 (na : Int)) := by obtain ⟨⟨bg, ln, _, q⟩, _⟩ := HX4.out; exact q.cell 5
  clear hl1 hl2 hl3 hl4 hl5 hl6 hl7 hl8 c4
  go_upto_block 4 with fail
  refine gbAnds w w4 r gb na (fun k => offA T (nl + no) k) T (hInts ni nl no na) HX4 (HVW.out w4 HG4.out) HG4 (by omega) hgr (by omega) (by omega) hr2 (by omega) (by omega) ((HC4.out 2 (by decide)).trans ((HC3.out 2 (by decide)).trans (by simpa using HC2.out 2))) HF4.out (show ∀ (k : Nat) w', _ from fun k w' hk hx hvv => readGate_by r T (offA T (nl + no) k) k _ w' hx (by show (0 : Int) ≤ (ni : Int) ∧ (ni : Int) ≤ 60000; omega) (by show (0 : Int) ≤ (nl : Int) ∧ (nl : Int) ≤ 60000; omega) (by omega)) _ _ _ _ _ _ _ _ _ _ _ _ _ _ _ _ _ _ _ _ _ _ _ _ _ _ _ _ _ _ _ _ _ _ _ _ _ _ _ _ _ _ _ _ _ _ _ _ _ _ _ _ _ _ _ _ _ _ _ _ _ _ _ _ _ _ _ _ _ _ _ (hidden ?_) (hidden ?_)
  rotate_left
  · intro k a' w' p0 ha hk h1 h2 h3 h4 h5
    have HBAD := hidden (badB_and HHD.out HLE.out HOE.out hk h1 h2)
    have HTh : Hid (Thr w r ((placeA T (offA T (nl + no) k) (2 * (1 + (ni : Int) + (nl : Int) + (k : Int))) : Nat) : Int) (thrown p0) w') := ⟨p0, rfl, h3, h4, h5⟩
    clear h1 h2 h3 h4 h5
    unfold thrown at HTh
    exact ⟨ha, Or.inr ⟨_, HBAD.out, HTh.out⟩⟩
  intro w5 v5 v58 v59 v60 v61 v62 v63 v64 v65 v66 v67 v68 v69 hcut
  obtain ⟨ad, u2, hl1, hl2, hl3, hl4, hl5, hl6, hl7, hl8⟩ := hcut
  have HAL := hidden hl1
  have HAA := hidden hl2
  have HX5 : Hid (ByAt w5 r T (offA T (nl + no) na) (hInts ni nl no na)) := hl3
  have HU2 := hidden hl4
  have HO2 := hidden hl5
  have HR5 := hidden hl6
  have HC5 := hidden hl8
  have HG5 : Hid (w.grownBy w5 (some r)) := hl6.grown HG4.out (by omega)
  have hs5 := hl6.size
  have HAE : Hid (∀ i, i < na → ∃ d, AndB T (offA T (nl + no) i) (2 * (1 + (ni : Int) + (nl : Int) + (i : Int))) d) := fun i hi => ex_el (P := fun i d => AndB T (offA T (nl + no) i) (2 * (1 + (ni : Int) + (nl : Int) + (i : Int))) d) hl1 hl2 hi
  have RB := hidden (readBehind_by r T (offA T (nl + no) na) _ w5 HX5.out (HVW.out w5 HG5.out) hr2)
  clear hl1 hl2 hl3 hl4 hl5 hl6 hl7 hl8 c5
  go_wp2_with fail
  go_at_call 44
  refine RB.out.mono ?_
  rintro e w6 (⟨q1, rfl, q4⟩ | ⟨q1, p0, rfl, hp1, hp2, hp3⟩)
  rotate_left
  · have HBAD := hidden (badB_be HHD.out HLE.out HOE.out HAE.out q1)
    have HTh : Hid (Thr w r ((offA T (nl + no) na : Nat) : Int) (thrown p0) w6) := ⟨p0, rfl, hp1, Nat.le_trans HG5.out.size hp2, grown_trans HG5.out hp3⟩
    clear hp1 hp2 hp3 q1
    unfold thrown
    go_wp2
    first | exact ⟨rfl, Or.inr ⟨_, HBAD.out, HTh.out⟩⟩ | exact Or.inr ⟨_, HBAD.out, HTh.out⟩
  have HBE := hidden q1
  have HG6 := hidden q4
  have hs6 := q4.size
  have HGW6 : Hid (w.grownBy w6 (some r)) := grown_trans HG5.out q4
  have HR25 : Hid (Gr2 r gb w2 w5) := (HR3.out.trans HR4.out).trans HR5.out
  have HO1' : Hid (w6.ownsRow w2.heap.size 47 2 u1 nl (ls.flatMap LatD.cells)) := ((HR4.out.trans HR5.out).own HO1.out (by omega) (by omega)).kept q4 (own_not HO1.out (by omega))
  have HO3' : Hid (w6.ownsRow w3.heap.size 3 1 u3 no (os.flatMap intC)) := (HR5.out.own HO3.out (by omega) (by omega)).kept q4 (own_not HO3.out (by omega))
  have HO2' : Hid (w6.ownsRow w4.heap.size 48 2 u2 na (ad.flatMap AndD.cells)) := HO2.out.kept q4 (own_not HO2.out (by omega))
  have b0 : w6.cell? ⟨gb, 0, none⟩ = some (.int .i64 (ni : Int)) := (gcell q4 (by omega) hgr).trans ((HC5.out 0 (by decide)).trans ((HC4.out 0 (by decide)).trans ((HC3.out 0 (by decide)).trans (by simpa using HC2.out 0))))
  have b1 : w6.cell? ⟨gb, 1, none⟩ = some u1 := (gcell q4 (by omega) hgr).trans ((HC5.out 1 (by decide)).trans ((HC4.out 1 (by decide)).trans HU1.out))
  have b2 : w6.cell? ⟨gb, 2, none⟩ = some u2 := (gcell q4 (by omega) hgr).trans HU2.out
  have b3 : w6.cell? ⟨gb, 3, none⟩ = some u3 := (gcell q4 (by omega) hgr).trans ((HC5.out 3 (by decide)).trans HU3.out)
  have HR6 : Hid (∀ j, w6.cell? ⟨rs, j, none⟩ = (#[.int .i64 0, .slice none 0 0, .slice none 0 0, .slice none 0 0] : Array Value)[j]?) := fun j => (gcell q4 (by omega) hrr).trans ((HR25.out.cell (by omega) hrr (Ne.symm hgs)).trans (HQ2.out j))
  have HF6 : Hid (∀ j, w6.frozen? ⟨rs, j, none⟩ = false) := fun j => (q4.frozen_far ⟨rs, j, none⟩ (by show rs < _; omega) (fun e => hrr (Option.some.inj e))).trans ((World.frozen?_of_block (HR25.out.block rs (by omega) hrr (Ne.symm hgs))).trans (HFR2.out j))
  have r0 := HR6.out 0
  have r1 := HR6.out 1
  have r2 := HR6.out 2
  have r3 := HR6.out 3
  have f0 := HF6.out 0
  have f1 := HF6.out 1
  have f2 := HF6.out 2
  have f3 := HF6.out 3
  simp at r0 r1 r2 r3
  obtain ⟨a1, c1, hx1⟩ := own_form HO1'.out
  obtain ⟨a2, c2, hx2⟩ := own_form HO2'.out
  obtain ⟨a3, c3, hx3⟩ := own_form HO3'.out
  subst hx1 hx2 hx3
  clear q1 q4 RB HR25 HO1 HO2 HO3 HU1 HU2 HU3 HC5 HC4 HC3 HC2 HR3 HR4 HR5 HX2 HX3 HX4 HX5 HR6 HF6 HQ2 HFR2 HF2 HF3 HF4
  go_wp2
  obtain ⟨z0, z1, z2, z3⟩ := set4 r0 r1 r2 r3 (Value.int IntKind.i64 (ni : Int)) (Value.slice a1 nl c1) (Value.slice a2 na c2) (Value.slice a3 no c3)
  clear f0 f1 f2 f3 r0 r1 r2 r3 b0 b1 b2 b3
  have HG9 : Hid (w6.grownBy ((((w6.setCell ⟨rs, 0, none⟩ (Value.int IntKind.i64 (ni : Int))).setCell ⟨rs, 1, none⟩ (Value.slice a1 nl c1)).setCell ⟨rs, 2, none⟩ (Value.slice a2 na c2)).setCell ⟨rs, 3, none⟩ (Value.slice a3 no c3)) (some rs)) := grown_trans (grown_trans (grown_trans (gset _ _ _ _) (gset _ _ _ _)) (gset _ _ _ _)) (gset _ _ _ _)
  generalize World.setCell _ (⟨rs, 3, none⟩ : Addr) _ = w9 at HG9 z0 z1 z2 z3 ⊢
  refine bodyPost_ret (v := .agg #[.int .i64 (ni : Int), .slice a1 nl c1, .slice a2 na c2, .slice a3 no c3]) (by simp [results, Tryd.results35, go_sem, *]) rfl ?_
  have hs9 := HG9.out.size
  have hP1 := HO1'.out.kept HG9.out (own_not HO1'.out (by omega))
  have hP2 := HO2'.out.kept HG9.out (own_not HO2'.out (by omega))
  have hP3 := HO3'.out.kept HG9.out (own_not HO3'.out (by omega))
  have hNw : NewAt w.heap.size ⟨a1, c1, a2, c2, a3, c3⟩ := ⟨own_new hP1 (by omega), own_new hP2 (by omega), own_new hP3 (by omega)⟩
  rw [List.flatMap_def] at hP1 hP2 hP3
  obtain ⟨a1', c1', he1, hR1⟩ := own_row hP1 (by intro l hl; obtain ⟨d, _, rfl⟩ := List.mem_map.1 hl; rfl) (by decide)
  obtain ⟨a2', c2', he2, hR2⟩ := own_row hP2 (by intro l hl; obtain ⟨d, _, rfl⟩ := List.mem_map.1 hl; rfl) (by decide)
  obtain ⟨a3', c3', he3, hR3⟩ := own_row hP3 (by intro l hl; obtain ⟨d, _, rfl⟩ := List.mem_map.1 hl; rfl) (by decide)
  simp only [Value.slice.injEq, true_and] at he1 he2 he3
  obtain ⟨rfl, rfl⟩ := he1
  obtain ⟨rfl, rfl⟩ := he2
  obtain ⟨rfl, rfl⟩ := he3
  refine Or.inl ⟨⟨(ni : Int), ls, ad, os⟩, ⟨a1, c1, a2, c2, a3, c3⟩, ⟨ni, nl, no, na, HHD.out, rfl, HLL.out, HLA.out, HOL.out, HOA.out, HAL.out, HAA.out, HBE.out⟩, ?_, ⟨hR1, hR2, hR3, ?_, ?_, ?_⟩, hNw, grown_far HGW6.out HG9.out hrw⟩
  · unfold GrS.cells
    simp only [HLL.out, HOL.out, HAL.out]
  · show ls.length < big
    rw [HLL.out]; unfold big; omega
  · show ad.length < big
    rw [HAL.out]; unfold big; omega
  · show os.length < big
    rw [HOL.out]; unfold big; omega

end Go.Proofs.YtdiahnommkhkiaaDoor
