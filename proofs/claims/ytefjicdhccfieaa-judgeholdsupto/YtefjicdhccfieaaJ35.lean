import Derived.Test.YtefjicdhccfieaaJ01
import Derived.Test.YtefjicdhccfieaaJ34
import Derived.Test.YtefjicdhccfieaaJ32
set_option maxRecDepth 100000
set_option maxHeartbeats 16000000
namespace Go.Proofs.Ytefjicdhccfieaa
open Go.RowKit
def FnPost (B : Nat) (w : World) (bb : Nat) (st : St) (sl : Site → Slot) (i : Nat) (c : BC) (e : Ending) (w' : World) : Prop :=
 (∃ k x : Nat, 2 ≤ k ∧ c.l[k]? = some x ∧ 0 ≤ st.held.getD x 0 ∧ e = .returned (.bool true) ∧ Rows' B w' bb (fields sl st) (setS sl .clauses ⟨(sl .clauses).v, (sl .clauses).n, (sl .clauses).xs.set (4 * i + 1) (.int .i64 (k : Int))⟩) ∧ Below B w w' ∧ w.grownBy w' (sl .clauses).v.ownBlock) ∨
 (e = .returned (.bool false) ∧ (∀ k x : Nat, 2 ≤ k → c.l[k]? = some x → st.held.getD x 0 < 0) ∧ Rows' B w' bb (fields sl st) sl ∧ Below w.heap.size w w')
theorem findNext_any (B : Nat) (w : World) (bb : Nat) (st : St) (sl : Site → Slot) (R : Rows' B w bb (fields sl st) sl) (L : Link sl st) (cb ccap : Nat) (hcv : (sl .clauses).v = .slice (some ⟨cb, 0, none⟩) (sl .clauses).n ccap) (i : Nat) (c : BC) (hc : st.cls[i]? = some c) (hn2 : 2 ≤ c.next) (hnl : c.next ≤ c.l.length) (hlen : c.l.length ≤ 67108864) (hlit : ∀ x, x ∈ c.l → x < 2 * st.V) (hV0 : 0 < st.V) :
  Calls Try.prog 79 #[.pointer (some ⟨bb, 0, none⟩), .pointer (some ⟨cb, i * 4, none⟩)] w fun e w' => FnPost B w bb st sl i c e w' := by
 have hV := L.hV
 have hil : i < st.cls.length := (List.getElem?_eq_some_iff.1 hc).1
 obtain ⟨q0, q1, q2, q3⟩ := L.cls i c hc
 obtain ⟨p1, p2⟩ := L.lits i c hc
 obtain ⟨hb, hc', hv, hhB, hbl, _, hcell, _⟩ := R.form .held (by rw [L.held.1]; omega)
 obtain ⟨lb, lcap, hlv, _, hlb, _, hlcell, _⟩ := R.form (.lits i) (by rw [p1]; omega)
 obtain ⟨cb', ccap', hcv', hcB, hcl, _, hccell, hcfz⟩ := R.form .clauses (by rw [L.clsN]; omega)
 rw [hcv] at hcv'
 simp only [Value.slice.injEq, Option.some.injEq, Addr.mk.injEq, and_true, true_and] at hcv'
 obtain ⟨rfl, rfl⟩ := hcv'
 obtain ⟨N, HN⟩ : ∃ N, Hid (N = 2 * st.V) := ⟨_, rfl⟩
 obtain ⟨ln, HLN⟩ : ∃ n, Hid (n = c.l.length) := ⟨_, rfl⟩
 obtain ⟨nx, HNXT⟩ : ∃ n, Hid (n = c.next) := ⟨_, rfl⟩
 have f3 : w.cell? ⟨bb, 3, none⟩ = some (.slice (some ⟨hb, 0, none⟩) N hc') := by rw [R.field 3, HN.out, ← L.held.1, ← hv]; rfl
 have fl : w.cell? ⟨cb, i * 4, none⟩ = some (.slice (some ⟨lb, 0, none⟩) ln lcap) := by
  rw [hccell (i * 4) (by rw [L.clsN]; simp [Site.sz]; omega), Nat.mul_comm, q0, hlv, p1, HLN.out]
 have fn : w.cell? ⟨cb, i * 4 + 1, none⟩ = some (.int .i64 (nx : Int)) := by
  rw [hccell (i * 4 + 1) (by rw [L.clsN]; simp [Site.sz]; omega), Nat.mul_comm, q1, HNXT.out]
 have zn := hcfz (i * 4 + 1)
 have hbb := R.lt
 have KC : Hid (∀ w', Below w.heap.size w w' → w'.cell? ⟨bb, 3, none⟩ = some (.slice (some ⟨hb, 0, none⟩) N hc') ∧ w'.cell? ⟨cb, i * 4, none⟩ = some (.slice (some ⟨lb, 0, none⟩) ln lcap) ∧ w'.cell? ⟨cb, i * 4 + 1, none⟩ = some (.int .i64 (nx : Int)) ∧ w'.frozen? ⟨cb, i * 4 + 1, none⟩ = false) := fun w' hb' => ⟨(hb'.cell (p := ⟨bb, 3, none⟩) hbb).trans f3, (hb'.cell (p := ⟨cb, i * 4, none⟩) hcl).trans fl, (hb'.cell (p := ⟨cb, i * 4 + 1, none⟩) hcl).trans fn, (hb'.frozen (p := ⟨cb, i * 4 + 1, none⟩) hcl).trans zn⟩
 have KX : Hid (∀ w', Below w.heap.size w w' → ∀ k x : Nat, c.l[k]? = some x → w'.cell? ⟨lb, k, none⟩ = some (.int .i32 (x : Int)) ∧ x < N) := fun w' hb' k x hx => by
  have := (List.getElem?_eq_some_iff.1 hx).1
  refine ⟨(hb'.cell (p := ⟨lb, k, none⟩) hlb).trans ?_, by rw [HN.out]; exact hlit x (List.mem_of_getElem? hx)⟩
  rw [hlcell k (by rw [p1]; simp [Site.sz]; omega), p2]; exact litV_get _ _ _ hx
 have KH : Hid (∀ w', Below w.heap.size w w' → ∀ x, x < N → w'.cell? ⟨hb, x, none⟩ = some (.int .i8 (st.held.getD x 0))) := fun w' hb' x hx => by
  refine (hb'.cell (p := ⟨hb, x, none⟩) hbl).trans ?_
  have hx' : x < 2 * st.V := by rw [← HN.out]; exact hx
  rw [hcell x (by rw [L.held.1]; simp [Site.sz]; omega), L.held.2]
  obtain ⟨y, hy⟩ := getElem_lt (show x < st.held.length by rw [L.heldL]; exact hx')
  rw [List.getD_eq_getElem?_getD, hy]; exact i8V_get _ _ _ hy
 have KS : Hid (∀ w', Below w.heap.size w w' → ∀ k : Nat, Rows' B (w'.setCell ⟨cb, i * 4 + 1, none⟩ (.int .i64 (k : Int))) bb (fields sl st) (setS sl .clauses ⟨(sl .clauses).v, (sl .clauses).n, (sl .clauses).xs.set (4 * i + 1) (.int .i64 (k : Int))⟩) ∧ Below B w (w'.setCell ⟨cb, i * 4 + 1, none⟩ (.int .i64 (k : Int))) ∧ w.grownBy (w'.setCell ⟨cb, i * 4 + 1, none⟩ (.int .i64 (k : Int))) (sl .clauses).v.ownBlock) := fun w' hb' k => by
  have R1 := R.rest hb'
  rw [Nat.mul_comm i 4]
  exact ⟨R1.setR .clauses hcv (4 * i + 1) _, setTo (hb'.mono R.size) hcB R1.size, by rw [hcv]; exact grown_trans' (gbel hb' _) (gset _ _ _ _)⟩
 have R0 := hidden R
 rw [← HNXT.out] at hn2 hnl
 rw [← HLN.out] at hnl hlen
 clear q0 q1 q2 q3 p1 p2 hv hcell hlv hlcell hccell hcfz f3 fl zn R L
 go_enter Try.func79, Try.ntmps79
 go_wp2_with fail
 clear fn
 go_loopw [5] (fun i' w' => ∃ (k : Nat), nx ≤ k ∧ k ≤ ln ∧ i' = .int .i64 k ∧ Hid (∀ j x : Nat, nx ≤ j → j < k → c.l[j]? = some x → st.held.getD x 0 < 0) ∧ Hid (Below w.heap.size w w')) (fun i' _ => ln - (intOf i').toNat)
 case atStart => exact ⟨nx, Nat.le_refl _, hnl, rfl, fun j x h1 h2 => by omega, Below.refl _ _⟩
 case round =>
  obtain ⟨k, hk0, hk, rfl, HAr, HBr⟩ := hrel
  obtain ⟨q0, q1, q2, z1⟩ := KC.out _ HBr.out
  by_cases hlt : k < ln
  ·obtain ⟨x, hx⟩ := getElem_lt (show k < c.l.length by have := HLN.out; omega)
   obtain ⟨cx, hxN⟩ := KX.out _ HBr.out k x hx
   obtain ⟨y, HYV⟩ : ∃ y, Hid (y = st.held.getD x 0) := ⟨_, rfl⟩
   have ch := KH.out _ HBr.out x hxN
   rw [← HYV.out] at ch
   have hkI : (k : Int) < (ln : Int) := by omega
   have hkl : (k : Int) < (ln : Int) := by omega
   have hxI : (x : Int) < (N : Int) := by omega
   have e3 : IntKind.i64.wrap ((k : Int) + 1) = (k : Int) + 1 := wrapI _ (by omega) (by omega)
   have KB : Hid ((fun w' => w'.cell? ⟨bb, 3, none⟩ = some (.slice (some ⟨hb, 0, none⟩) N hc') ∧ w'.cell? ⟨cb, i * 4, none⟩ = some (.slice (some ⟨lb, 0, none⟩) ln lcap) ∧ w'.cell? ⟨lb, k, none⟩ = some (.int .i32 (x : Int)) ∧ w'.cell? ⟨hb, x, none⟩ = some (.int .i8 y)) wr) := ⟨q0, q1, cx, ch⟩
   have HPS := hidden (KS.out wr HBr.out k)
   have HXX := hidden hx
   clear hx
   go_upto_region 4 with fail
   refine wp_region_noPanic ?_
   refine wp_region_held_drew (S := (fun w' => w'.cell? ⟨bb, 3, none⟩ = some (.slice (some ⟨hb, 0, none⟩) N hc') ∧ w'.cell? ⟨cb, i * 4, none⟩ = some (.slice (some ⟨lb, 0, none⟩) ln lcap) ∧ w'.cell? ⟨lb, k, none⟩ = some (.int .i32 (x : Int)) ∧ w'.cell? ⟨hb, x, none⟩ = some (.int .i8 y))) (by kernel_rfl) (by first | assumption | exact KB.out) (fun hHeld => ?_)
   refine tk 0 ?_
   refine tk 1 ?_
   refine tk 2 ?_
   refine tk 3 ?_
   refine tk 4 ?_
   refine tk 5 ?_
   refine tk 6 ?_
   refine tk 7 ?_
   refine tk 8 ?_
   refine tk 9 ?_
   refine tk 10 ?_
   refine tk 11 ?_
   refine tk 12 ?_
   refine tk 13 ?_
   refine wpAnyH_done (by kernel_rfl) ?_ _
   refine NoPanic.normal ?_
   by_cases hy : 0 ≤ y
   ·have HP : Hid (FnPost B w bb st sl i c (.returned (.bool true)) (wr.drew.setCell ⟨cb, i * 4 + 1, none⟩ (.int .i64 (k : Int)))) := Or.inl ⟨k, x, by omega, HXX.out, by rw [← HYV.out]; exact hy, rfl, (KS.out _ (Below.drew HBr.out) k).1, (KS.out _ (Below.drew HBr.out) k).2⟩
    clear KB cx ch HPS q0 q1
    go_wp2
    go_ret
    exact HP.out
   ·have HA2 : Hid (∀ j x : Nat, nx ≤ j → j < k + 1 → c.l[j]? = some x → st.held.getD x 0 < 0) := fun j x' h1 h2 h3 => by
     by_cases e : j = k
     ·subst e
      have := HXX.out
      rw [h3] at this
      cases this
      rw [← HYV.out]; omega
     ·exact HAr.out j x' h1 (by omega) h3
    clear KB cx ch HPS q0 q1
    go_wp2
    go_roundw
    case measure => simp [intOf]; omega
    case rel => exact ⟨k + 1, by omega, by omega, by simp, HA2.out, Below.drew HBr.out⟩
  ·have hge : ¬ ((k : Int) < (ln : Int)) := by omega
   have HA1 : Hid (∀ j x : Nat, nx ≤ j → j < ln → c.l[j]? = some x → st.held.getD x 0 < 0) := fun j x h1 h2 h3 => HAr.out j x h1 (by omega) h3
   have HB1 := hidden HBr.out
   clear HAr HBr
   go_wp2_with fail
   clear q0 q1 q2 z1
   go_loopw [6] (fun i' w' => ∃ (k : Nat), 2 ≤ k ∧ k ≤ nx ∧ i' = .int .i64 k ∧ Hid (∀ j x : Nat, 2 ≤ j → j < k → c.l[j]? = some x → st.held.getD x 0 < 0) ∧ Hid (Below w.heap.size w w')) (fun i' _ => nx - (intOf i').toNat)
   case atStart => exact ⟨2, Nat.le_refl _, hn2, rfl, fun j x h1 h2 => by omega, HB1.out⟩
   case round =>
    obtain ⟨k, hk0, hk, rfl, HAr, HBr⟩ := hrel
    obtain ⟨q0, q1, q2, z1⟩ := KC.out _ HBr.out
    by_cases hlt : k < nx
    ·obtain ⟨x, hx⟩ := getElem_lt (show k < c.l.length by have := HLN.out; omega)
     obtain ⟨cx, hxN⟩ := KX.out _ HBr.out k x hx
     obtain ⟨y, HYV⟩ : ∃ y, Hid (y = st.held.getD x 0) := ⟨_, rfl⟩
     have ch := KH.out _ HBr.out x hxN
     rw [← HYV.out] at ch
     have hkI : (k : Int) < (nx : Int) := by omega
     have hkl : (k : Int) < (ln : Int) := by omega
     have hxI : (x : Int) < (N : Int) := by omega
     have e3 : IntKind.i64.wrap ((k : Int) + 1) = (k : Int) + 1 := wrapI _ (by omega) (by omega)
     have KB : Hid ((fun w' => w'.cell? ⟨bb, 3, none⟩ = some (.slice (some ⟨hb, 0, none⟩) N hc') ∧ w'.cell? ⟨cb, i * 4, none⟩ = some (.slice (some ⟨lb, 0, none⟩) ln lcap) ∧ w'.cell? ⟨lb, k, none⟩ = some (.int .i32 (x : Int)) ∧ w'.cell? ⟨hb, x, none⟩ = some (.int .i8 y)) wr) := ⟨q0, q1, cx, ch⟩
     have HPS := hidden (KS.out wr HBr.out k)
     have HXX := hidden hx
     clear hx
     go_upto_region 10 with fail
     refine wp_region_noPanic ?_
     refine wp_region_held_drew (S := (fun w' => w'.cell? ⟨bb, 3, none⟩ = some (.slice (some ⟨hb, 0, none⟩) N hc') ∧ w'.cell? ⟨cb, i * 4, none⟩ = some (.slice (some ⟨lb, 0, none⟩) ln lcap) ∧ w'.cell? ⟨lb, k, none⟩ = some (.int .i32 (x : Int)) ∧ w'.cell? ⟨hb, x, none⟩ = some (.int .i8 y))) (by kernel_rfl) (by first | assumption | exact KB.out) (fun hHeld => ?_)
     refine tk 0 ?_
     refine tk 1 ?_
     refine tk 2 ?_
     refine tk 3 ?_
     refine tk 4 ?_
     refine tk 5 ?_
     refine tk 6 ?_
     refine tk 7 ?_
     refine tk 8 ?_
     refine tk 9 ?_
     refine tk 10 ?_
     refine tk 11 ?_
     refine tk 12 ?_
     refine tk 13 ?_
     refine wpAnyH_done (by kernel_rfl) ?_ _
     refine NoPanic.normal ?_
     by_cases hy : 0 ≤ y
     ·have HP : Hid (FnPost B w bb st sl i c (.returned (.bool true)) (wr.drew.setCell ⟨cb, i * 4 + 1, none⟩ (.int .i64 (k : Int)))) := Or.inl ⟨k, x, by omega, HXX.out, by rw [← HYV.out]; exact hy, rfl, (KS.out _ (Below.drew HBr.out) k).1, (KS.out _ (Below.drew HBr.out) k).2⟩
      clear KB cx ch HPS q0 q1
      go_wp2
      go_ret
      exact HP.out
     ·have HA2 : Hid (∀ j x : Nat, 2 ≤ j → j < k + 1 → c.l[j]? = some x → st.held.getD x 0 < 0) := fun j x' h1 h2 h3 => by
       by_cases e : j = k
       ·subst e
        have := HXX.out
        rw [h3] at this
        cases this
        rw [← HYV.out]; omega
       ·exact HAr.out j x' h1 (by omega) h3
      clear KB cx ch HPS q0 q1
      go_wp2
      go_roundw
      case measure => simp [intOf]; omega
      case rel => exact ⟨k + 1, by omega, by omega, by simp, HA2.out, Below.drew HBr.out⟩
    ·have hge : ¬ ((k : Int) < (nx : Int)) := by omega
     have HP : Hid (FnPost B w bb st sl i c (.returned (.bool false)) wr) := Or.inr ⟨rfl, fun j x h1 h2 => by
       by_cases e : j < nx
       ·exact HAr.out j x h1 (by omega) h2
       ·have := (List.getElem?_eq_some_iff.1 h2).1
        exact HA1.out j x (by omega) (by have := HLN.out; omega) h2, R0.out.rest HBr.out, HBr.out⟩
     clear q0 q1
     go_wp2
     go_ret
     exact HP.out
end Go.Proofs.Ytefjicdhccfieaa

set_option maxRecDepth 100000
set_option maxHeartbeats 16000000
namespace Go.Proofs.Ytefjicdhccfieaa
open Go.RowKit
def St.nextAt (st : St) (i k : Nat) : St := { st with cls := st.cls.modify i fun c => { c with next := k } }
def St.roundAt (st : St) (i k : Nat) : St := { st with cls := st.cls.modify i fun c => { c with round := k } }
def St.useV (st : St) (v : Nat) (b : Bool) : St := { st with used := st.used.set v b }
theorem Link.nextAt {sl : Site → Slot} {st : St} (h : Link sl st) (i t : Nat) : Link (setS sl .clauses ⟨(sl .clauses).v, (sl .clauses).n, (sl .clauses).xs.set (4 * i + 1) (.int .i64 (t : Int))⟩) (st.nextAt i t) := by
 refine ⟨h.hV, ?_, h.heldL, ?_, h.reasonL, ?_, h.usedL, ?_, ?_, ?_, ?_, ?_, ?_⟩
 ·simpa [setS, St.nextAt] using h.held
 ·simpa [setS, St.nextAt] using h.reason
 ·simpa [setS, St.nextAt] using h.used
 ·simpa [setS, St.nextAt] using h.trail
 ·simpa [setS, St.nextAt] using h.clsN
 ·intro j c hc
  simp only [St.nextAt, List.getElem?_modify] at hc
  cases hj : st.cls[j]? with
  | none => rw [hj] at hc; cases hc
  | some d =>
   rw [hj] at hc
   obtain ⟨h0, h1, h2, h3⟩ := h.cls j d hj
   rw [setS_same, setS_other _ _ (by intro e; cases e)]
   dsimp only
   by_cases e : i = j
   ·subst e
    simp at hc
    subst hc
    have hlt : 4 * i + 1 < (sl .clauses).xs.length := (List.getElem?_eq_some_iff.1 h1).1
    refine ⟨?_, ?_, ?_, ?_⟩
    ·rw [List.getElem?_set_ne (by omega)]; exact h0
    ·rw [List.getElem?_set_self hlt]
    ·rw [List.getElem?_set_ne (by omega)]; exact h2
    ·rw [List.getElem?_set_ne (by omega)]; exact h3
   ·simp [e] at hc
    subst hc
    refine ⟨?_, ?_, ?_, ?_⟩
    ·rw [List.getElem?_set_ne (by omega)]; exact h0
    ·rw [List.getElem?_set_ne (by omega)]; exact h1
    ·rw [List.getElem?_set_ne (by omega)]; exact h2
    ·rw [List.getElem?_set_ne (by omega)]; exact h3
 ·intro j c hc
  simp only [St.nextAt, List.getElem?_modify] at hc
  cases hj : st.cls[j]? with
  | none => rw [hj] at hc; cases hc
  | some d =>
   rw [hj] at hc
   have h0 := h.lits j d hj
   rw [setS_other _ _ (by intro e; cases e)]
   by_cases e : i = j
   ·subst e
    simp at hc
    subst hc
    exact h0
   ·simp [e] at hc
    subst hc
    exact h0
 ·intro t ht
  simpa [setS, St.nextAt] using h.row t ht
 ·intro t l' ht hl
  simpa [setS, St.nextAt] using h.wl t l' ht hl
theorem Link.roundAt {sl : Site → Slot} {st : St} (h : Link sl st) (i t : Nat) : Link (setS sl .clauses ⟨(sl .clauses).v, (sl .clauses).n, (sl .clauses).xs.set (4 * i + 3) (.int .i64 (t : Int))⟩) (st.roundAt i t) := by
 refine ⟨h.hV, ?_, h.heldL, ?_, h.reasonL, ?_, h.usedL, ?_, ?_, ?_, ?_, ?_, ?_⟩
 ·simpa [setS, St.roundAt] using h.held
 ·simpa [setS, St.roundAt] using h.reason
 ·simpa [setS, St.roundAt] using h.used
 ·simpa [setS, St.roundAt] using h.trail
 ·simpa [setS, St.roundAt] using h.clsN
 ·intro j c hc
  simp only [St.roundAt, List.getElem?_modify] at hc
  cases hj : st.cls[j]? with
  | none => rw [hj] at hc; cases hc
  | some d =>
   rw [hj] at hc
   obtain ⟨h0, h1, h2, h3⟩ := h.cls j d hj
   rw [setS_same, setS_other _ _ (by intro e; cases e)]
   dsimp only
   by_cases e : i = j
   ·subst e
    simp at hc
    subst hc
    have hlt : 4 * i + 3 < (sl .clauses).xs.length := (List.getElem?_eq_some_iff.1 h3).1
    refine ⟨?_, ?_, ?_, ?_⟩
    ·rw [List.getElem?_set_ne (by omega)]; exact h0
    ·rw [List.getElem?_set_ne (by omega)]; exact h1
    ·rw [List.getElem?_set_ne (by omega)]; exact h2
    ·rw [List.getElem?_set_self hlt]
   ·simp [e] at hc
    subst hc
    refine ⟨?_, ?_, ?_, ?_⟩
    ·rw [List.getElem?_set_ne (by omega)]; exact h0
    ·rw [List.getElem?_set_ne (by omega)]; exact h1
    ·rw [List.getElem?_set_ne (by omega)]; exact h2
    ·rw [List.getElem?_set_ne (by omega)]; exact h3
 ·intro j c hc
  simp only [St.roundAt, List.getElem?_modify] at hc
  cases hj : st.cls[j]? with
  | none => rw [hj] at hc; cases hc
  | some d =>
   rw [hj] at hc
   have h0 := h.lits j d hj
   rw [setS_other _ _ (by intro e; cases e)]
   by_cases e : i = j
   ·subst e
    simp at hc
    subst hc
    exact h0
   ·simp [e] at hc
    subst hc
    exact h0
 ·intro t ht
  simpa [setS, St.roundAt] using h.row t ht
 ·intro t l' ht hl
  simpa [setS, St.roundAt] using h.wl t l' ht hl
theorem boolV_set (l : List Bool) (i : Nat) (x : Bool) : boolV (l.set i x) = (boolV l).set i (.bool x) := by simp [boolV, List.map_set]
theorem Link.useV {sl : Site → Slot} {st : St} (h : Link sl st) (v : Nat) (b : Bool) : Link (setS sl .used ⟨(sl .used).v, (sl .used).n, (sl .used).xs.set v (.bool b)⟩) (st.useV v b) := by
 refine ⟨h.hV, ?_, h.heldL, ?_, h.reasonL, ?_, by simpa [St.useV] using h.usedL, ?_, ?_, ?_, ?_, ?_, ?_⟩
 ·simpa [setS, St.useV] using h.held
 ·simpa [setS, St.useV] using h.reason
 ·refine ⟨by simpa [setS, St.useV] using h.used.1, ?_⟩
  simp only [St.useV, boolV_set]
  rw [← h.used.2]
  simp [setS]
 ·simpa [setS, St.useV] using h.trail
 ·simpa [setS, St.useV] using h.clsN
 ·intro j c hc
  simpa [setS, St.useV] using h.cls j c hc
 ·intro j c hc
  simpa [setS, St.useV] using h.lits j c hc
 ·intro t ht
  simpa [setS, St.useV] using h.row t ht
 ·intro t l' ht hl
  simpa [setS, St.useV] using h.wl t l' ht hl
end Go.Proofs.Ytefjicdhccfieaa

set_option maxRecDepth 100000
set_option maxHeartbeats 16000000
namespace Go.Proofs.Ytefjicdhccfieaa
open Go.RowKit
def St.useL (st : St) (ls : List Nat) : St := ls.foldl (fun s l => s.useV (l / 2) true) st
theorem useL_next (st : St) (ls : List Nat) (k l : Nat) (h : ls[k]? = some l) : st.useL (ls.take (k + 1)) = (st.useL (ls.take k)).useV (l / 2) true := by
 rw [take_next ls k l h]; simp [St.useL]
theorem Bd.clause {B : Nat} {w : World} {bb : Nat} {st : St} {X : Slot} {CV : Value} (h : Bd B w bb st X CV) {i : Nat} {c : BC} (hc : st.cls[i]? = some c) (h0 : 0 < c.l.length) : ∃ cb ccap lb lcap, CV = .slice (some ⟨cb, 0, none⟩) st.cls.length ccap ∧ B ≤ cb ∧ cb < w.heap.size ∧ lb < w.heap.size ∧ w.cell? ⟨bb, 0, none⟩ = some CV ∧ w.cell? ⟨cb, i * 4, none⟩ = some (.slice (some ⟨lb, 0, none⟩) c.l.length lcap) ∧ w.cell? ⟨cb, i * 4 + 2, none⟩ = some (.int .i64 (c.tier : Int)) ∧ w.cell? ⟨cb, i * 4 + 3, none⟩ = some (.int .i64 (c.round : Int)) ∧ (∀ j, w.frozen? ⟨cb, j, none⟩ = false) ∧ ∀ k x : Nat, c.l[k]? = some x → w.cell? ⟨lb, k, none⟩ = some (.int .i32 (x : Int)) := by
 obtain ⟨sl, R, L, _, rfl⟩ := h
 have hil : i < st.cls.length := (List.getElem?_eq_some_iff.1 hc).1
 obtain ⟨q0, q1, q2, q3⟩ := L.cls i c hc
 obtain ⟨p1, p2⟩ := L.lits i c hc
 obtain ⟨lb, lcap, hlv, _, hlb, _, hlcell, _⟩ := R.form (.lits i) (by rw [p1]; exact h0)
 obtain ⟨cb, ccap, hcv, hcB, hcl, _, hccell, hcfz⟩ := R.form .clauses (by rw [L.clsN]; omega)
 refine ⟨cb, ccap, lb, lcap, by rw [hcv, L.clsN], hcB, hcl, hlb, R.field 0, ?_, ?_, ?_, hcfz, fun k x hx => ?_⟩
 ·rw [hccell (i * 4) (by rw [L.clsN]; simp [Site.sz]; omega), Nat.mul_comm, q0, hlv, p1]
 ·rw [hccell (i * 4 + 2) (by rw [L.clsN]; simp [Site.sz]; omega), Nat.mul_comm, q2]
 ·rw [hccell (i * 4 + 3) (by rw [L.clsN]; simp [Site.sz]; omega), Nat.mul_comm, q3]
 ·have := (List.getElem?_eq_some_iff.1 hx).1
  rw [hlcell k (by rw [p1]; simp [Site.sz]; omega), p2]; exact litV_get _ _ _ hx
theorem Bd.roundAt {B : Nat} {w : World} {bb : Nat} {st : St} {X : Slot} {CV : Value} (h : Bd B w bb st X CV) (i k cb n ccap : Nat) (hCV : CV = .slice (some ⟨cb, 0, none⟩) n ccap) : Bd B (w.setCell ⟨cb, i * 4 + 3, none⟩ (.int .i64 (k : Int))) bb (st.roundAt i k) X CV ∧ Below B w (w.setCell ⟨cb, i * 4 + 3, none⟩ (.int .i64 (k : Int))) := by
 obtain ⟨sl, R, L, hX, hv⟩ := h
 rw [hCV] at hv
 have hr := R.rows .clauses
 have hn : n = (sl .clauses).n := by
  rcases hr.2 with ⟨h1, _⟩ | ⟨g, cap, cur, h1, _⟩
  ·rw [hv] at h1; cases h1
  ·rw [hv] at h1; cases h1; rfl
 rw [hn] at hv
 have hB : B ≤ cb := (hr.lt cb (by rw [hv]; rfl)).1
 rw [Nat.mul_comm i 4]
 refine ⟨⟨_, ?_, L.roundAt i k, ?_, ?_⟩, setTo (Below.refl _ _) hB R.size⟩
 ·have := R.setR .clauses hv (4 * i + 3) (.int .i64 (k : Int))
  have ef : fields (setS sl .clauses ⟨(sl .clauses).v, (sl .clauses).n, (sl .clauses).xs.set (4 * i + 3) (.int .i64 (k : Int))⟩) (st.roundAt i k) = fields sl st := by simp [fields, setS, St.roundAt]
  rw [ef]; exact this
 ·rw [← hX]; simp [setS, St.roundAt]
 ·rw [setS_same, hCV, hn]; exact hv
theorem Bd.usedC {B : Nat} {w : World} {bb : Nat} {st : St} {X : Slot} {CV : Value} (h : Bd B w bb st X CV) {v : Nat} (hv : v < st.V) : ∃ ub uc u, w.cell? ⟨bb, 5, none⟩ = some (.slice (some ⟨ub, 0, none⟩) st.V uc) ∧ w.cell? ⟨ub, v, none⟩ = some (.bool u) ∧ st.used[v]? = some u ∧ w.frozen? ⟨ub, v, none⟩ = false ∧ ub ≠ bb ∧ ∀ (w' : World) (b : Bool), Below w.heap.size w w' → Bd B (w'.setCell ⟨ub, v, none⟩ (.bool b)) bb (st.useV v b) X CV ∧ Below B w (w'.setCell ⟨ub, v, none⟩ (.bool b)) := by
 obtain ⟨sl, R, L, hX, hCV⟩ := h
 obtain ⟨ub, uc, huv, huB, hul, _, hcell, hfz⟩ := R.form .used (by rw [L.used.1]; omega)
 obtain ⟨u, hu⟩ := getElem_lt (show v < st.used.length by rw [L.usedL]; exact hv)
 refine ⟨ub, uc, u, by rw [R.field 5, ← L.used.1, ← huv]; rfl, ?_, hu, hfz v, fun e => R.nb .used (by rw [huv, ← e]; rfl), fun w' b hb => ?_⟩
 ·rw [hcell v (by rw [L.used.1]; simp [Site.sz]; omega), L.used.2]; simp [boolV, hu]
 ·have R1 := R.rest hb
  refine ⟨⟨_, ?_, L.useV v b, ?_, ?_⟩, setTo (hb.mono R.size) huB R1.size⟩
  ·have := R1.setR .used huv v (.bool b)
   have ef : fields (setS sl .used ⟨(sl .used).v, (sl .used).n, (sl .used).xs.set v (.bool b)⟩) (st.useV v b) = fields sl st := by simp [fields, setS, St.useV]
   rw [ef]; exact this
  ·rw [← hX]; simp [setS, St.useV]
  ·rw [← hCV]; simp [setS]
end Go.Proofs.Ytefjicdhccfieaa

set_option maxRecDepth 100000
set_option maxHeartbeats 16000000
namespace Go.Proofs.Ytefjicdhccfieaa
open Go.RowKit
def swp (ls : List Nat) (i j : Nat) : List Nat := (ls.set i (ls.getD j 0)).set j (ls.getD i 0)
theorem swp_len (ls : List Nat) (i j : Nat) : (swp ls i j).length = ls.length := by simp [swp]
def swI (i j k : Nat) : Nat := if k = j then i else if k = i then j else k
theorem swp_get (ls : List Nat) {i j : Nat} (hi : i < ls.length) (hj : j < ls.length) (k : Nat) : (swp ls i j)[k]? = ls[swI i j k]? := by
 obtain ⟨a, ha⟩ := getElem_lt hi
 obtain ⟨b, hb⟩ := getElem_lt hj
 have ea : ls.getD i 0 = a := by rw [List.getD_eq_getElem?_getD, ha]; rfl
 have eb : ls.getD j 0 = b := by rw [List.getD_eq_getElem?_getD, hb]; rfl
 unfold swp swI
 rw [ea, eb]
 by_cases h1 : k = j
 ·subst h1
  rw [if_pos rfl, List.getElem?_set_self (by simp; exact hj), ha]
 ·rw [if_neg h1, List.getElem?_set_ne (fun e => h1 e.symm)]
  by_cases h2 : k = i
  ·subst h2
   rw [if_pos rfl, List.getElem?_set_self hi, hb]
  ·rw [if_neg h2, List.getElem?_set_ne (fun e => h2 e.symm)]
theorem swI_swI (i j k : Nat) : swI i j (swI i j k) = k := by
 unfold swI
 by_cases h1 : k = j
 ·subst h1; rw [if_pos rfl]
  by_cases h2 : i = k
  ·rw [if_pos h2, h2]
  ·rw [if_neg h2, if_pos rfl]
 ·rw [if_neg h1]
  by_cases h2 : k = i
  ·subst h2; rw [if_pos rfl, if_pos rfl]
  ·rw [if_neg h2, if_neg h1, if_neg h2]
theorem swp_mem (ls : List Nat) {i j : Nat} (hi : i < ls.length) (hj : j < ls.length) (x : Nat) : x ∈ swp ls i j ↔ x ∈ ls := by
 constructor
 ·intro h
  obtain ⟨k, hk⟩ := List.getElem?_of_mem h
  rw [swp_get ls hi hj] at hk
  exact List.mem_of_getElem? hk
 ·intro h
  obtain ⟨k, hk⟩ := List.getElem?_of_mem h
  have : (swp ls i j)[swI i j k]? = some x := by rw [swp_get ls hi hj, swI_swI, hk]
  exact List.mem_of_getElem? this
theorem nodup_get {ls : List Nat} (h : ls.Nodup) {i j : Nat} {x : Nat} (hi : ls[i]? = some x) (hj : ls[j]? = some x) : i = j := by
 have h1 := (List.getElem?_eq_some_iff.1 hi).1
 exact (List.getElem?_inj h1 h).1 (by rw [hi, hj])
theorem nodup_of {ls : List Nat} (h : ∀ i j x : Nat, ls[i]? = some x → ls[j]? = some x → i = j) : ls.Nodup := by
 rw [List.nodup_iff_pairwise_ne]
 rw [List.pairwise_iff_getElem]
 intro i j hi hj hij e
 have := h i j ls[i] (List.getElem?_eq_getElem hi) (by rw [e]; exact List.getElem?_eq_getElem hj)
 omega
theorem swp_nodup {ls : List Nat} (h : ls.Nodup) {i j : Nat} (hi : i < ls.length) (hj : j < ls.length) : (swp ls i j).Nodup := by
 refine nodup_of (fun a b x ha hb => ?_)
 rw [swp_get ls hi hj] at ha hb
 have := nodup_get h ha hb
 have h2 := congrArg (swI i j) this
 rwa [swI_swI, swI_swI] at h2
theorem nodup_len {ls : List Nat} (h : ls.Nodup) {n : Nat} (hn : ∀ x, x ∈ ls → x < n) : ls.length ≤ n := by
 induction n generalizing ls with
 | zero =>
  cases ls with
  | nil => simp
  | cons a r => exact absurd (hn a (by simp)) (by omega)
 | succ n ih =>
  have h1 := ih (h.erase n) (fun x hx => by
   have h2 := (h.mem_erase_iff).1 hx
   have := hn x h2.2
   have := h2.1
   omega)
  have h3 := List.length_erase (a := n) (l := ls)
  split at h3 <;> omega
def intL (y : Nat) : Int := if y % 2 = 0 then ((y / 2 : Nat) : Int) + 1 else -(((y / 2 : Nat) : Int) + 1)
theorem intL_opp (y : Nat) : intL (oppN y) = - intL y := by
 unfold intL oppN
 by_cases h : y % 2 = 0
 ·rw [if_pos h, if_pos h, if_neg (by omega)]; congr 2; omega
 ·rw [if_neg h, if_neg h, if_pos (by omega)]; omega
theorem intL_inj {x y : Nat} (h : intL x = intL y) : x = y := by
 unfold intL at h
 split at h <;> split at h <;> omega
theorem intL_lit {n : Int} (h : n ≠ 0) : intL (litN n) = n := by
 unfold intL litN
 split <;> split <;> omega
def wt (c : BC) (u : Nat) : Prop := c.l[0]? = some u ∨ c.l[1]? = some u
theorem wt.mem {c : BC} {u : Nat} (h : wt c u) : u ∈ c.l := by rcases h with h | h <;> exact List.mem_of_getElem? h
structure Wd (V : Nat) (cls : List BC) (W : Nat → Nat → List (Nat × Nat)) : Prop where
 two : ∀ (i : Nat) (c : BC), cls[i]? = some c → 2 ≤ c.l.length ∧ c.l.Nodup ∧ (∀ x, x ∈ c.l → x < 2 * V) ∧ c.tier < 2 ∧ 2 ≤ c.next ∧ c.next ≤ c.l.length
 has : ∀ (i : Nat) (c : BC) (u : Nat), cls[i]? = some c → wt c u → ∃ o, (i, o) ∈ W c.tier u
 own : ∀ t l i o, (i, o) ∈ W t l → ∃ c, cls[i]? = some c ∧ o ∈ c.l ∧ (c.tier = t → wt c l) ∧ (t = 0 → c.tier = 0)
 nd : ∀ t l, ((W t l).map (·.1)).Nodup
theorem Wd.len {V : Nat} {cls : List BC} {W : Nat → Nat → List (Nat × Nat)} (h : Wd V cls W) (t l : Nat) : (W t l).length ≤ cls.length := by
 have := nodup_len (h.nd t l) (n := cls.length) (fun x hx => by
  obtain ⟨⟨i, o⟩, h1, rfl⟩ := List.mem_map.1 hx
  obtain ⟨c, hc, _⟩ := h.own t l i o h1
  exact (List.getElem?_eq_some_iff.1 hc).1)
 simpa using this
theorem Wd.clen {V : Nat} {cls : List BC} {W : Nat → Nat → List (Nat × Nat)} (h : Wd V cls W) {i : Nat} {c : BC} (hc : cls[i]? = some c) : c.l.length ≤ 2 * V := nodup_len (h.two i c hc).2.1 (h.two i c hc).2.2.1
structure Hd (st : St) : Prop where
 heldL : st.held.length = 2 * st.V
 held : ∀ y, y < 2 * st.V → st.held.getD y 0 = if y ∈ st.trail then 1 else if oppN y ∈ st.trail then -1 else 0
 tlt : ∀ y, y ∈ st.trail → y < 2 * st.V
 tnd : st.trail.Nodup
 cons : ∀ y, y ∈ st.trail → oppN y ∉ st.trail
 l0 : st.lk0 ≤ st.trail.length
 l1 : st.lk1 ≤ st.trail.length
theorem Hd.len {st : St} (h : Hd st) : st.trail.length ≤ 2 * st.V := nodup_len h.tnd h.tlt
theorem Hd.pos {st : St} (h : Hd st) {y : Nat} (hy : y < 2 * st.V) : 0 < st.held.getD y 0 ↔ y ∈ st.trail := by
 rw [h.held y hy]
 by_cases h1 : y ∈ st.trail
 ·simp [h1]
 ·rw [if_neg h1]; by_cases h2 : oppN y ∈ st.trail <;> simp [h1, h2]
theorem Hd.neg {st : St} (h : Hd st) {y : Nat} (hy : y < 2 * st.V) : st.held.getD y 0 < 0 ↔ oppN y ∈ st.trail := by
 rw [h.held y hy]
 by_cases h1 : y ∈ st.trail
 ·simp [h1, h.cons y h1]
 ·rw [if_neg h1]; by_cases h2 : oppN y ∈ st.trail <;> simp [h2]
theorem Hd.val {st : St} (h : Hd st) {y : Nat} (hy : y < 2 * st.V) : st.held.getD y 0 = 1 ∨ st.held.getD y 0 = 0 ∨ st.held.getD y 0 = -1 := by
 rw [h.held y hy]
 by_cases h1 : y ∈ st.trail
 ·simp [h1]
 ·rw [if_neg h1]; by_cases h2 : oppN y ∈ st.trail <;> simp [h2]
theorem Hd.even {st : St} (h : Hd st) : Even' st := fun y hy => by
 rw [h.held y hy, h.held _ (oppN_lt hy), oppN_opp]
 by_cases h1 : y ∈ st.trail
 ·simp [h1, h.cons y h1]
 ·by_cases h2 : oppN y ∈ st.trail <;> simp [h1, h2]
theorem Hd.hold {st : St} (h : Hd st) {l : Nat} (hl : l < 2 * st.V) (h0 : st.held.getD l 0 = 0) (r : Int) : Hd (st.hold l r) := by
 have ho := oppN_lt hl
 have hne := oppN_ne l
 have n1 : l ∉ st.trail := fun hm => by have := (h.pos hl).2 hm; omega
 have n2 : oppN l ∉ st.trail := fun hm => by have := (h.neg hl).2 hm; omega
 refine ⟨by simp [St.hold, h.heldL], fun y hy => ?_, fun y hy => ?_, ?_, fun y hy hy2 => ?_, ?_, ?_⟩
 ·have hy' : y < 2 * st.V := hy
  have et : (st.hold l r).trail = st.trail ++ [l] := rfl
  rw [et]
  show ((st.held.set l 1).set (oppN l) (-1)).getD y 0 = _
  rw [getD_set _ _ _ _ (by simp [h.heldL]; exact ho), getD_set _ _ _ _ (by rw [h.heldL]; exact hl), h.held y hy']
  by_cases e1 : y = oppN l
  ·subst e1
   rw [if_pos rfl, if_neg (by simp [n2, hne]), if_pos (by rw [oppN_opp]; simp)]
  ·rw [if_neg e1]
   by_cases e2 : y = l
   ·subst e2; rw [if_pos rfl, if_pos (by simp)]
   ·rw [if_neg e2]
    have e3 : (y ∈ st.trail ++ [l]) ↔ y ∈ st.trail := by simp [e2]
    have e4 : (oppN y ∈ st.trail ++ [l]) ↔ oppN y ∈ st.trail := by
     have : oppN y ≠ l := fun e => e1 (by rw [← e, oppN_opp])
     simp [this]
    simp only [e3, e4]
 ·simp only [St.hold, List.mem_append, List.mem_singleton] at hy
  rcases hy with hy | hy
  ·exact h.tlt y hy
  ·rw [hy]; exact hl
 ·simp only [St.hold]
  rw [List.nodup_append]
  exact ⟨h.tnd, by simp, fun a ha b hb e => by rw [List.mem_singleton.1 hb] at e; rw [e] at ha; exact n1 ha⟩
 ·simp only [St.hold, List.mem_append, List.mem_singleton] at hy hy2
  rcases hy with hy | hy
  ·rcases hy2 with hy2 | hy2
   ·exact h.cons y hy hy2
   ·exact n2 (by rw [← hy2, oppN_opp]; exact hy)
  ·subst hy
   rcases hy2 with hy2 | hy2
   ·exact n2 hy2
   ·exact hne hy2
 ·have := h.l0; simp [St.hold]; omega
 ·have := h.l1; simp [St.hold]; omega
def W4 (st : St) (ex : Nat → Nat → Prop) : Prop := ∀ (i : Nat) (c : BC) (u : Nat), st.cls[i]? = some c → wt c u → oppN u ∈ st.trail.take (if c.tier = 0 then st.lk0 else st.lk1) → (∃ y, y ∈ c.l ∧ y ∈ st.trail) ∨ ex i u
def W5 (cls : List BC) (T : List Nat) : Prop := ∀ (i : Nat) (c : BC) (u : Nat), cls[i]? = some c → wt c u → oppN u ∈ T → ∃ y, y ∈ c.l ∧ y ∈ T
def Dof (cls : List BC) : List (List Int) := cls.map fun c => c.l.map intL
structure Core (F : List (List Int)) (L A : Int → Prop) (b : Nat) (st : St) (W : Nat → Nat → List (Nat × Nat)) : Prop where
 wd : Wd st.V st.cls W
 hd : Hd st
 rs : ∀ r, r ∈ st.reason → -1 ≤ r ∧ (r < 1 ∨ r < (st.cls.length : Int))
 bf : b ≤ st.trail.length
 w5 : W5 st.cls (st.trail.take b)
 bk : Book F (Dof st.cls) L
 so : ∀ y, y ∈ st.trail → Der F A (intL y)
end Go.Proofs.Ytefjicdhccfieaa
