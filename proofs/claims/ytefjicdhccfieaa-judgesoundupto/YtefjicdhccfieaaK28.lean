import Derived.Test.YtefjicdhccfieaaK01
import Derived.Test.YtefjicdhccfieaaK27
set_option maxRecDepth 100000
set_option maxHeartbeats 16000000
namespace Go.Proofs.Ytefjicdhccfieaa
open Go.RowKit
def FnPost (B : Nat) (w : World) (bb : Nat) (st : St) (sl : Site → Slot) (i : Nat) (c : BC) (e : Ending) (w' : World) : Prop :=
 (∃ k x : Nat, 2 ≤ k ∧ c.l[k]? = some x ∧ 0 ≤ st.held.getD x 0 ∧ e = .returned (.bool true) ∧ Rows' B w' bb (fields sl st) (setS sl .clauses ⟨(sl .clauses).v, (sl .clauses).n, (sl .clauses).xs.set (4 * i + 1) (.int .i64 (k : Int))⟩) ∧ Below B w w' ∧ w.grownBy w' (sl .clauses).v.ownBlock) ∨
 (e = .returned (.bool false) ∧ (∀ k x : Nat, 2 ≤ k → c.l[k]? = some x → st.held.getD x 0 < 0) ∧ Rows' B w' bb (fields sl st) sl ∧ Below w.heap.size w w')
theorem findNext_any (B : Nat) (w : World) (bb : Nat) (st : St) (sl : Site → Slot) (R : Rows' B w bb (fields sl st) sl) (L : Link sl st) (cb ccap : Nat) (hcv : (sl .clauses).v = .slice (some ⟨cb, 0, none⟩) (sl .clauses).n ccap) (i : Nat) (c : BC) (hc : st.cls[i]? = some c) (hn2 : 2 ≤ c.next) (hnl : c.next ≤ c.l.length) (hlen : c.l.length ≤ 67108864) (hlit : ∀ x, x ∈ c.l → x < 2 * st.V) (hV0 : 0 < st.V) :
  Calls Try.prog 79 #[.pointer (some ⟨bb, 0, none⟩), .pointer (some ⟨cb, i * 4, none⟩)] w fun e w' => FnPost B w bb st sl i c e w' := by
 have hV := L.hV
 have hil : i < st.cls.length := (List.getElem?_eq_some_iff.1 hc).1
 obtain ⟨q0, q1, q2, q3⟩ := L.cls i c hc
 obtain ⟨p1, p2⟩ := L.lits i c hc
 obtain ⟨hb, hc', hv, hhB, hbl, _, hcell, _⟩ := R.form .held (by rw [L.held.1]; omega)
 obtain ⟨lb, lcap, hlv, _, hlb, _, hlcell, _⟩ := R.form (.lits i) (by rw [p1]; omega)
 obtain ⟨cb', ccap', hcv', hcB, hcl, _, hccell, hcfz⟩ := R.form .clauses (by rw [L.clsN]; omega)
 rw [hcv] at hcv'
 simp only [Value.slice.injEq, Option.some.injEq, Addr.mk.injEq, and_true, true_and] at hcv'
 obtain ⟨rfl, rfl⟩ := hcv'
 obtain ⟨N, HN⟩ : ∃ N, Hid (N = 2 * st.V) := ⟨_, rfl⟩
 obtain ⟨ln, HLN⟩ : ∃ n, Hid (n = c.l.length) := ⟨_, rfl⟩
 obtain ⟨nx, HNXT⟩ : ∃ n, Hid (n = c.next) := ⟨_, rfl⟩
 have f3 : w.cell? ⟨bb, 3, none⟩ = some (.slice (some ⟨hb, 0, none⟩) N hc') := by rw [R.field 3, HN.out, ← L.held.1, ← hv]; rfl
 have fl : w.cell? ⟨cb, i * 4, none⟩ = some (.slice (some ⟨lb, 0, none⟩) ln lcap) := by
  rw [hccell (i * 4) (by rw [L.clsN]; simp [Site.sz]; omega), Nat.mul_comm, q0, hlv, p1, HLN.out]
 have fn : w.cell? ⟨cb, i * 4 + 1, none⟩ = some (.int .i64 (nx : Int)) := by
  rw [hccell (i * 4 + 1) (by rw [L.clsN]; simp [Site.sz]; omega), Nat.mul_comm, q1, HNXT.out]
 have zn := hcfz (i * 4 + 1)
 have hbb := R.lt
 have KC : Hid (∀ w', Below w.heap.size w w' → w'.cell? ⟨bb, 3, none⟩ = some (.slice (some ⟨hb, 0, none⟩) N hc') ∧ w'.cell? ⟨cb, i * 4, none⟩ = some (.slice (some ⟨lb, 0, none⟩) ln lcap) ∧ w'.cell? ⟨cb, i * 4 + 1, none⟩ = some (.int .i64 (nx : Int)) ∧ w'.frozen? ⟨cb, i * 4 + 1, none⟩ = false) := fun w' hb' => ⟨(hb'.cell (p := ⟨bb, 3, none⟩) hbb).trans f3, (hb'.cell (p := ⟨cb, i * 4, none⟩) hcl).trans fl, (hb'.cell (p := ⟨cb, i * 4 + 1, none⟩) hcl).trans fn, (hb'.frozen (p := ⟨cb, i * 4 + 1, none⟩) hcl).trans zn⟩
 have KX : Hid (∀ w', Below w.heap.size w w' → ∀ k x : Nat, c.l[k]? = some x → w'.cell? ⟨lb, k, none⟩ = some (.int .i32 (x : Int)) ∧ x < N) := fun w' hb' k x hx => by
  have := (List.getElem?_eq_some_iff.1 hx).1
  refine ⟨(hb'.cell (p := ⟨lb, k, none⟩) hlb).trans ?_, by rw [HN.out]; exact hlit x (List.mem_of_getElem? hx)⟩
  rw [hlcell k (by rw [p1]; simp [Site.sz]; omega), p2]; exact litV_get _ _ _ hx
 have KH : Hid (∀ w', Below w.heap.size w w' → ∀ x, x < N → w'.cell? ⟨hb, x, none⟩ = some (.int .i8 (st.held.getD x 0))) := fun w' hb' x hx => by
  refine (hb'.cell (p := ⟨hb, x, none⟩) hbl).trans ?_
  have hx' : x < 2 * st.V := by rw [← HN.out]; exact hx
  rw [hcell x (by rw [L.held.1]; simp [Site.sz]; omega), L.held.2]
  obtain ⟨y, hy⟩ := getElem_lt (show x < st.held.length by rw [L.heldL]; exact hx')
  rw [List.getD_eq_getElem?_getD, hy]; exact i8V_get _ _ _ hy
 have KS : Hid (∀ w', Below w.heap.size w w' → ∀ k : Nat, Rows' B (w'.setCell ⟨cb, i * 4 + 1, none⟩ (.int .i64 (k : Int))) bb (fields sl st) (setS sl .clauses ⟨(sl .clauses).v, (sl .clauses).n, (sl .clauses).xs.set (4 * i + 1) (.int .i64 (k : Int))⟩) ∧ Below B w (w'.setCell ⟨cb, i * 4 + 1, none⟩ (.int .i64 (k : Int))) ∧ w.grownBy (w'.setCell ⟨cb, i * 4 + 1, none⟩ (.int .i64 (k : Int))) (sl .clauses).v.ownBlock) := fun w' hb' k => by
  have R1 := R.rest hb'
  rw [Nat.mul_comm i 4]
  exact ⟨R1.setR .clauses hcv (4 * i + 1) _, setTo (hb'.mono R.size) hcB R1.size, by rw [hcv]; exact grown_trans' (gbel hb' _) (gset _ _ _ _)⟩
 have R0 := hidden R
 rw [← HNXT.out] at hn2 hnl
 rw [← HLN.out] at hnl hlen
 clear q0 q1 q2 q3 p1 p2 hv hcell hlv hlcell hccell hcfz f3 fl zn R L
 go_enter Try.func79, Try.ntmps79
 go_wp2_with fail
 clear fn
 go_loopw [5] (fun i' w' => ∃ (k : Nat), nx ≤ k ∧ k ≤ ln ∧ i' = .int .i64 k ∧ Hid (∀ j x : Nat, nx ≤ j → j < k → c.l[j]? = some x → st.held.getD x 0 < 0) ∧ Hid (Below w.heap.size w w')) (fun i' _ => ln - (intOf i').toNat)
 case atStart => exact ⟨nx, Nat.le_refl _, hnl, rfl, fun j x h1 h2 => by omega, Below.refl _ _⟩
 case round =>
  obtain ⟨k, hk0, hk, rfl, HAr, HBr⟩ := hrel
  obtain ⟨q0, q1, q2, z1⟩ := KC.out _ HBr.out
  by_cases hlt : k < ln
  ·obtain ⟨x, hx⟩ := getElem_lt (show k < c.l.length by have := HLN.out; omega)
   obtain ⟨cx, hxN⟩ := KX.out _ HBr.out k x hx
   obtain ⟨y, HYV⟩ : ∃ y, Hid (y = st.held.getD x 0) := ⟨_, rfl⟩
   have ch := KH.out _ HBr.out x hxN
   rw [← HYV.out] at ch
   have hkI : (k : Int) < (ln : Int) := by omega
   have hkl : (k : Int) < (ln : Int) := by omega
   have hxI : (x : Int) < (N : Int) := by omega
   have e3 : IntKind.i64.wrap ((k : Int) + 1) = (k : Int) + 1 := wrapI _ (by omega) (by omega)
   have KB : Hid ((fun w' => w'.cell? ⟨bb, 3, none⟩ = some (.slice (some ⟨hb, 0, none⟩) N hc') ∧ w'.cell? ⟨cb, i * 4, none⟩ = some (.slice (some ⟨lb, 0, none⟩) ln lcap) ∧ w'.cell? ⟨lb, k, none⟩ = some (.int .i32 (x : Int)) ∧ w'.cell? ⟨hb, x, none⟩ = some (.int .i8 y)) wr) := ⟨q0, q1, cx, ch⟩
   have HPS := hidden (KS.out wr HBr.out k)
   have HXX := hidden hx
   clear hx
   go_upto_region 4 with fail
   refine wp_region_noPanic ?_
   refine wp_region_held_drew (S := (fun w' => w'.cell? ⟨bb, 3, none⟩ = some (.slice (some ⟨hb, 0, none⟩) N hc') ∧ w'.cell? ⟨cb, i * 4, none⟩ = some (.slice (some ⟨lb, 0, none⟩) ln lcap) ∧ w'.cell? ⟨lb, k, none⟩ = some (.int .i32 (x : Int)) ∧ w'.cell? ⟨hb, x, none⟩ = some (.int .i8 y))) (by kernel_rfl) (by first | assumption | exact KB.out) (fun hHeld => ?_)
   refine tk 0 ?_
   refine tk 1 ?_
   refine tk 2 ?_
   refine tk 3 ?_
   refine tk 4 ?_
   refine tk 5 ?_
   refine tk 6 ?_
   refine tk 7 ?_
   refine tk 8 ?_
   refine tk 9 ?_
   refine tk 10 ?_
   refine tk 11 ?_
   refine tk 12 ?_
   refine tk 13 ?_
   refine wpAnyH_done (by kernel_rfl) ?_ _
   refine NoPanic.normal ?_
   by_cases hy : 0 ≤ y
   ·have HP : Hid (FnPost B w bb st sl i c (.returned (.bool true)) (wr.drew.setCell ⟨cb, i * 4 + 1, none⟩ (.int .i64 (k : Int)))) := Or.inl ⟨k, x, by omega, HXX.out, by rw [← HYV.out]; exact hy, rfl, (KS.out _ (Below.drew HBr.out) k).1, (KS.out _ (Below.drew HBr.out) k).2⟩
    clear KB cx ch HPS q0 q1
    go_wp2
    go_ret
    exact HP.out
   ·have HA2 : Hid (∀ j x : Nat, nx ≤ j → j < k + 1 → c.l[j]? = some x → st.held.getD x 0 < 0) := fun j x' h1 h2 h3 => by
     by_cases e : j = k
     ·subst e
      have := HXX.out
      rw [h3] at this
      cases this
      rw [← HYV.out]; omega
     ·exact HAr.out j x' h1 (by omega) h3
    clear KB cx ch HPS q0 q1
    go_wp2
    go_roundw
    case measure => simp [intOf]; omega
    case rel => exact ⟨k + 1, by omega, by omega, by simp, HA2.out, Below.drew HBr.out⟩
  ·have hge : ¬ ((k : Int) < (ln : Int)) := by omega
   have HA1 : Hid (∀ j x : Nat, nx ≤ j → j < ln → c.l[j]? = some x → st.held.getD x 0 < 0) := fun j x h1 h2 h3 => HAr.out j x h1 (by omega) h3
   have HB1 := hidden HBr.out
   clear HAr HBr
   go_wp2_with fail
   clear q0 q1 q2 z1
   go_loopw [6] (fun i' w' => ∃ (k : Nat), 2 ≤ k ∧ k ≤ nx ∧ i' = .int .i64 k ∧ Hid (∀ j x : Nat, 2 ≤ j → j < k → c.l[j]? = some x → st.held.getD x 0 < 0) ∧ Hid (Below w.heap.size w w')) (fun i' _ => nx - (intOf i').toNat)
   case atStart => exact ⟨2, Nat.le_refl _, hn2, rfl, fun j x h1 h2 => by omega, HB1.out⟩
   case round =>
    obtain ⟨k, hk0, hk, rfl, HAr, HBr⟩ := hrel
    obtain ⟨q0, q1, q2, z1⟩ := KC.out _ HBr.out
    by_cases hlt : k < nx
    ·obtain ⟨x, hx⟩ := getElem_lt (show k < c.l.length by have := HLN.out; omega)
     obtain ⟨cx, hxN⟩ := KX.out _ HBr.out k x hx
     obtain ⟨y, HYV⟩ : ∃ y, Hid (y = st.held.getD x 0) := ⟨_, rfl⟩
     have ch := KH.out _ HBr.out x hxN
     rw [← HYV.out] at ch
     have hkI : (k : Int) < (nx : Int) := by omega
     have hkl : (k : Int) < (ln : Int) := by omega
     have hxI : (x : Int) < (N : Int) := by omega
     have e3 : IntKind.i64.wrap ((k : Int) + 1) = (k : Int) + 1 := wrapI _ (by omega) (by omega)
     have KB : Hid ((fun w' => w'.cell? ⟨bb, 3, none⟩ = some (.slice (some ⟨hb, 0, none⟩) N hc') ∧ w'.cell? ⟨cb, i * 4, none⟩ = some (.slice (some ⟨lb, 0, none⟩) ln lcap) ∧ w'.cell? ⟨lb, k, none⟩ = some (.int .i32 (x : Int)) ∧ w'.cell? ⟨hb, x, none⟩ = some (.int .i8 y)) wr) := ⟨q0, q1, cx, ch⟩
     have HPS := hidden (KS.out wr HBr.out k)
     have HXX := hidden hx
     clear hx
     go_upto_region 10 with fail
     refine wp_region_noPanic ?_
     refine wp_region_held_drew (S := (fun w' => w'.cell? ⟨bb, 3, none⟩ = some (.slice (some ⟨hb, 0, none⟩) N hc') ∧ w'.cell? ⟨cb, i * 4, none⟩ = some (.slice (some ⟨lb, 0, none⟩) ln lcap) ∧ w'.cell? ⟨lb, k, none⟩ = some (.int .i32 (x : Int)) ∧ w'.cell? ⟨hb, x, none⟩ = some (.int .i8 y))) (by kernel_rfl) (by first | assumption | exact KB.out) (fun hHeld => ?_)
     refine tk 0 ?_
     refine tk 1 ?_
     refine tk 2 ?_
     refine tk 3 ?_
     refine tk 4 ?_
     refine tk 5 ?_
     refine tk 6 ?_
     refine tk 7 ?_
     refine tk 8 ?_
     refine tk 9 ?_
     refine tk 10 ?_
     refine tk 11 ?_
     refine tk 12 ?_
     refine tk 13 ?_
     refine wpAnyH_done (by kernel_rfl) ?_ _
     refine NoPanic.normal ?_
     by_cases hy : 0 ≤ y
     ·have HP : Hid (FnPost B w bb st sl i c (.returned (.bool true)) (wr.drew.setCell ⟨cb, i * 4 + 1, none⟩ (.int .i64 (k : Int)))) := Or.inl ⟨k, x, by omega, HXX.out, by rw [← HYV.out]; exact hy, rfl, (KS.out _ (Below.drew HBr.out) k).1, (KS.out _ (Below.drew HBr.out) k).2⟩
      clear KB cx ch HPS q0 q1
      go_wp2
      go_ret
      exact HP.out
     ·have HA2 : Hid (∀ j x : Nat, 2 ≤ j → j < k + 1 → c.l[j]? = some x → st.held.getD x 0 < 0) := fun j x' h1 h2 h3 => by
       by_cases e : j = k
       ·subst e
        have := HXX.out
        rw [h3] at this
        cases this
        rw [← HYV.out]; omega
       ·exact HAr.out j x' h1 (by omega) h3
      clear KB cx ch HPS q0 q1
      go_wp2
      go_roundw
      case measure => simp [intOf]; omega
      case rel => exact ⟨k + 1, by omega, by omega, by simp, HA2.out, Below.drew HBr.out⟩
    ·have hge : ¬ ((k : Int) < (nx : Int)) := by omega
     have HP : Hid (FnPost B w bb st sl i c (.returned (.bool false)) wr) := Or.inr ⟨rfl, fun j x h1 h2 => by
       by_cases e : j < nx
       ·exact HAr.out j x h1 (by omega) h2
       ·have := (List.getElem?_eq_some_iff.1 h2).1
        exact HA1.out j x (by omega) (by have := HLN.out; omega) h2, R0.out.rest HBr.out, HBr.out⟩
     clear q0 q1
     go_wp2
     go_ret
     exact HP.out
end Go.Proofs.Ytefjicdhccfieaa
