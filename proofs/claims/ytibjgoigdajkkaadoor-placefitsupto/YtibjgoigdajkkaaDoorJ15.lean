import Derived.Test.YtibjgoigdajkkaaDoorJ14
import Derived.Test.YtibjgoigdajkkaaDoorRows
import Derived.WalkKit
import Derived.Deep.RegionHeld3
import Derived.Below
namespace Go.Proofs.YtibjgoigdajkkaaDoor
open Go.RowKit

/-- the first column behind all that a table takes -/
def earL (col : Nat → Int) (l : List Nat) : Int := l.foldl (fun m j => max m (col j + 1)) 0
theorem earL_snoc (col : Nat → Int) (l : List Nat) (j : Nat) : earL col (l ++ [j]) = max (earL col l) (col j + 1) := by unfold earL; rw [List.foldl_append]; rfl
theorem ear_fold (col : Nat → Int) (l : List Nat) (m b : Int) (hb : ∀ j, j ∈ l → col j + 1 ≤ b) (hm : m ≤ b) : m ≤ l.foldl (fun m j => max m (col j + 1)) m ∧ l.foldl (fun m j => max m (col j + 1)) m ≤ b ∧ ∀ j, j ∈ l → col j + 1 ≤ l.foldl (fun m j => max m (col j + 1)) m := by
  induction l generalizing m with
  | nil => exact ⟨Int.le_refl _, hm, fun j hj => by cases hj⟩
  | cons x r ih =>
    rw [List.foldl_cons]
    have hx := hb x List.mem_cons_self
    obtain ⟨h1, h2, h3⟩ := ih (max m (col x + 1)) (fun j hj => hb j (List.mem_cons_of_mem _ hj)) (by omega)
    refine ⟨by omega, h2, fun j hj => ?_⟩
    rcases List.mem_cons.1 hj with rfl | hj
    · omega
    · exact h3 j hj
theorem earL_spec (col : Nat → Int) (l : List Nat) (b : Int) (hb : ∀ j, j ∈ l → col j + 1 ≤ b) (h0 : 0 ≤ b) : 0 ≤ earL col l ∧ earL col l ≤ b ∧ ∀ j, j ∈ l → col j + 1 ≤ earL col l := ear_fold col l 0 b hb h0
set_option maxRecDepth 100000 in
set_option maxHeartbeats 8000000 in
theorem earliest_any (D : PnS) (T : PnT) (w : World) (h : PlAt D w T) (i : Nat) (hi : i < D.n) :
    Calls Tryd.prog 61 #[.pointer (some ⟨D.pb, 0, none⟩), .int .i64 i] w fun e w' => e = .returned (.int .i64 (earL T.col (D.ins i))) ∧ w' = w := by
  have c6 := h.bs.c6
  rw [h.bs.ia (by omega)] at c6
  have c1 := h.i1 hi
  have hiI : (i : Int) < (D.n : Int) := by omega
  have HC : Hid (∀ x, x ∈ D.ins i → x < D.n ∧ (-1 ≤ T.col x ∧ T.col x ≤ 100) ∧ w.cell? ⟨D.ib, x * 5 + 3, none⟩ = some (.int .i64 (T.col x))) := fun x hx => by
    have hlt := h.bs.insn i hi x hx
    have hc := h.col x (by omega)
    have := h.bs.cc
    exact ⟨by omega, by omega, h.i3 (by omega)⟩
  have HI := hidden (h.bs.ins i hi)
  have hl4 := h.bs.insl i hi
  have hns := h.bs.nn
  generalize D.pb = pb at *
  generalize D.ib = ib at *
  generalize D.n = n at *
  generalize D.a i = la at *
  generalize D.c i = lc at *
  generalize D.ins i = l at *
  generalize T.col = col at *
  have HB : Hid (∀ k, 0 ≤ earL col (l.take k) ∧ earL col (l.take k) ≤ 101) := fun k => by
    have := earL_spec col (l.take k) 101 (fun j hj => by have := (HC.out j (List.mem_of_mem_take hj)).2.1; omega) (by omega)
    exact ⟨this.1, this.2.1⟩
  obtain ⟨r, HR⟩ : ∃ r, Hid (earL col l = r) := ⟨_, rfl⟩
  rw [HR.out]
  obtain ⟨ln, HL⟩ : ∃ x, Hid (x = l.length) := ⟨_, rfl⟩
  rw [← HL.out] at c1 hl4
  clear h hi
  go_enter Tryd.func61, Tryd.ntmps61
  go_wp2_with fail
  go_loopw [5, 17] (fun m' i' w' => ∃ (k : Nat) (m : Int), k ≤ ln ∧ i' = .int .i64 k ∧ m' = .int .i64 m ∧ Hid (m = earL col (l.take k)) ∧ Hid (w' = w)) (fun _ i' _ => ln - (intOf i').toNat)
  case atStart => exact ⟨0, 0, Nat.zero_le _, rfl, rfl, rfl, rfl⟩
  case round =>
    obtain ⟨k, m, hk, rfl, rfl, HM, HW⟩ := hrel
    obtain rfl := HW.out
    by_cases hlt : k < ln
    · have hltI : (k : Int) < (ln : Int) := by omega
      obtain ⟨x, hx⟩ := getElem_lt (show k < l.length by rw [← HL.out]; exact hlt)
      obtain ⟨b, o, ea, -, -, -, cx⟩ := HI.out k x hx
      obtain ⟨hxn, hxc, cc⟩ := HC.out x (List.mem_of_getElem? hx)
      have hxI : (x : Int) < (n : Int) := by omega
      have HNX : Hid (max m (col x + 1) = earL col (l.take (k + 1))) := by
        show _ = _
        rw [take_next _ k _ hx, earL_snoc, HM.out]
      have e1 : IntKind.i64.wrap (col x + 1) = col x + 1 := wrapI _ (by omega) (by omega)
      have e2 : IntKind.i64.wrap ((k : Int) + 1) = (k : Int) + 1 := wrapI _ (by omega) (by omega)
      subst ea
      generalize col x = cx at *
      clear hx HM HW
      go_wp2
      go_roundw
      case measure => simp [intOf]; omega
      case rel => exact ⟨k + 1, _, by omega, by simp, rfl, HNX.out, True.intro⟩
    · have hge : ¬ ((k : Int) < (ln : Int)) := by omega
      have HF : Hid (m = r) := by
        have := HM.out
        rw [List.take_of_length_le (by have := HL.out; omega), HR.out] at this
        exact this
      clear HM HW
      go_wp2
      go_ret
      exact ⟨ret_int HF.out, rfl⟩
set_option maxRecDepth 100000 in
set_option maxHeartbeats 8000000 in
theorem unheld_any (w : World) (la : Option Addr) (lc : Nat) (l : List Int) (c : Int) (hl : l.length ≤ 4) (hr : ∀ k x, l[k]? = some x → ∃ b o, la = some ⟨b, o, none⟩ ∧ w.cell? ⟨b, o + k, none⟩ = some (.int .i64 x)) :
    Calls Tryd.prog 74 #[.slice la l.length lc, .int .i64 c] w fun e w' => ∃ m : Nat, m ≤ 4 ∧ e = .returned (.int .i64 m) ∧ w' = w := by
  have HI := hidden hr
  obtain ⟨ln, HL⟩ : ∃ x, Hid (x = l.length) := ⟨_, rfl⟩
  rw [← HL.out] at hl
  rw [← HL.out]
  clear hr
  go_enter Tryd.func74, Tryd.ntmps74
  go_wp2_with fail
  go_loopw [5, 10] (fun m' i' w' => ∃ (k m : Nat), k ≤ ln ∧ m ≤ k ∧ i' = .int .i64 k ∧ m' = .int .i64 m ∧ Hid (w' = w)) (fun _ i' _ => ln - (intOf i').toNat)
  case atStart => exact ⟨0, 0, Nat.zero_le _, Nat.zero_le _, rfl, rfl, rfl⟩
  case round =>
    obtain ⟨k, m, hk, hm, rfl, rfl, HW⟩ := hrel
    obtain rfl := HW.out
    have e2 : IntKind.i64.wrap ((k : Int) + 1) = (k : Int) + 1 := wrapI _ (by omega) (by omega)
    have e3 : IntKind.i64.wrap ((m : Int) + 1) = (m : Int) + 1 := wrapI _ (by omega) (by omega)
    by_cases hlt : k < ln
    · have hltI : (k : Int) < (ln : Int) := by omega
      obtain ⟨x, hx⟩ := getElem_lt (show k < l.length by rw [← HL.out]; exact hlt)
      obtain ⟨b, o, ea, cx⟩ := HI.out k x hx
      subst ea
      clear hx HW
      by_cases hle : x ≤ c
      · go_wp2
        go_roundw
        case measure => simp [intOf]; omega
        case rel => exact ⟨k + 1, m + 1, by omega, by omega, by simp, by simp, True.intro⟩
      · go_wp2
        go_roundw
        case measure => simp [intOf]; omega
        case rel => exact ⟨k + 1, m, by omega, by omega, by simp, by simp, True.intro⟩
    · have hge : ¬ ((k : Int) < (ln : Int)) := by omega
      clear HW
      go_wp2
      go_ret
      exact ⟨m, by omega, rfl, rfl⟩


end Go.Proofs.YtibjgoigdajkkaaDoor

namespace Go.Proofs.YtibjgoigdajkkaaDoor
open Go.RowKit
theorem gA {α : Type} {xs : List α} {i : Nat} (h : i < xs.toArray.size) : xs.toArray[i] = xs[i]'(by simpa using h) := List.getElem_toArray h
theorem gB {α : Type} {a : α} {l : List α} (h : 0 < (a :: l).length) : (a :: l)[0] = a := rfl
theorem gC {α : Type} {a : α} {l : List α} {i : Nat} (h : i + 1 < (a :: l).length) : (a :: l)[i + 1] = l[i]'(Nat.lt_of_succ_lt_succ h) := rfl
theorem sA {α : Type} {xs : List α} {i : Nat} {a : α} : xs.toArray.setIfInBounds i a = (xs.set i a).toArray := List.setIfInBounds_toArray xs i a
theorem sB {α : Type} {x : α} {xs : List α} {a : α} : (x :: xs).set 0 a = a :: xs := rfl
theorem sC {α : Type} {x : α} {xs : List α} {i : Nat} {a : α} : (x :: xs).set (i + 1) a = x :: xs.set i a := rfl
/-- an operation is taken: all that is usual is filled in -/
theorem tk {P : Program} {ops : Array Oper} {Q : Exit → Act → World → Prop} {md : Region.Mode} {S : World → Prop} (i : Nat) {oi : Oper} {v : Value} {fuel : Nat} {listed : Array Bool} {a a' : Act} {w : World} (h : wpAnyH P md ops Q S fuel (listed.setIfInBounds i true) a' w) (hi : ops[i]? = some oi := by rfl)
    (hs : Region.noSelect ops = true := by kernel_rfl) (hf : Region.free md ops listed i = true := by kernel_rfl) (hr : (Region.ready md ops listed).contains i = true := by kernel_rfl)
    (hQ : ∀ c a w, Q (.panic c) (a.put oi.dst v) w → Q (.panic c) a w := by exact fun _ _ _ h => h) (hw : Region.wanted oi (yielded ops a.tmps) = true := by rfl)
    (hv : ∀ w, S w → (execOp a.eval oi).run P w = .ok (.value v) w := by (intro w0 hSw; (try dsimp only at hSw); (try simp only [gA, gB, gC]); go_simp; try (with_reducible rfl))) (hS : S w := by assumption)
    (ha : a.put oi.dst v = a' := by ((try simp only [Act.put, gA, gB, gC, sA, sB, sC]); rfl)) : wpAnyH P md ops Q S (fuel + 1) listed a w := by
  subst ha
  exact wpAnyH_take hi hs hf hr hQ (Or.inl ⟨hw, hv⟩) hS h
/-- one that is not wanted -/
theorem tu {P : Program} {ops : Array Oper} {Q : Exit → Act → World → Prop} {md : Region.Mode} {S : World → Prop} (i : Nat) {oi : Oper} {fuel : Nat} {listed : Array Bool} {a a' : Act} {w : World} (h : wpAnyH P md ops Q S fuel (listed.setIfInBounds i true) a' w) (hi : ops[i]? = some oi := by rfl)
    (hs : Region.noSelect ops = true := by kernel_rfl) (hf : Region.free md ops listed i = true := by kernel_rfl) (hr : (Region.ready md ops listed).contains i = true := by kernel_rfl)
    (hQ : ∀ c a w, Q (.panic c) (a.put oi.dst undef) w → Q (.panic c) a w := by exact fun _ _ _ h => h) (hw : Region.wanted oi (yielded ops a.tmps) = false := by rfl) (hS : S w := by assumption)
    (ha : a.put oi.dst undef = a' := by ((try simp only [Act.put, gA, gB, gC, sA, sB, sC]); rfl)) : wpAnyH P md ops Q S (fuel + 1) listed a w := by
  subst ha
  exact wpAnyH_take hi hs hf hr hQ (Or.inr ⟨hw, rfl⟩) hS h
theorem rd {P : Program} {ops : Array Oper} {Q : Exit → Act → World → Prop} {md : Region.Mode} {S : World → Prop} (i : Nat) {o : Oper} {fuel : Nat} {listed : Array Bool} {a : Act} {w : World}
    (h : ∀ K' : Act → World → Prop, Shut (∀ a w, S w → (S w → wpAnyH P md ops Q S fuel (listed.setIfInBounds i true) a w) → K' a w) → if Region.wanted o (yielded ops a.tmps) = true then Oper.wp P o a w K' Q else K' (a.put o.dst undef) w) (hr : Region.ready md ops listed = [i] := by kernel_rfl) (ho : ops[i]? = some o := by rfl) : wpAnyH P md ops Q S (fuel + 1) listed a w :=
  wpAnyH_ready hr (by simp) (AllReadyH.cons ho h AllReadyH.nil)
theorem wo {P : Program} {ops : Array Oper} {Q : Exit → Act → World → Prop} {md : Region.Mode} {S : World → Prop} {fuel : Nat} {listed : Array Bool} {K' : Act → World → Prop} {a a' : Act} {w : World} (W : Shut (∀ a w, S w → (S w → wpAnyH P md ops Q S fuel listed a w) → K' a w)) (hS : S w) (h : S w → wpAnyH P md ops Q S fuel listed a' w) (ha : a = a' := by ((try simp only [Act.put, sA, sB, sC]); rfl)) : K' a w := by
  subst ha
  exact W.out _ _ hS h

end Go.Proofs.YtibjgoigdajkkaaDoor
