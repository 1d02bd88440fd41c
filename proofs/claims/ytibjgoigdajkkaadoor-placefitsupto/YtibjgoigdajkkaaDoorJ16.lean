import Derived.Test.YtibjgoigdajkkaaDoorJ10
import Derived.Test.YtibjgoigdajkkaaDoorJ15
import Derived.Laws.CopyOwn
import Derived.Lib.SliceRun
namespace Go.Proofs.YtibjgoigdajkkaaDoor
open Go.RowKit

theorem grown_drew (a : World) (row : Option Nat) : a.grownBy a.drew row := ⟨rfl, rfl, rfl, Nat.le_refl _, fun _ _ _ => rfl⟩
theorem grown_drewN {a b : World} {row : Option Nat} (h : a.grownBy b row) (n : Nat) : a.grownBy (b.drewN n) row := ⟨h.os, h.tape, h.output, h.size, h.block⟩
theorem grown_setCell (w : World) (g j : Nat) (u : Value) : w.grownBy (w.setCell ⟨g, j, none⟩ u) (some g) :=
  ⟨rfl, rfl, rfl, by simp, fun k _ hk => heap_setCell_other w ⟨g, j, none⟩ k u (fun e => hk (by simp [e]))⟩
theorem BoxAt.grown {w w' : World} {p g : Nat} {S : NtS} {N : NtD} (h : BoxAt w p S N) (hg : w.grownBy w' (some g)) (hne : p ≠ g) : BoxAt w' p S N :=
  ⟨Nat.lt_of_lt_of_le h.lt hg.size, hg.cell h.c0 (by intro e; cases e; exact hne rfl), hg.cell h.c1 (by intro e; cases e; exact hne rfl), hg.cell h.c2 (by intro e; cases e; exact hne rfl), hg.cell h.c3 (by intro e; cases e; exact hne rfl), hg.cell h.c4 (by intro e; cases e; exact hne rfl)⟩
set_option maxRecDepth 100000 in
set_option maxHeartbeats 8000000 in
theorem deepOne_any (B : Nat) (w : World) (pd g nn : Nat) (D : List Int) (la : Option Addr) (lc : Nat) (l : List Int) (cp : w.cell? ⟨pd, 0, none⟩ = some (.slice (some ⟨g, 0, none⟩) nn nn)) (R : RowAt B w la 1 (l.map intC)) (hC : ∀ s, s ∈ l → 0 ≤ s ∧ s < (nn : Int) ∧ w.cell? ⟨g, s.toNat, none⟩ = some (.int .i64 (D.getD s.toNat 0))) (hl : l.length ≤ 17592186044416) :
    Calls Tryd.prog 67 #[.slice la l.length lc, .pointer (some ⟨pd, 0, none⟩)] w fun e w' => e = .returned (.int .i64 (maxD D l)) ∧ w' = w := by
  have HR := hidden R
  have HC := hidden hC
  have HCP := hidden cp
  obtain ⟨r, HRR⟩ : ∃ r, Hid (r = maxD D l) := ⟨_, rfl⟩
  rw [← HRR.out]
  obtain ⟨ln, HLN⟩ : ∃ n, Hid (n = l.length) := ⟨_, rfl⟩
  rw [← HLN.out] at hl
  rw [← HLN.out]
  clear R hC cp
  go_enter Tryd.func67, Tryd.ntmps67
  go_wp2_with fail
  go_loopw [4, 9] (fun m' i' w' => ∃ (k : Nat) (m : Int), k ≤ ln ∧ i' = .int .i64 k ∧ m' = .int .i64 m ∧ Hid (m = maxD D (l.take k)) ∧ Hid (w' = w)) (fun _ i' _ => ln - (intOf i').toNat)
  case atStart => exact ⟨0, 0, Nat.zero_le _, rfl, rfl, rfl, rfl⟩
  case round =>
    obtain ⟨k, m, hk, rfl, rfl, HMX, HW⟩ := hrel
    have cp : wr.cell? ⟨pd, 0, none⟩ = some (.slice (some ⟨g, 0, none⟩) nn nn) := by rw [HW.out]; exact HCP.out
    by_cases hlt : k < ln
    · have hltI : (k : Int) < (ln : Int) := by omega
      obtain ⟨s, hs⟩ := getElem_lt (show k < l.length by rw [← HLN.out]; exact hlt)
      obtain ⟨b, o, ea, hlb, hc⟩ := HR.out.int hs
      have c0 : wr.cell? ⟨b, o + k, none⟩ = some (.int .i64 s) := by rw [HW.out]; exact hc
      obtain ⟨hs0, hs1, hcd⟩ := HC.out s (List.mem_of_getElem? hs)
      have cd : wr.cell? ⟨g, s.toNat, none⟩ = some (.int .i64 (D.getD s.toNat 0)) := by rw [HW.out]; exact hcd
      have HNX : Hid (maxD D (l.take (k + 1)) = mostI m (D.getD s.toNat 0)) := by
        show _ = _
        rw [take_next _ k _ hs, maxD_snoc, HMX.out]
      have e2 : IntKind.i64.wrap ((k : Int) + 1) = (k : Int) + 1 := wrapI _ (by omega) (by omega)
      subst ea
      generalize D.getD s.toNat 0 = ds at *
      clear hs hc hcd hlb HMX
      unfold mostI at HNX
      by_cases hgt : ds > m
      · rw [if_pos hgt] at HNX
        have hgt' : m < ds := hgt
        go_wp2
        go_roundw
        case measure => simp [intOf]; omega
        case rel => exact ⟨k + 1, ds, by omega, by simp, rfl, HNX.out.symm, HW.out⟩
      · rw [if_neg hgt] at HNX
        have hgt' : ¬ m < ds := hgt
        go_wp2
        go_roundw
        case measure => simp [intOf]; omega
        case rel => exact ⟨k + 1, m, by omega, by simp, rfl, HNX.out.symm, HW.out⟩
    · have hge : ¬ ((k : Int) < (ln : Int)) := by omega
      have HF : Hid (m = r) := by
        have := HMX.out
        rw [List.take_of_length_le (by have := HLN.out; omega)] at this
        show _ = _
        rw [this, HRR.out]
      clear HMX
      go_wp2
      go_ret
      exact ⟨ret_int HF.out, HW.out⟩


end Go.Proofs.YtibjgoigdajkkaaDoor

namespace Go.Proofs.YtibjgoigdajkkaaDoor
open Go.RowKit

theorem setCells_row {t : TypeId} (g : Nat) : ∀ (vs cur : List Value) (o : Nat) (w : World), w.heap[g]? = some (.cells cur.toArray t (0, 0)) → o + vs.length ≤ cur.length →
    (w.setCells g o vs).heap[g]? = some (.cells (splice cur o vs).toArray t (0, 0)) ∧ w.grownBy (w.setCells g o vs) (some g)
  | [], cur, o, w, hg, _ => by
    refine ⟨?_, grown_refl _ _⟩
    show w.heap[g]? = _
    rw [hg]; simp [splice]
  | v :: r, cur, o, w, hg, hl => by
    have hl' : o + r.length + 1 ≤ cur.length := by simpa [Nat.add_assoc] using hl
    have h1 : (w.setCell ⟨g, o, none⟩ v).heap[g]? = some (.cells (cur.set o v).toArray t (0, 0)) := by
      rw [heap_setCell_same w g o _ t v hg]; simp
    obtain ⟨h2, h3⟩ := setCells_row g r (cur.set o v) (o + 1) _ h1 (by simp; omega)
    refine ⟨?_, grown_trans (grown_setCell w g o v) h3⟩
    show ((w.setCell ⟨g, o, none⟩ v).setCells g (o + 1) r).heap[g]? = _
    rw [h2]
    have e1 : (cur.set o v).take (o + 1) = cur.take o ++ [v] := by
      rw [take_next _ o v (by simp [List.getElem?_set]; omega), List.take_set_of_le (Nat.le_refl _)]
    have e2 : (cur.set o v).drop (o + 1 + r.length) = cur.drop (o + (r.length + 1)) := by
      rw [List.drop_set_of_lt (by omega)]; congr 1; omega
    unfold splice
    rw [e1, e2]
    simp
theorem run_clear_grown {P : Program} {w : World} (t e ty : TypeId) (i : TypeInfo) (z : Value) (ht : P.underlying t = some (.slice e)) (hi : P.info? e = some i) (hzi : i.zero = some z) (hz : z.cells = #[z]) (h1 : z.oneCell' = true)
    (dp : Option Addr) (n c : Nat) (g off : Nat) (cur : List Value) (T : TypeId) (hg : w.heap[g]? = some (.cells cur.toArray T (0, 0))) (hpos : 0 < n → dp = some ⟨g, off, none⟩) (hfit : off + n ≤ cur.length) :
    ∃ w', (Builtin.clear_ #[t] ty #[.slice dp n c]).run P w = .ok (.tuple #[]) w' ∧ w'.heap[g]? = some (.cells (splice cur off (List.replicate n z)).toArray T (0, 0)) ∧ w.grownBy w' (some g) := by
  by_cases h0 : n = 0
  · subst h0
    refine ⟨w, ?_, by simpa [splice] using hg, grown_refl _ _⟩
    cases dp <;> simp [Builtin.clear_, run_underlying ht]
  · have hp := hpos (by omega)
    subst hp
    have hv : ∀ w, (zeroValue e).run P w = .ok z w := by
      intro w; simp [zeroValue, typeInfo, hi, hzi]
    have hr := Lib.run_clear_slice (P := P) w t e ty z ht hv hz h1 g off n c (by omega)
      (by
        intro j hj
        rw [cell_of_row w g (off + j) _ _ _ hg]
        have : off + j < cur.length := by omega
        simp [this])
      (by
        intro j _
        exact frozen_of_row w g (off + j) _ _ hg)
    obtain ⟨h2, h3⟩ := setCells_row g (List.replicate n z) cur off w hg (by simpa using hfit)
    exact ⟨_, hr, h2, h3⟩
/-- the greatest of the first k + 1 -/
def mxL (ld : Nat → Int) : Nat → Int
  | 0 => ld 0
  | k + 1 => max (mxL ld k) (ld (k + 1))
theorem mxL_le (ld : Nat → Int) (k : Nat) (m : Int) : mxL ld k ≤ m ↔ ∀ c, c ≤ k → ld c ≤ m := by
  induction k with
  | zero => exact ⟨fun h c hc => by obtain rfl : c = 0 := by omega
                                    exact h, fun h => h 0 (Nat.le_refl _)⟩
  | succ k ih =>
    unfold mxL
    constructor
    · intro h c hc
      by_cases e : c = k + 1
      · subst e; omega
      · exact ih.1 (by omega) c (by omega)
    · intro h
      have := ih.2 (fun c hc => h c (by omega))
      have := h (k + 1) (Nat.le_refl _)
      omega
set_option maxRecDepth 100000 in
set_option maxHeartbeats 8000000 in
theorem max_any (w : World) (lb m : Nat) (hm : m < 1000) (ld : Nat → Int) (hc : ∀ c, c < m + 1 → w.cell? ⟨lb, c, none⟩ = some (.int .i64 (ld c))) :
    Calls Tryd.prog 71 #[.slice (some ⟨lb, 0, none⟩) (m + 1) (m + 1)] w fun e w' => e = .returned (.int .i64 (mxL ld m)) ∧ w' = w := by
  have HC := hidden hc
  have c0 := hc 0 (by omega)
  clear hc
  obtain ⟨r, HR⟩ : ∃ r, Hid (mxL ld m = r) := ⟨_, rfl⟩
  rw [HR.out]
  have h1 : ¬ (m : Int) + 1 < 1 := by omega
  have h2 : (0 : Int) < (m : Int) + 1 := by omega
  go_enter Tryd.func71, Tryd.ntmps71
  go_wp2_with fail
  go_loopw [3, 4] (fun m' i' w' => ∃ (k : Nat) (x : Int), k ≤ m ∧ i' = .int .i64 ((k : Int) + 1) ∧ m' = .int .i64 x ∧ Hid (x = mxL ld k) ∧ Hid (w' = w)) (fun _ i' _ => m + 1 - (intOf i').toNat)
  case atStart => exact ⟨0, ld 0, Nat.zero_le _, rfl, rfl, rfl, rfl⟩
  case round =>
    obtain ⟨k, x, hk, rfl, rfl, HX, HW⟩ := hrel
    obtain rfl := HW.out
    clear HW
    by_cases hlt : k < m
    · have hltI : (k : Int) + 1 < (m : Int) + 1 := by omega
      have cx := HC.out (k + 1) (by omega)
      have e2 : IntKind.i64.wrap ((k : Int) + 1 + 1) = (k : Int) + 1 + 1 := wrapI _ (by omega) (by omega)
      have HN : Hid (max x (ld (k + 1)) = mxL ld (k + 1)) := by show _ = max (mxL ld k) _; rw [HX.out]
      generalize ld (k + 1) = y at *
      clear HX
      go_wp2
      go_roundw
      case measure => simp [intOf]; omega
      case rel => exact ⟨k + 1, _, by omega, by simp, rfl, HN.out, True.intro⟩
    · obtain rfl : k = m := by omega
      have hnI : ¬ (k : Int) + 1 < (k : Int) + 1 := by omega
      have HF : Hid (x = r) := HX.out.trans HR.out
      clear HX
      go_wp2
      go_ret
      exact ⟨ret_int HF.out, rfl⟩
def spreadB (D : PnS) (T : PnT) : Bool := decide (mxL T.ld (D.cc - 1) ≤ D.sh.rows)
theorem spreadB_true (D : PnS) (T : PnT) (hc : 1 ≤ D.cc) : spreadB D T = true ↔ ∀ c, c < D.cc → T.ld c ≤ D.sh.rows := by
  unfold spreadB
  rw [decide_eq_true_iff, mxL_le]
  exact ⟨fun h c hc => h c (by omega), fun h c hc => h c (by omega)⟩
set_option maxRecDepth 100000 in
set_option maxHeartbeats 8000000 in
theorem isSpread_any (D : PnS) (T : PnT) (w : World) (h : PlAt D w T) :
    Calls Tryd.prog 59 #[.pointer (some ⟨D.pb, 0, none⟩)] w fun e w' => e = .returned (.bool (spreadB D T)) ∧ ∃ n, w' = w.drewN n := by
  have c8 := h.bs.c8
  have c4 := h.bs.c4
  obtain ⟨m, hm⟩ : ∃ m, D.cc = m + 1 := ⟨D.cc - 1, by have := h.bs.cc; omega⟩
  have hm2 : m < 1000 := by have := h.bs.cc; omega
  have MX : Hid (∀ n, Calls Tryd.prog 71 #[.slice (some ⟨D.lb, 0, none⟩) (m + 1) (m + 1)] (w.drewN n) fun e w' => e = .returned (.int .i64 (mxL T.ld m)) ∧ ∃ k, w' = (w.drewN n).drewN k) := fun n =>
    (max_any (w.drewN n) D.lb m hm2 T.ld (fun c hc => (h.heap (w' := w.drewN n) rfl).ldc (by omega))).mono (by
      rintro e w' ⟨rfl, rfl⟩
      exact ⟨rfl, 0, rfl⟩)
  unfold spreadB
  rw [hm] at c8
  rw [hm, show m + 1 - 1 = m by omega]
  generalize D.pb = pb at *
  generalize D.lb = lb at *
  generalize D.sh.rows = rows at *
  generalize mxL T.ld m = x at *
  clear h
  go_enter Tryd.func59, Tryd.ntmps59
  go_wp2
  go_quiet ((go_at_call 71; exact Calls.quiet_of (MX.out _)))
  go_wp2
  go_ret
  exact ⟨rfl, _, rfl⟩


end Go.Proofs.YtibjgoigdajkkaaDoor
