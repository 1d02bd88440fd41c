import Derived.Test.YtdiahnommkhkiaaDoorApY
namespace Go.Proofs.YtdiahnommkhkiaaDoor
open Go.RowKit

def iV (x : Int) : Value := .int .i64 x
/-- the numbers of a line -/
def nums (T : List UInt8) (n : Nat) : Option (List Int) := match (linesOf T)[n]? with | some a => if (pcs 32 a).all numOk then some ((pcs 32 a).map numV) else none | none => none
theorem nums_bound {T : List UInt8} {n : Nat} {xs : List Int} (h : nums T n = some xs) : ∀ x, x ∈ xs → 0 ≤ x ∧ x < 1000000000 := by
  unfold nums at h
  cases hL : (linesOf T)[n]? with
  | none => rw [hL] at h; cases h
  | some a =>
    rw [hL] at h
    simp only at h
    split at h
    · rename_i hall
      cases h
      intro x hx
      obtain ⟨p, hp, rfl⟩ := List.mem_map.1 hx
      have hok := List.all_eq_true.1 hall p hp
      unfold numOk at hok
      simp only [Bool.and_eq_true, decide_eq_true_eq] at hok
      have := numV_take p p.length (by rw [List.take_length]; exact hok.2) (Nat.le_refl _)
      rw [List.take_length] at this
      have hp9 : (10 : Int) ^ p.length ≤ 10 ^ 9 := by
        have : (10 : Nat) ^ p.length ≤ 10 ^ 9 := Nat.pow_le_pow_right (by decide) hok.1.1.2
        exact_mod_cast this
      omega
    · cases h
theorem nums_of {T : List UInt8} {n least most : Nat} {ps : List (List UInt8)} (h : NumsAt T n least most ps) : nums T n = some (ps.map numV) ∧ least ≤ (ps.map numV).length ∧ (ps.map numV).length ≤ most := by
  obtain ⟨a, hL, rfl, h1, h2, h3⟩ := h
  unfold nums
  rw [hL]
  refine ⟨by simp [h3], by simpa using h1, by simpa using h2⟩
theorem nums_at {T : List UInt8} {n least most : Nat} {xs : List Int} (h : nums T n = some xs) (h1 : least ≤ xs.length) (h2 : xs.length ≤ most) : ∃ ps, NumsAt T n least most ps := by
  unfold nums at h
  cases hL : (linesOf T)[n]? with
  | none => rw [hL] at h; cases h
  | some a =>
    rw [hL] at h
    simp only at h
    split at h
    · rename_i hall
      cases h
      exact ⟨pcs 32 a, a, hL, rfl, by simpa using h1, by simpa using h2, hall⟩
    · cases h
/-- no line of so many numbers -/
def NoNums (T : List UInt8) (n least most : Nat) : Prop := ∀ xs, nums T n = some xs → ¬ (least ≤ xs.length ∧ xs.length ≤ most)
theorem numberLine_nums (r : Nat) (T : List UInt8) (n least most : Nat) (h : Int × Int × Int × Int × Int) (w : World) (x : TxAt w r T n h) (hv : Vars w) (hm : most ≤ 100) (hr2 : 2 ≤ r) :
    Calls Tryd.prog 57 #[.pointer (some ⟨r, 0, none⟩), .int .i64 least, .int .i64 most] w fun e w' =>
      (∃ xs, nums T n = some xs ∧ least ≤ xs.length ∧ xs.length ≤ most ∧ ∃ v, e = .returned v ∧ w'.ownsRow w.heap.size 3 1 v xs.length (xs.map iV) ∧ RdAt w' r ⟨0, h.1, h.2.1, h.2.2.1, h.2.2.2.1, h.2.2.2.2, T, (offs (linesOf T) (n + 1) : Nat), ((n + 1 : Nat) : Int), ((n + 1 : Nat) : Int)⟩ ∧ n + 1 ≤ (linesOf T).length ∧ w.grownBy w' (some r)) ∨ (NoNums T n least most ∧ Thr w r ((n + 1 : Nat) : Int) e w') := by
  refine (numberLine_text r T n least most h w x hv hm hr2).mono ?_
  rintro e w' (⟨ps, q1, v, q2, q3, q4, q5, q6⟩ | ⟨q1, q2⟩)
  · obtain ⟨a1, a2, a3⟩ := nums_of q1
    refine Or.inl ⟨ps.map numV, a1, a2, a3, v, q2, ?_, q4, q5, q6⟩
    rw [List.map_map, List.length_map]
    exact q3
  · exact Or.inr ⟨fun xs hx hh => q1 (nums_at hx hh.1 hh.2), q2⟩
/-- the elements of a row that was made -/
theorem row_els {w : World} {C n : Nat} {v : Value} {xs : List Int} (h : w.ownsRow C 3 1 v n (xs.map iV)) (hn : 0 < xs.length) : ∃ b c, v = .slice (some ⟨b, 0, none⟩) n c ∧ C ≤ b ∧ b < w.heap.size ∧ n ≤ c ∧ ∀ (i : Nat) (x : Int), xs[i]? = some x → w.cell? ⟨b, i, none⟩ = some (.int .i64 x) := by
  have hl := h.1
  rcases h.2 with ⟨_, h0⟩ | ⟨g, cap, cur, hv, h1, h2, h3, h4, h5, h6⟩
  · simp at hl; omega
  · refine ⟨g, cap, hv, h1, ?_, h3, fun i x hx => ?_⟩
    · rcases Nat.lt_or_ge g w.heap.size with h' | h'
      · exact h'
      · simp [Array.getElem?_eq_none h'] at h2
    · rw [heap_cell h2]
      have hil := (List.getElem?_eq_some_iff.1 hx).1
      have e : (cur.toList.take (n * 1))[i]? = some (.int .i64 x) := by rw [h6]; simp [hx, iV]
      rw [← Array.getElem?_toList]
      rw [List.getElem?_take] at e
      split at e
      · exact e
      · cases e

/-- an input's line -/
def InOk (T : List UInt8) (n i : Nat) : Prop := nums T n = some [2 * (1 + (i : Int))]
set_option maxRecDepth 100000 in
set_option maxHeartbeats 4000000 in
theorem readInputs_any (r : Nat) (T : List UInt8) (n0 ni : Nat) (h : Int × Int × Int × Int × Int) (w : World) (x : TxAt w r T n0 h) (hv : Vars w) (hr2 : 2 ≤ r) (hni : h.2.1 = (ni : Int)) (hnl : ni ≤ 60000) :
    Calls Tryd.prog 40 #[.pointer (some ⟨r, 0, none⟩)] w fun e w' =>
      ((∀ i, i < ni → InOk T (n0 + i) i) ∧ e = .returned (.tuple #[]) ∧ TxAt w' r T (n0 + ni) h ∧ w.grownBy w' (some r)) ∨ (∃ i, i < ni ∧ (∀ j, j < i → InOk T (n0 + j) j) ∧ ¬ InOk T (n0 + i) i ∧ Thr w r ((n0 + i + 1 : Nat) : Int) e w') := by
  have hlt : r < w.heap.size := by obtain ⟨⟨bg, h1⟩, _⟩ := x; exact h1.lt
  have c2 : w.cell? ⟨r, 2, none⟩ = some (.int .i64 ni) := by obtain ⟨⟨bg, h1⟩, _⟩ := x; rw [h1.cell 2, ← hni]; rfl
  have HX := hidden x
  have HV := hidden hv
  have H2 : Hid (2 ≤ w.heap.size) := by show _ ≤ _; omega
  have NL : Hid (∀ (n : Nat) w', TxAt w' r T n h → w.grownBy w' (some r) → Calls Tryd.prog 57 #[.pointer (some ⟨r, 0, none⟩), .int .i64 1, .int .i64 1] w' fun e w'' =>
      (∃ xs, nums T n = some xs ∧ 1 ≤ xs.length ∧ xs.length ≤ 1 ∧ ∃ v, e = .returned v ∧ w''.ownsRow w'.heap.size 3 1 v xs.length (xs.map iV) ∧ RdAt w'' r ⟨0, h.1, h.2.1, h.2.2.1, h.2.2.2.1, h.2.2.2.2, T, (offs (linesOf T) (n + 1) : Nat), ((n + 1 : Nat) : Int), ((n + 1 : Nat) : Int)⟩ ∧ n + 1 ≤ (linesOf T).length ∧ w'.grownBy w'' (some r)) ∨ (NoNums T n 1 1 ∧ Thr w' r ((n + 1 : Nat) : Int) e w'')) := fun n w' hx hg => numberLine_nums r T n 1 1 h w' hx (HV.out.grown hg hr2 H2.out) (by decide) hr2
  clear x hv hni
  go_enter Tryd.func40, Tryd.ntmps40
  go_wp2_with fail
  clear c2
  go_loopw [9] (fun i' w' => ∃ (k : Nat), k ≤ ni ∧ i' = .int .i64 k ∧ Hid (∀ i, i < k → InOk T (n0 + i) i) ∧ Hid (TxAt w' r T (n0 + k) h) ∧ Hid (w.grownBy w' (some r))) (fun i' _ => ni - (intOf i').toNat)
  case atStart => exact ⟨0, Nat.zero_le _, rfl, fun i hi => absurd hi (by omega), HX.out, grown_refl _ _⟩
  case round =>
    obtain ⟨k, hk, rfl, HA, HT, HG⟩ := hrel
    by_cases hltk : k < ni
    · have hltI : (k : Int) < (ni : Int) := by omega
      have e1 : IntKind.i64.wrap (1 + (k : Int)) = 1 + (k : Int) := wrapI _ (by omega) (by omega)
      have e2 : IntKind.i64.wrap (2 * (1 + (k : Int))) = 2 * (1 + (k : Int)) := wrapI _ (by omega) (by omega)
      have e3 : IntKind.i64.wrap ((k : Int) + 1) = (k : Int) + 1 := wrapI _ (by omega) (by omega)
      have N1 := hidden (NL.out (n0 + k) wr HT.out HG.out)
      go_wp2_with fail
      go_at_call 57
      refine N1.out.mono ?_
      rintro e w1 (⟨xs, q1, q2, q3, v, rfl, q4, q5, q6, q7⟩ | ⟨q1, p0, rfl, hp1, hp2, hp3⟩)
      · obtain ⟨y, rfl⟩ : ∃ y, xs = [y] := by
          match xs, q2, q3 with
          | [y], _, _ => exact ⟨y, rfl⟩
        obtain ⟨lb, lc, rfl, hlb, hlb2, hlc, hel⟩ := row_els q4 (by simp)
        have cy := hel 0 y rfl
        have HQ1 := hidden q1
        have HQ5 := hidden q5
        have HG1 : Hid (w.grownBy w1 (some r)) := grown_trans HG.out q7
        have HT1 : Hid (TxAt w1 r T (n0 + (k + 1)) h) := ⟨⟨_, by rw [show n0 + (k + 1) = n0 + k + 1 by omega]; exact q5⟩, by rw [show n0 + (k + 1) = n0 + k + 1 by omega]; exact q6, HT.out.len⟩
        have MU := hidden (must_any r _ (decide (y = 2 * (1 + (k : Int)))) w1 q5)
        clear q1 q2 q3 q4 q5 q6 q7 hel N1
        by_cases hy : y = 2 * (1 + (k : Int))
        · have hdt : decide (y = 2 * (1 + (k : Int))) = true := by simp [hy]
          rw [hdt] at MU
          subst hy
          have HOK : Hid (InOk T (n0 + k) k) := HQ1.out
          go_wp2_with fail
          go_at_call 53
          refine MU.out.mono ?_
          rintro e x1 hcase
          have hee : e = .returned (.tuple #[]) ∧ x1 = w1 := by
            rcases hcase with ⟨-, h1, h2⟩ | ⟨hf, -⟩
            · exact ⟨h1, h2⟩
            · cases hf
          obtain ⟨he1, hx1⟩ := hee
          subst he1
          subst hx1
          have HA2 : Hid (∀ i, i < k + 1 → InOk T (n0 + i) i) := fun i hi => by
            rcases Nat.lt_or_ge i k with h' | h'
            · exact HA.out i h'
            · have : i = k := by omega
              subst this; exact HOK.out
          clear MU hcase cy HA HQ1 HQ5
          go_wp2
          go_roundw
          case measure => simp [intOf]; omega
          case rel => exact ⟨k + 1, by omega, by simp, HA2.out, HT1.out, HG1.out⟩
        · have hdt : decide (y = 2 * (1 + (k : Int))) = false := by simp [hy]
          rw [hdt] at MU
          have hyb : (y == 2 * (1 + (k : Int))) = false := by simp [hy]
          have HNO : Hid (¬ InOk T (n0 + k) k) := fun hh => by
            unfold InOk at hh
            rw [HQ1.out] at hh
            exact hy (by simpa using hh)
          go_wp2_with fail
          go_at_call 53
          refine MU.out.mono ?_
          rintro e x1 (⟨hf, -⟩ | ⟨-, p0, rfl, hp1, hp2, hp3⟩)
          · cases hf
          have H1 := hidden hp1
          have H2' := hidden hp2
          have H3 := hidden hp3
          clear hp1 hp2 hp3 MU
          unfold thrown
          go_wp2
          have hTh : Thr w r ((n0 + k + 1 : Nat) : Int) (thrown p0) x1 := ⟨p0, rfl, H1.out, Nat.le_trans HG1.out.size H2'.out, grown_trans HG1.out H3.out⟩
          first | exact ⟨rfl, Or.inr ⟨k, hltk, HA.out, HNO.out, hTh⟩⟩ | exact Or.inr ⟨k, hltk, HA.out, HNO.out, hTh⟩
      · have H1 := hidden hp1
        have H2' := hidden hp2
        have H3 := hidden hp3
        have HNO : Hid (¬ InOk T (n0 + k) k) := fun hh => q1 _ hh ⟨by simp, by simp⟩
        clear hp1 hp2 hp3 N1 q1
        unfold thrown
        go_wp2
        have hTh : Thr w r ((n0 + k + 1 : Nat) : Int) (thrown p0) w1 := ⟨p0, rfl, H1.out, Nat.le_trans HG.out.size H2'.out, grown_trans HG.out H3.out⟩
        first | exact ⟨rfl, Or.inr ⟨k, hltk, HA.out, HNO.out, hTh⟩⟩ | exact Or.inr ⟨k, hltk, HA.out, HNO.out, hTh⟩
    · have hge : ¬ ((k : Int) < (ni : Int)) := by omega
      have hkk : k = ni := by omega
      subst hkk
      go_wp2
      go_end0
      exact Or.inl ⟨HA.out, rfl, HT.out, HG.out⟩

end Go.Proofs.YtdiahnommkhkiaaDoor
