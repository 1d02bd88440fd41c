import Derived.Test.YtefjicdhccfieaaRfA
import Derived.Test.YtefjicdhccfieaaSaB
namespace Go.Proofs.Ytefjicdhccfieaa
open Go.RowKit

/-- which literals are held, by what stands for each variable -/
def isT (s : List Int) (l : Int) : Bool := if l < 0 then decide (s.getD l.natAbs 0 < 0) else decide (0 < s.getD l.natAbs 0)
theorem isT_cons (s : List Int) : Cons (fun l => l ≠ 0 ∧ isT s l = true) := by
  rintro l ⟨h0, h1⟩ ⟨_, h2⟩
  unfold isT at h1 h2
  rw [Int.natAbs_neg] at h2
  split at h1 <;> split at h2 <;> simp at h1 h2 <;> omega
def putS (s : List Int) (l : Int) : List Int := s.set l.natAbs (if l < 0 then -1 else 1)
theorem putS_len (s : List Int) (l : Int) : (putS s l).length = s.length := by simp [putS]
theorem isT_put {s : List Int} {l m : Int} (hl : l.natAbs < s.length) (h0 : l ≠ 0) (hm : m ≠ 0) (hn : isT s (-l) = false) : isT (putS s l) m = true ↔ m = l ∨ isT s m = true := by
  by_cases e : m.natAbs = l.natAbs
  · have hg : (putS s l).getD m.natAbs 0 = if l < 0 then -1 else 1 := by
      rw [e]; unfold putS; rw [List.getD_eq_getElem?_getD, List.getElem?_set_self hl]; rfl
    rcases Int.natAbs_eq_natAbs_iff.1 e with e2 | e2
    · subst e2
      refine ⟨fun _ => .inl rfl, fun _ => ?_⟩
      unfold isT
      rw [hg]
      split <;> simp_all
    · subst e2
      refine ⟨fun h => ?_, fun h => ?_⟩
      · unfold isT at h
        rw [hg] at h
        split at h <;> split at h <;> simp at h <;> omega
      · rcases h with h | h
        · omega
        · rw [h] at hn; cases hn
  · have hg : (putS s l).getD m.natAbs 0 = s.getD m.natAbs 0 := by
      unfold putS; rw [List.getD_eq_getElem?_getD, List.getElem?_set_ne (Ne.symm e), ← List.getD_eq_getElem?_getD]
    have : isT (putS s l) m = isT s m := by unfold isT; rw [hg]
    rw [this]
    exact ⟨.inr, fun h => h.elim (fun e2 => absurd (by rw [e2]) e) id⟩
/-- how many are open, one of them -/
def opn (s : List Int) (c : List Int) : Int × Int := c.foldl (fun r m => if isT s (-m) || (decide (0 < r.1) && m == r.2) then r else (r.1 + 1, m)) (0, 0)
theorem opn_next (s : List Int) (c : List Int) (k : Nat) (m : Int) (h : c[k]? = some m) : opn s (c.take (k + 1)) = if isT s (-m) || (decide (0 < (opn s (c.take k)).1) && m == (opn s (c.take k)).2) then opn s (c.take k) else ((opn s (c.take k)).1 + 1, m) := by
  rw [take_next c k m h]
  unfold opn
  rw [List.foldl_append]
  rfl
/-- what opn tells -/
structure OpnOk (s c : List Int) (r : Int × Int) : Prop where
  nn : 0 ≤ r.1
  le : r.1 ≤ (c.length : Int)
  none : r.1 = 0 → ∀ m, m ∈ c → isT s (-m) = true
  one : 0 < r.1 → r.2 ∈ c ∧ isT s (-r.2) = false
  only : r.1 = 1 → ∀ m, m ∈ c → m ≠ r.2 → isT s (-m) = true
  two : 1 < r.1 → ∃ a b, a ∈ c ∧ b ∈ c ∧ a ≠ b ∧ isT s (-a) = false ∧ isT s (-b) = false
theorem opn_ok (s : List Int) (c : List Int) : OpnOk s c (opn s c) := by
  suffices h : ∀ k, k ≤ c.length → OpnOk s (c.take k) (opn s (c.take k)) by
    have := h c.length (Nat.le_refl _)
    rwa [List.take_length] at this
  intro k
  induction k with
  | zero => intro _; exact ⟨by simp [opn], by simp [opn], fun _ m hm => by simp at hm, fun h => by simp [opn] at h, fun h => by simp [opn] at h, fun h => by simp [opn] at h⟩
  | succ k ih =>
    intro hk
    have ih := ih (by omega)
    obtain ⟨m, hm⟩ := getElem_lt (show k < c.length by omega)
    rw [opn_next s c k m hm, take_next c k m hm]
    generalize opn s (c.take k) = r at *
    generalize c.take k = d at *
    split
    · rename_i hc
      simp only [Bool.or_eq_true, Bool.and_eq_true, decide_eq_true_eq, beq_iff_eq] at hc
      refine ⟨ih.nn, by have := ih.le; simp; omega, fun h0 x hx => ?_, fun h1 => ?_, fun h1 x hx hne => ?_, fun h2 => ?_⟩
      · rcases List.mem_append.1 hx with hx | hx
        · exact ih.none h0 x hx
        · rw [List.mem_singleton.1 hx]
          rcases hc with hc | hc
          · exact hc
          · omega
      · exact ⟨List.mem_append_left _ (ih.one h1).1, (ih.one h1).2⟩
      · rcases List.mem_append.1 hx with hx | hx
        · exact ih.only h1 x hx hne
        · rw [List.mem_singleton.1 hx] at hne ⊢
          rcases hc with hc | hc
          · exact hc
          · exact absurd hc.2 hne
      · obtain ⟨a, b, h1, h3, h4, h5, h6⟩ := ih.two h2
        exact ⟨a, b, List.mem_append_left _ h1, List.mem_append_left _ h3, h4, h5, h6⟩
    · rename_i hc
      simp only [Bool.or_eq_true, Bool.and_eq_true, decide_eq_true_eq, beq_iff_eq, not_or, not_and, Bool.not_eq_true] at hc
      have hnn := ih.nn
      refine ⟨by show 0 ≤ r.1 + 1; omega, by have := ih.le; simp; omega, fun h0 => by (have h0' : r.1 + 1 = 0 := h0); omega, fun _ => ⟨by simp, hc.1⟩, fun h1 x hx hne => ?_, fun h2 => ?_⟩
      · have h0 : r.1 = 0 := by have h1' : r.1 + 1 = 1 := h1; omega
        rcases List.mem_append.1 hx with hx | hx
        · exact ih.none h0 x hx
        · exact absurd (List.mem_singleton.1 hx) hne
      · have h1 : 0 < r.1 := by have h2' : 1 < r.1 + 1 := h2; omega
        exact ⟨r.2, m, List.mem_append_left _ (ih.one h1).1, by simp, fun e => hc.2 h1 e.symm, (ih.one h1).2, hc.1⟩

/-- what is held, in memory -/
structure HeldAt (w : World) (hb sb : Nat) (s : List Int) : Prop where
  h : w.cell? ⟨hb, 0, none⟩ = some (.slice (some ⟨sb, 0, none⟩) s.length s.length)
  s : w.heap[sb]? = some (.cells (s.map fun x => Value.int .i64 x).toArray 3 (0, 0))
  hl : hb < w.heap.size
  ne : hb ≠ sb
theorem HeldAt.cell {w : World} {hb sb : Nat} {s : List Int} (h : HeldAt w hb sb s) {i : Nat} {x : Int} (hx : s[i]? = some x) : w.cell? ⟨sb, i, none⟩ = some (.int .i64 x) := by
  simp [World.cell?, h.s, hx]
theorem HeldAt.fz {w : World} {hb sb : Nat} {s : List Int} (h : HeldAt w hb sb s) (i : Nat) : w.frozen? ⟨sb, i, none⟩ = false := by simp [World.frozen?, h.s]
theorem HeldAt.sl {w : World} {hb sb : Nat} {s : List Int} (h : HeldAt w hb sb s) : sb < w.heap.size := by
  have := h.s
  rcases Nat.lt_or_ge sb w.heap.size with h' | h'
  · exact h'
  · rw [Array.getElem?_eq_none h'] at this; cases this
theorem HeldAt.to {w w' : World} {hb sb : Nat} {s : List Int} (h : HeldAt w hb sb s) (hbl : Below w.heap.size w w') : HeldAt w' hb sb s :=
  ⟨(hbl.cell (p := ⟨hb, 0, none⟩) h.hl).trans h.h, (hbl.block sb h.sl).trans h.s, Nat.lt_of_lt_of_le h.hl hbl.size, h.ne⟩

set_option maxRecDepth 100000 in
set_option maxHeartbeats 2000000 in
theorem is_any (w : World) (hb sb : Nat) (s : List Int) (l : Int) (h : HeldAt w hb sb s) (hl : l.natAbs < s.length) (hs : s.length ≤ 200000) :
    Calls Try.prog 46 #[.pointer (some ⟨hb, 0, none⟩), .int .i64 l] w fun e w' => e = .returned (.bool (isT s l)) ∧ w' = w := by
  obtain ⟨x, hx⟩ := getElem_lt hl
  have c0 := h.h
  have c1 := h.cell hx
  have HI : Hid (isT s l = if l < 0 then decide (x < 0) else decide (0 < x)) := by
    show isT s l = _
    unfold isT
    rw [List.getD_eq_getElem?_getD, hx]; rfl
  clear h
  obtain ⟨n, hn⟩ : ∃ n, n = l.natAbs := ⟨_, rfl⟩
  rw [← hn] at c1 hl
  generalize s.length = sn at *
  by_cases hneg : l < 0
  · have hln : -l = (n : Int) := by omega
    have HL := hidden hln
    have e1 : IntKind.i64.wrap (-l) = (n : Int) := by rw [hln]; exact wrapI _ (by omega) (by omega)
    have hlt : (n : Int) < (sn : Int) := by omega
    have HI2 : Hid (isT s l = decide (x < 0)) := by show _ = _; rw [HI.out, if_pos hneg]
    clear hn hln hx
    go_enter Try.func46, Try.ntmps46
    go_wp2
    go_ret
    exact ⟨ret_bool (by rw [HI2.out]), rfl⟩
  · have hln : l = (n : Int) := by omega
    have HI2 : Hid (isT s l = decide (0 < x)) := by show _ = _; rw [HI.out, if_neg hneg]
    clear hn hx HI
    subst hln
    have hlt : (n : Int) < (sn : Int) := by omega
    go_enter Try.func46, Try.ntmps46
    go_wp2
    go_ret
    exact ⟨ret_bool (by rw [HI2.out]), rfl⟩

end Go.Proofs.Ytefjicdhccfieaa
