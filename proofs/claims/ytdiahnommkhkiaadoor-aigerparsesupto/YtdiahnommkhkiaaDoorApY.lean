import Derived.Test.YtdiahnommkhkiaaDoorApX
namespace Go.Proofs.YtdiahnommkhkiaaDoor
open Go.RowKit

theorem drop_behind (a b : List UInt8) (m : Nat) : (a ++ b).drop (a.length + m) = b.drop m := by
  rw [List.drop_append]
  rw [List.drop_eq_nil_of_le (by omega)]; simp
/-- a text's lines -/
def linesOf (T : List UInt8) : List (List UInt8) := (sp 10 T).1
/-- where a line begins -/
def offs (L : List (List UInt8)) (n : Nat) : Nat := ((L.take n).map fun l => l.length + 1).sum
theorem offs_cons (a : List UInt8) (L : List (List UInt8)) (n : Nat) : offs (a :: L) (n + 1) = a.length + 1 + offs L n := by
  unfold offs; simp
theorem offs_next (L : List (List UInt8)) (n : Nat) (a : List UInt8) (h : L[n]? = some a) : offs L (n + 1) = offs L n + a.length + 1 := by
  unfold offs
  rw [take_next L n a h, List.map_append, List.sum_append]; simp; omega
theorem linesOf_cut {T a b : List UInt8} (h : 10 ∉ a) (e : T = a ++ 10 :: b) : linesOf T = a :: linesOf b := by
  unfold linesOf; rw [e, sp_cut 10 a b h]
theorem linesOf_free {T : List UInt8} (h : 10 ∉ T) : linesOf T = [] := by unfold linesOf; rw [sp_free 10 T h]
theorem offs_len (n : Nat) : ∀ T : List UInt8, n ≤ (linesOf T).length → offs (linesOf T) n + ((linesOf T).length - n) ≤ T.length := by
  induction n with
  | zero =>
    intro T _
    have : (sp 10 T).1.length ≤ T.length := by have := pcs_len 10 T; unfold pcs at this; simp at this; exact this
    unfold offs linesOf; simp; exact this
  | succ n ih =>
    intro T hn
    rcases first_or 10 T with hf | ⟨a, b, ha, he⟩
    · rw [linesOf_free hf] at hn; simp at hn
    · rw [linesOf_cut ha he] at hn ⊢
      have := ih b (by simpa using hn)
      rw [offs_cons, he]
      simp; omega
theorem lineAt_off (n : Nat) : ∀ T : List UInt8, n ≤ (linesOf T).length → lineAt T (offs (linesOf T) n) = (linesOf T)[n]? := by
  induction n with
  | zero =>
    intro T _
    have e0 : offs (linesOf T) 0 = 0 := by simp [offs]
    rw [e0]
    rcases first_or 10 T with hf | ⟨a, b, ha, he⟩
    · rw [linesOf_free hf, lineAt_none (by simpa using hf)]; rfl
    · rw [linesOf_cut ha he, lineAt_some ha (by simpa using he)]; rfl
  | succ n ih =>
    intro T hn
    rcases first_or 10 T with hf | ⟨a, b, ha, he⟩
    · rw [linesOf_free hf] at hn; simp at hn
    · rw [linesOf_cut ha he] at hn ⊢
      have := ih b (by simpa using hn)
      rw [offs_cons]
      have hd : ∀ m, lineAt T (a.length + 1 + m) = lineAt b m := fun m => by
        unfold lineAt
        have : T.drop (a.length + 1 + m) = b.drop m := by
          have := drop_behind (a ++ [10]) b m
          rw [he, show a ++ 10 :: b = (a ++ [10]) ++ b by simp]
          simpa using this
        rw [this]
      rw [hd, this]; rfl

/-- a reader of a text, so many lines behind its beginning -/
structure TxAt (w : World) (r : Nat) (T : List UInt8) (n : Nat) (h : Int × Int × Int × Int × Int) : Prop where
  at_ : ∃ bg, RdAt w r ⟨0, h.1, h.2.1, h.2.2.1, h.2.2.2.1, h.2.2.2.2, T, (offs (linesOf T) n : Nat), (n : Int), bg⟩
  le : n ≤ (linesOf T).length
  len : T.length ≤ 1048576
theorem TxAt.to {w w' : World} {r : Nat} {T : List UInt8} {n : Nat} {h : Int × Int × Int × Int × Int} (x : TxAt w r T n h) (hb : Below w.heap.size w w') : TxAt w' r T n h := by
  obtain ⟨⟨bg, h1⟩, h2, h3⟩ := x
  exact ⟨⟨bg, h1.to hb⟩, h2, h3⟩
/-- a line of so many numbers -/
def NumsAt (T : List UInt8) (n least most : Nat) (ps : List (List UInt8)) : Prop := ∃ a, (linesOf T)[n]? = some a ∧ ps = pcs 32 a ∧ NumsOk a least most

theorem numberLine_text (r : Nat) (T : List UInt8) (n least most : Nat) (h : Int × Int × Int × Int × Int) (w : World) (x : TxAt w r T n h) (hv : Vars w) (hm : most ≤ 100) (hr2 : 2 ≤ r) :
    Calls Tryd.prog 57 #[.pointer (some ⟨r, 0, none⟩), .int .i64 least, .int .i64 most] w fun e w' =>
      (∃ ps, NumsAt T n least most ps ∧ ∃ v, e = .returned v ∧ w'.ownsRow w.heap.size 3 1 v ps.length (ps.map nV) ∧ RdAt w' r ⟨0, h.1, h.2.1, h.2.2.1, h.2.2.2.1, h.2.2.2.2, T, (offs (linesOf T) (n + 1) : Nat), ((n + 1 : Nat) : Int), ((n + 1 : Nat) : Int)⟩ ∧ n + 1 ≤ (linesOf T).length ∧ w.grownBy w' (some r)) ∨ ((¬ ∃ ps, NumsAt T n least most ps) ∧ Thr w r ((n + 1 : Nat) : Int) e w') := by
  obtain ⟨⟨bg, h1⟩, hle, hlen⟩ := x
  have hol := offs_len n T hle
  refine (numberLine_any r _ (offs (linesOf T) n) n least most w h1 hv rfl rfl (by show _ ≤ T.length; omega) (by show n ≤ T.length; have := offs_len 0 T (Nat.zero_le _); omega) hlen hm hr2).mono ?_
  have hbe : (⟨0, h.1, h.2.1, h.2.2.1, h.2.2.2.1, h.2.2.2.2, T, (offs (linesOf T) n : Nat), (n : Int), bg⟩ : RdS).begun = ((n + 1 : Nat) : Int) := by
    unfold RdS.begun; rw [if_pos rfl]; show (n : Int) + 1 = _; omega
  rw [hbe]
  rintro e w' (⟨a, ⟨q1, q2⟩, v, q3, q4, q5, q6⟩ | ⟨q1, q2⟩)
  · have hL : (linesOf T)[n]? = some a := by rw [← lineAt_off n T hle]; exact q1
    refine Or.inl ⟨pcs 32 a, ⟨a, hL, rfl, q2⟩, v, q3, q4, ?_, (List.getElem?_eq_some_iff.1 hL).1, q6⟩
    rw [offs_next _ n a hL]
    exact q5
  · refine Or.inr ⟨?_, q2⟩
    rintro ⟨ps, a, hL, _, hok⟩
    exact q1 ⟨a, by show lineAt T _ = _; rw [lineAt_off n T hle]; exact hL, hok⟩

/-- the head's methods -/
structure HdAt (w : World) (b o : Nat) (h : Int × Int × Int × Int × Int) : Prop where
  c0 : w.cell? ⟨b, o + 0, none⟩ = some (.int .i64 h.1)
  c1 : w.cell? ⟨b, o + 1, none⟩ = some (.int .i64 h.2.1)
  c2 : w.cell? ⟨b, o + 2, none⟩ = some (.int .i64 h.2.2.1)
  c3 : w.cell? ⟨b, o + 3, none⟩ = some (.int .i64 h.2.2.2.1)
  c4 : w.cell? ⟨b, o + 4, none⟩ = some (.int .i64 h.2.2.2.2)
theorem RdAt.head {w : World} {r : Nat} {R : RdS} (x : RdAt w r R) : HdAt w r 1 (R.h0, R.h1, R.h2, R.h3, R.h4) :=
  ⟨x.cell 1, x.cell 2, x.cell 3, x.cell 4, x.cell 5⟩
set_option maxRecDepth 100000 in
theorem latch_any (b o : Nat) (h : Int × Int × Int × Int × Int) (i : Nat) (w : World) (x : HdAt w b o h) (h1 : 0 ≤ h.2.1 ∧ h.2.1 ≤ 60000) (hi : i ≤ 60000) :
    Calls Tryd.prog 58 #[.pointer (some ⟨b, o, none⟩), .int .i64 i] w fun e w' => e = .returned (.int .i64 (2 * (1 + h.2.1 + i))) ∧ w' = w := by
  have c1 := x.c1
  obtain ⟨p0, p1, p2, p3, p4⟩ := h
  simp only at *
  have e1 : IntKind.i64.wrap (1 + p1) = 1 + p1 := wrapI _ (by omega) (by omega)
  have e2 : IntKind.i64.wrap (1 + p1 + (i : Int)) = 1 + p1 + (i : Int) := wrapI _ (by omega) (by omega)
  have e3 : IntKind.i64.wrap (2 * (1 + p1 + (i : Int))) = 2 * (1 + p1 + (i : Int)) := wrapI _ (by omega) (by omega)
  clear x
  go_enter Tryd.func58, Tryd.ntmps58
  go_wp2
  go_ret
  exact ⟨rfl, rfl⟩
set_option maxRecDepth 100000 in
theorem hasLiteral_any (b o : Nat) (h : Int × Int × Int × Int × Int) (x : Int) (w : World) (hd : HdAt w b o h) (h1 : 0 ≤ h.1 ∧ h.1 ≤ 60000) (hx : 0 ≤ x ∧ x ≤ 1000000000) :
    Calls Tryd.prog 59 #[.pointer (some ⟨b, o, none⟩), .int .i64 x] w fun e w' => e = .returned (.bool (decide (x < 2 * (h.1 + 1)))) ∧ w' = w := by
  have c0 : w.cell? ⟨b, o, none⟩ = some (.int .i64 h.1) := hd.c0
  obtain ⟨p0, p1, p2, p3, p4⟩ := h
  simp only at *
  have hq : x.tdiv 2 = x / 2 := Int.tdiv_eq_ediv_of_nonneg hx.1
  have e1 : IntKind.i64.wrap (x.tdiv 2) = x / 2 := by rw [hq]; exact wrapI _ (by omega) (by omega)
  have e2 : IntKind.i64.wrap (x / 2) = x / 2 := wrapI _ (by omega) (by omega)
  have hdd : decide (x / 2 ≤ p0) = decide (x < 2 * (p0 + 1)) := by
    by_cases hh : x / 2 ≤ p0
    · have : x < 2 * (p0 + 1) := by omega
      simp [hh, this]
    · have : ¬ x < 2 * (p0 + 1) := by omega
      simp [hh, this]
  have HDD := hidden hdd
  clear hd hdd
  go_enter Tryd.func59, Tryd.ntmps59
  go_wp2
  go_ret
  exact ⟨ret_bool HDD.out, rfl⟩
set_option maxRecDepth 100000 in
theorem gate_any (b o : Nat) (h : Int × Int × Int × Int × Int) (i : Nat) (w : World) (x : HdAt w b o h) (h1 : 0 ≤ h.2.1 ∧ h.2.1 ≤ 60000) (h2 : 0 ≤ h.2.2.1 ∧ h.2.2.1 ≤ 60000) (hi : i ≤ 60000) :
    Calls Tryd.prog 60 #[.pointer (some ⟨b, o, none⟩), .int .i64 i] w fun e w' => e = .returned (.int .i64 (2 * (1 + h.2.1 + h.2.2.1 + i))) ∧ ∃ q, w' = w.drewN q := by
  have c1 := x.c1
  have c2 := x.c2
  obtain ⟨p0, p1, p2, p3, p4⟩ := h
  simp only at *
  have e1 : IntKind.i64.wrap (1 + p1) = 1 + p1 := wrapI _ (by omega) (by omega)
  have e2 : IntKind.i64.wrap (1 + p1 + p2) = 1 + p1 + p2 := wrapI _ (by omega) (by omega)
  have e3 : IntKind.i64.wrap (1 + p1 + p2 + (i : Int)) = 1 + p1 + p2 + (i : Int) := wrapI _ (by omega) (by omega)
  have e4 : IntKind.i64.wrap (2 * (1 + p1 + p2 + (i : Int))) = 2 * (1 + p1 + p2 + (i : Int)) := wrapI _ (by omega) (by omega)
  clear x
  go_enter Tryd.func60, Tryd.ntmps60
  go_wp2_with fail
  go_quiet (fail)
  go_wp2
  go_ret
  exact ⟨rfl, _, rfl⟩

end Go.Proofs.YtdiahnommkhkiaaDoor
