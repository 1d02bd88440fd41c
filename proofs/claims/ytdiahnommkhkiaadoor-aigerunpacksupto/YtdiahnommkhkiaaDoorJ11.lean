import Derived.Test.YtdiahnommkhkiaaDoorJ10
namespace Go.Proofs.YtdiahnommkhkiaaDoor
open Go.RowKit

/-- the line that begins at a place, if it has an end -/
def lineAt (T : List UInt8) (k : Nat) : Option (List UInt8) := match Lib.cut (T.drop k) [10] with | (a, _, true) => some a | _ => none
theorem lineAt_some {T : List UInt8} {k : Nat} {a b : List UInt8} (h : 10 ∉ a) (e : T.drop k = a ++ 10 :: b) : lineAt T k = some a := by
  unfold lineAt; rw [e, cut_cut 10 a b h]
theorem lineAt_none {T : List UInt8} {k : Nat} (h : 10 ∉ T.drop k) : lineAt T k = none := by
  unfold lineAt; rw [cut_free 10 _ h]
theorem lineAt_inv {T : List UInt8} {k : Nat} {a : List UInt8} (h : lineAt T k = some a) : 10 ∉ a ∧ ∃ b, T.drop k = a ++ 10 :: b := by
  rcases first_or 10 (T.drop k) with hf | ⟨x, y, hx, he⟩
  · rw [lineAt_none hf] at h; cases h
  · rw [lineAt_some hx he] at h
    cases h
    exact ⟨hx, y, he⟩
theorem lineAt_len {T : List UInt8} {k : Nat} {a : List UInt8} (h : lineAt T k = some a) : k + a.length + 1 ≤ T.length := by
  obtain ⟨_, b, he⟩ := lineAt_inv h
  have := congrArg List.length he
  simp at this; omega
theorem line_at (r : Nat) (R : RdS) (k n : Nat) (w : World) (h : RdAt w r R) (hv : Vars w) (hfr : R.fr = (k : Int)) (hln : R.ln = (n : Int)) (hk : k ≤ R.T.length) (hn : n ≤ R.T.length) (hT : R.T.length ≤ 1048576) :
    Calls Tryd.prog 52 #[.pointer (some ⟨r, 0, none⟩)] w fun e w' =>
      (∃ a, lineAt R.T k = some a ∧ e = .returned (.string (bs a)) ∧ RdAt w' r { R with fr := ((k + a.length + 1 : Nat) : Int), ln := ((n + 1 : Nat) : Int) } ∧ w.grownBy w' (some r)) ∨ (lineAt R.T k = none ∧ Thr w r R.bg e w') := by
  refine (line_any r R k n w h hv hfr hln hk hn (by omega)).mono ?_
  rintro e w' (⟨a, b, h1, h2, h3, h4, h5⟩ | ⟨h1, h2⟩)
  · exact Or.inl ⟨a, lineAt_some h1 h2, h3, h4, h5⟩
  · exact Or.inr ⟨lineAt_none h1, h2⟩
/-- a line of numbers at a place -/
def NumLine (T : List UInt8) (k least most : Nat) (a : List UInt8) : Prop := lineAt T k = some a ∧ NumsOk a least most
theorem numLine_not {T : List UInt8} {k least most : Nat} (h : lineAt T k = none) : ¬ ∃ a, NumLine T k least most a := by
  rintro ⟨a, h1, _⟩
  rw [h] at h1; cases h1
theorem numLine_not2 {T : List UInt8} {k least most : Nat} {a : List UInt8} (h : lineAt T k = some a) (h2 : ¬ NumsOk a least most) : ¬ ∃ a, NumLine T k least most a := by
  rintro ⟨b, h1, h3⟩
  rw [h] at h1; cases h1
  exact h2 h3
set_option maxRecDepth 100000 in
set_option maxHeartbeats 4000000 in
theorem numberLine_any (r : Nat) (R : RdS) (k n least most : Nat) (w : World) (h : RdAt w r R) (hv : Vars w) (hfr : R.fr = (k : Int)) (hln : R.ln = (n : Int)) (hk : k ≤ R.T.length) (hn : n ≤ R.T.length) (hT : R.T.length ≤ 1048576) (hm : most ≤ 100) (hr2 : 2 ≤ r) :
    Calls Tryd.prog 57 #[.pointer (some ⟨r, 0, none⟩), .int .i64 least, .int .i64 most] w fun e w' =>
      (∃ a, NumLine R.T k least most a ∧ ∃ v, e = .returned v ∧ w'.ownsRow w.heap.size 3 1 v (pcs 32 a).length ((pcs 32 a).map nV) ∧ RdAt w' r { R with bg := R.begun, fr := ((k + a.length + 1 : Nat) : Int), ln := ((n + 1 : Nat) : Int) } ∧ w.grownBy w' (some r)) ∨ ((¬ ∃ a, NumLine R.T k least most a) ∧ Thr w r R.begun e w') := by
  have hlt := h.lt
  have BG := hidden (begin_any r R w h (by rw [hln]; omega))
  obtain ⟨R1, hR1⟩ : ∃ R1, R1 = { R with bg := R.begun } := ⟨_, rfl⟩
  have hT1 : R1.T = R.T := by rw [hR1]
  have hfr1 : R1.fr = (k : Int) := by rw [hR1]; exact hfr
  have hln1 : R1.ln = (n : Int) := by rw [hR1]; exact hln
  have hbg1 : R1.bg = R.begun := by rw [hR1]
  have HV := hidden hv
  have HRE : Hid (∀ x y : Int, ({ R1 with fr := x, ln := y } : RdS) = { R with bg := R.begun, fr := x, ln := y }) := fun x y => by rw [hR1]
  rw [← hR1] at BG
  have H2 : Hid (2 ≤ w.heap.size) := by show _ ≤ _; omega
  have L1 : Hid (∀ w1, RdAt w1 r R1 → w.grownBy w1 (some r) → Calls Tryd.prog 52 #[.pointer (some ⟨r, 0, none⟩)] w1 fun e w' =>
      (∃ a, lineAt R.T k = some a ∧ e = .returned (.string (bs a)) ∧ RdAt w' r { R1 with fr := ((k + a.length + 1 : Nat) : Int), ln := ((n + 1 : Nat) : Int) } ∧ w1.grownBy w' (some r)) ∨ (lineAt R.T k = none ∧ Thr w1 r R.begun e w')) := fun w1 h1 hg1 => by
    refine (line_at r R1 k n w1 h1 (HV.out.grown hg1 hr2 H2.out) hfr1 hln1 (by rw [hT1]; exact hk) (by rw [hT1]; exact hn) (by rw [hT1]; exact hT)).mono ?_
    rintro e w' (⟨a, q1, q2, q3, q4⟩ | ⟨q1, q2⟩)
    · rw [hT1] at q1; exact Or.inl ⟨a, q1, q2, q3, q4⟩
    · rw [hT1] at q1; rw [hbg1] at q2; exact Or.inr ⟨q1, q2⟩
  have HBG := hidden hbg1
  clear h hv hR1 hT1 hfr1 hln1 hbg1
  generalize hT0 : R.T = T at *
  have HT0 := hidden hT0
  generalize hbb : R.begun = bb at *
  clear hT0 hbb hfr hln
  go_enter Tryd.func57, Tryd.ntmps57
  go_wp2_with fail
  go_at_call 50
  refine BG.out.mono ?_
  rintro e w1 ⟨rfl, hr1, hg1⟩
  have HR1 := hidden hr1
  have HG1 := hidden hg1
  have L2 := hidden (L1.out w1 hr1 hg1)
  clear hr1 hg1 BG L1
  go_wp2_with fail
  go_at_call 52
  refine L2.out.mono ?_
  rintro e w2 (⟨a, hla, rfl, hr2', hg2⟩ | ⟨hno, p0, rfl, hp1, hp2, hp3⟩)
  · have hal : a.length ≤ 1048576 := by have := lineAt_len hla; omega
    have HLA := hidden hla
    have HR2 := hidden hr2'
    have HG2 : Hid (w.grownBy w2 (some r)) := grown_trans HG1.out hg2
    have NO := hidden (numbersOf_any r _ a least most w2 hr2' (HV.out.grown HG2.out hr2 H2.out) hal hm)
    clear hla hr2' hg2 L2
    generalize hba : bs a = sa at *
    clear hba
    go_wp2_with fail
    go_at_call 55
    refine NO.out.mono ?_
    rintro e w3 (⟨hok, v, rfl, ho3, hb3⟩ | ⟨hnok, p0, rfl, hp1, hp2, hp3⟩)
    · have HO3 := hidden (own_mono ho3 HG2.out.size)
      have HR3 := hidden (HR2.out.to hb3)
      have HG3 : Hid (w.grownBy w3 (some r)) := grown_trans HG2.out (gbel hb3 _)
      have HOK := hidden hok
      clear ho3 hb3 hok NO
      go_wp2
      go_ret
      refine Or.inl ⟨a, ⟨HLA.out, HOK.out⟩, _, rfl, HO3.out, ?_, HG3.out⟩
      have := HR3.out
      rw [HRE.out] at this
      exact this
    · have H1 := hidden hp1
      have H2' := hidden hp2
      have H3 := hidden hp3
      have HNK := hidden hnok
      clear hp1 hp2 hp3 NO hnok
      unfold thrown
      go_wp2
      have hbe : ({ R1 with fr := ((k + a.length + 1 : Nat) : Int), ln := ((n + 1 : Nat) : Int) } : RdS).bg = bb := HBG.out
      have hTh : Thr w r bb (thrown p0) w3 := ⟨p0, rfl, by have := H1.out; rwa [hbe] at this, Nat.le_trans HG2.out.size H2'.out, grown_trans HG2.out H3.out⟩
      have hNo := numLine_not2 HLA.out HNK.out
      first | exact ⟨rfl, Or.inr ⟨hNo, hTh⟩⟩ | exact Or.inr ⟨hNo, hTh⟩
  · have H1 := hidden hp1
    have H2' := hidden hp2
    have H3 := hidden hp3
    have HNK := hidden hno
    clear hp1 hp2 hp3 hno L2
    unfold thrown
    go_wp2
    have hTh : Thr w r bb (thrown p0) w2 := ⟨p0, rfl, H1.out, Nat.le_trans HG1.out.size H2'.out, grown_trans HG1.out H3.out⟩
    have hNo : ¬ ∃ a, NumLine T k least most a := numLine_not HNK.out
    first | exact ⟨rfl, Or.inr ⟨hNo, hTh⟩⟩ | exact Or.inr ⟨hNo, hTh⟩


end Go.Proofs.YtdiahnommkhkiaaDoor

namespace Go.Proofs.YtdiahnommkhkiaaDoor
open Go.RowKit

theorem drop_behind (a b : List UInt8) (m : Nat) : (a ++ b).drop (a.length + m) = b.drop m := by
  rw [List.drop_append]
  rw [List.drop_eq_nil_of_le (by omega)]; simp
/-- a text's lines -/
def linesOf (T : List UInt8) : List (List UInt8) := (sp 10 T).1
/-- where a line begins -/
def offs (L : List (List UInt8)) (n : Nat) : Nat := ((L.take n).map fun l => l.length + 1).sum
theorem offs_cons (a : List UInt8) (L : List (List UInt8)) (n : Nat) : offs (a :: L) (n + 1) = a.length + 1 + offs L n := by
  unfold offs; simp
theorem offs_next (L : List (List UInt8)) (n : Nat) (a : List UInt8) (h : L[n]? = some a) : offs L (n + 1) = offs L n + a.length + 1 := by
  unfold offs
  rw [take_next L n a h, List.map_append, List.sum_append]; simp; omega
theorem linesOf_cut {T a b : List UInt8} (h : 10 ∉ a) (e : T = a ++ 10 :: b) : linesOf T = a :: linesOf b := by
  unfold linesOf; rw [e, sp_cut 10 a b h]
theorem linesOf_free {T : List UInt8} (h : 10 ∉ T) : linesOf T = [] := by unfold linesOf; rw [sp_free 10 T h]
theorem offs_len (n : Nat) : ∀ T : List UInt8, n ≤ (linesOf T).length → offs (linesOf T) n + ((linesOf T).length - n) ≤ T.length := by
  induction n with
  | zero =>
    intro T _
    have : (sp 10 T).1.length ≤ T.length := by have := pcs_len 10 T; unfold pcs at this; simp at this; exact this
    unfold offs linesOf; simp; exact this
  | succ n ih =>
    intro T hn
    rcases first_or 10 T with hf | ⟨a, b, ha, he⟩
    · rw [linesOf_free hf] at hn; simp at hn
    · rw [linesOf_cut ha he] at hn ⊢
      have := ih b (by simpa using hn)
      rw [offs_cons, he]
      simp; omega
theorem lineAt_off (n : Nat) : ∀ T : List UInt8, n ≤ (linesOf T).length → lineAt T (offs (linesOf T) n) = (linesOf T)[n]? := by
  induction n with
  | zero =>
    intro T _
    have e0 : offs (linesOf T) 0 = 0 := by simp [offs]
    rw [e0]
    rcases first_or 10 T with hf | ⟨a, b, ha, he⟩
    · rw [linesOf_free hf, lineAt_none (by simpa using hf)]; rfl
    · rw [linesOf_cut ha he, lineAt_some ha (by simpa using he)]; rfl
  | succ n ih =>
    intro T hn
    rcases first_or 10 T with hf | ⟨a, b, ha, he⟩
    · rw [linesOf_free hf] at hn; simp at hn
    · rw [linesOf_cut ha he] at hn ⊢
      have := ih b (by simpa using hn)
      rw [offs_cons]
      have hd : ∀ m, lineAt T (a.length + 1 + m) = lineAt b m := fun m => by
        unfold lineAt
        have : T.drop (a.length + 1 + m) = b.drop m := by
          have := drop_behind (a ++ [10]) b m
          rw [he, show a ++ 10 :: b = (a ++ [10]) ++ b by simp]
          simpa using this
        rw [this]
      rw [hd, this]; rfl
/-- a reader of a text, so many lines behind its beginning -/
structure TxAt (w : World) (r : Nat) (T : List UInt8) (n : Nat) (h : Int × Int × Int × Int × Int) : Prop where
  at_ : ∃ bg, RdAt w r ⟨0, h.1, h.2.1, h.2.2.1, h.2.2.2.1, h.2.2.2.2, T, (offs (linesOf T) n : Nat), (n : Int), bg⟩
  le : n ≤ (linesOf T).length
  len : T.length ≤ 1048576
theorem TxAt.to {w w' : World} {r : Nat} {T : List UInt8} {n : Nat} {h : Int × Int × Int × Int × Int} (x : TxAt w r T n h) (hb : Below w.heap.size w w') : TxAt w' r T n h := by
  obtain ⟨⟨bg, h1⟩, h2, h3⟩ := x
  exact ⟨⟨bg, h1.to hb⟩, h2, h3⟩
/-- the head's methods -/
structure HdAt (w : World) (b o : Nat) (h : Int × Int × Int × Int × Int) : Prop where
  c0 : w.cell? ⟨b, o + 0, none⟩ = some (.int .i64 h.1)
  c1 : w.cell? ⟨b, o + 1, none⟩ = some (.int .i64 h.2.1)
  c2 : w.cell? ⟨b, o + 2, none⟩ = some (.int .i64 h.2.2.1)
  c3 : w.cell? ⟨b, o + 3, none⟩ = some (.int .i64 h.2.2.2.1)
  c4 : w.cell? ⟨b, o + 4, none⟩ = some (.int .i64 h.2.2.2.2)
theorem RdAt.head {w : World} {r : Nat} {R : RdS} (x : RdAt w r R) : HdAt w r 1 (R.h0, R.h1, R.h2, R.h3, R.h4) :=
  ⟨x.cell 1, x.cell 2, x.cell 3, x.cell 4, x.cell 5⟩
set_option maxRecDepth 100000 in
theorem hasLiteral_any (b o : Nat) (h : Int × Int × Int × Int × Int) (x : Int) (w : World) (hd : HdAt w b o h) (h1 : 0 ≤ h.1 ∧ h.1 ≤ 60000) (hx : 0 ≤ x ∧ x ≤ 1000000000) :
    Calls Tryd.prog 59 #[.pointer (some ⟨b, o, none⟩), .int .i64 x] w fun e w' => e = .returned (.bool (decide (x < 2 * (h.1 + 1)))) ∧ w' = w := by
  have c0 : w.cell? ⟨b, o, none⟩ = some (.int .i64 h.1) := hd.c0
  obtain ⟨p0, p1, p2, p3, p4⟩ := h
  simp only at *
  have hq : x.tdiv 2 = x / 2 := Int.tdiv_eq_ediv_of_nonneg hx.1
  have e1 : IntKind.i64.wrap (x.tdiv 2) = x / 2 := by rw [hq]; exact wrapI _ (by omega) (by omega)
  have e2 : IntKind.i64.wrap (x / 2) = x / 2 := wrapI _ (by omega) (by omega)
  have hdd : decide (x / 2 ≤ p0) = decide (x < 2 * (p0 + 1)) := by
    by_cases hh : x / 2 ≤ p0
    · have : x < 2 * (p0 + 1) := by omega
      simp [hh, this]
    · have : ¬ x < 2 * (p0 + 1) := by omega
      simp [hh, this]
  have HDD := hidden hdd
  clear hd hdd
  go_enter Tryd.func59, Tryd.ntmps59
  go_wp2
  go_ret
  exact ⟨ret_bool HDD.out, rfl⟩
set_option maxRecDepth 100000 in
theorem gate_any (b o : Nat) (h : Int × Int × Int × Int × Int) (i : Nat) (w : World) (x : HdAt w b o h) (h1 : 0 ≤ h.2.1 ∧ h.2.1 ≤ 60000) (h2 : 0 ≤ h.2.2.1 ∧ h.2.2.1 ≤ 60000) (hi : i ≤ 60000) :
    Calls Tryd.prog 60 #[.pointer (some ⟨b, o, none⟩), .int .i64 i] w fun e w' => e = .returned (.int .i64 (2 * (1 + h.2.1 + h.2.2.1 + i))) ∧ ∃ q, w' = w.drewN q := by
  have c1 := x.c1
  have c2 := x.c2
  obtain ⟨p0, p1, p2, p3, p4⟩ := h
  simp only at *
  have e1 : IntKind.i64.wrap (1 + p1) = 1 + p1 := wrapI _ (by omega) (by omega)
  have e2 : IntKind.i64.wrap (1 + p1 + p2) = 1 + p1 + p2 := wrapI _ (by omega) (by omega)
  have e3 : IntKind.i64.wrap (1 + p1 + p2 + (i : Int)) = 1 + p1 + p2 + (i : Int) := wrapI _ (by omega) (by omega)
  have e4 : IntKind.i64.wrap (2 * (1 + p1 + p2 + (i : Int))) = 2 * (1 + p1 + p2 + (i : Int)) := wrapI _ (by omega) (by omega)
  clear x
  go_enter Tryd.func60, Tryd.ntmps60
  go_wp2_with fail
  go_quiet (fail)
  go_wp2
  go_ret
  exact ⟨rfl, _, rfl⟩


end Go.Proofs.YtdiahnommkhkiaaDoor
