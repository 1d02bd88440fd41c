import Derived.Test.YtdiahnommkhkiaaDoorAqD
namespace Go.Proofs.YtdiahnommkhkiaaDoor
open Go.RowKit

/-- what is behind the last line's end -/
def restOf (T : List UInt8) : List UInt8 := (sp 10 T).2
theorem text_len (T : List UInt8) : offs (linesOf T) (linesOf T).length + (restOf T).length = T.length := by
  unfold linesOf restOf
  induction T using snocInd with
  | nil => rfl
  | snoc l x ih =>
    rw [sp_snoc]
    split
    · simp only [List.length_append, List.length_cons, List.length_nil]
      rw [offs_next _ _ (sp 10 l).2 (by simp)]
      have e : offs ((sp 10 l).1 ++ [(sp 10 l).2]) (sp 10 l).1.length = offs (sp 10 l).1 (sp 10 l).1.length := by
        unfold offs; simp
      rw [e]; omega
    · simp only [List.length_append, List.length_cons, List.length_nil]; omega
theorem offs_lt {T : List UInt8} {n : Nat} (h : n < (linesOf T).length) : offs (linesOf T) n < T.length := by
  have := offs_len n T (by omega)
  omega
/-- lines behind the gates that are right and go on -/
def Names (T : List UInt8) (n m : Nat) : Prop := ∀ (j : Nat) (a : List UInt8), n ≤ j → j < m → (linesOf T)[j]? = some a → a ≠ [99] ∧ nameOk a = true
/-- what stands behind the gates is right -/
def BeOk (T : List UInt8) (n : Nat) : Prop := ∃ m, n ≤ m ∧ Names T n m ∧ ((linesOf T)[m]? = some [99] ∨ (m = (linesOf T).length ∧ restOf T = []))
/-- .. or not, from that line on -/
def BeBad (T : List UInt8) (n m : Nat) : Prop := n ≤ m ∧ Names T n m ∧ ((∃ a, (linesOf T)[m]? = some a ∧ a ≠ [99] ∧ nameOk a = false) ∨ (m = (linesOf T).length ∧ restOf T ≠ []))

set_option maxRecDepth 100000 in
set_option maxHeartbeats 4000000 in
theorem readBehind_any (r : Nat) (T : List UInt8) (n : Nat) (h : Int × Int × Int × Int × Int) (w : World) (x : TxAt w r T n h) (hv : Vars w) (hr2 : 2 ≤ r) :
    Calls Tryd.prog 44 #[.pointer (some ⟨r, 0, none⟩)] w fun e w' =>
      (BeOk T n ∧ e = .returned (.tuple #[]) ∧ w.grownBy w' (some r)) ∨ (∃ m, BeBad T n m ∧ Thr w r ((m + 1 : Nat) : Int) e w') := by
  have hlt : r < w.heap.size := by obtain ⟨⟨bg, q⟩, _⟩ := x; exact q.lt
  have HLN : Hid (T.length ≤ 1048576) := x.len
  have HV := hidden hv
  have H2 : Hid (2 ≤ w.heap.size) := by show _ ≤ _; omega
  have BG : Hid (∀ (m : Nat) w', TxAt w' r T m h → Calls Tryd.prog 50 #[.pointer (some ⟨r, 0, none⟩)] w' fun e w'' => e = .returned (.tuple #[]) ∧ RdAt w'' r ⟨0, h.1, h.2.1, h.2.2.1, h.2.2.2.1, h.2.2.2.2, T, (offs (linesOf T) m : Nat), (m : Int), ((m + 1 : Nat) : Int)⟩ ∧ w'.grownBy w'' (some r)) := fun m w' hx => by
    obtain ⟨⟨bg, q⟩, q2, q3⟩ := hx
    have hm : m ≤ T.length := by have := offs_len 0 T (Nat.zero_le _); omega
    refine (begin_any r _ w' q (by show (0 : Int) ≤ (m : Int) ∧ (m : Int) ≤ 2000000; omega)).mono ?_
    rintro e w'' ⟨he, hr, hg⟩
    have hb : (⟨0, h.1, h.2.1, h.2.2.1, h.2.2.2.1, h.2.2.2.2, T, (offs (linesOf T) m : Nat), (m : Int), bg⟩ : RdS).begun = ((m + 1 : Nat) : Int) := by unfold RdS.begun; rw [if_pos rfl]; show (m : Int) + 1 = _; omega
    rw [hb] at hr
    exact ⟨he, hr, hg⟩
  have LN : Hid (∀ (m : Nat) w', m ≤ (linesOf T).length → RdAt w' r ⟨0, h.1, h.2.1, h.2.2.1, h.2.2.2.1, h.2.2.2.2, T, (offs (linesOf T) m : Nat), (m : Int), ((m + 1 : Nat) : Int)⟩ → w.grownBy w' (some r) → Calls Tryd.prog 52 #[.pointer (some ⟨r, 0, none⟩)] w' fun e w'' =>
      (∃ a, (linesOf T)[m]? = some a ∧ e = .returned (.string (bs a)) ∧ TxAt w'' r T (m + 1) h ∧ RdAt w'' r ⟨0, h.1, h.2.1, h.2.2.1, h.2.2.2.1, h.2.2.2.2, T, (offs (linesOf T) (m + 1) : Nat), ((m + 1 : Nat) : Int), ((m + 1 : Nat) : Int)⟩ ∧ w'.grownBy w'' (some r)) ∨ ((linesOf T)[m]? = none ∧ Thr w' r ((m + 1 : Nat) : Int) e w'')) := fun m w' hm hr hg => by
    have hol := offs_len m T hm
    have hm2 : m ≤ T.length := by have := offs_len 0 T (Nat.zero_le _); omega
    refine (line_at r _ (offs (linesOf T) m) m w' hr (HV.out.grown hg hr2 H2.out) rfl rfl (by show _ ≤ T.length; omega) hm2 HLN.out).mono ?_
    rintro e w'' (⟨a, q1, q2, q3, q4⟩ | ⟨q1, q2⟩)
    · have hL : (linesOf T)[m]? = some a := by rw [← lineAt_off m T hm]; exact q1
      have hR : RdAt w'' r ⟨0, h.1, h.2.1, h.2.2.1, h.2.2.2.1, h.2.2.2.2, T, (offs (linesOf T) (m + 1) : Nat), ((m + 1 : Nat) : Int), ((m + 1 : Nat) : Int)⟩ := by rw [offs_next _ m a hL]; exact q3
      exact Or.inl ⟨a, hL, q2, ⟨⟨_, hR⟩, (List.getElem?_eq_some_iff.1 hL).1, HLN.out⟩, hR, q4⟩
    · exact Or.inr ⟨by rw [← lineAt_off m T hm]; exact q1, q2⟩
  have B0 := hidden (BG.out n w x)
  have HX := hidden x
  clear x hv
  go_enter Tryd.func44, Tryd.ntmps44
  go_wp2_with fail
  go_at_call 50
  refine B0.out.mono ?_
  rintro e w0 ⟨rfl, hr0, hg0⟩
  have HT0 : Hid (TxAt w0 r T n h) := ⟨⟨_, hr0⟩, HX.out.le, HLN.out⟩
  have HG0 := hidden hg0
  clear hr0 hg0 B0
  go_wp2_with fail
  go_loopg [] ((linesOf T).length - n) (fun gk w' => ∃ (m : Nat), n ≤ m ∧ m ≤ (linesOf T).length ∧ gk = (linesOf T).length - m ∧ Hid (Names T n m) ∧ Hid (TxAt w' r T m h) ∧ Hid (w.grownBy w' (some r)))
  case atStart => exact ⟨n, Nat.le_refl _, HX.out.le, rfl, fun j a h1 h2 => absurd h1 (by omega), HT0.out, HG0.out⟩
  case round =>
    obtain ⟨m, hnm, hml, hgk, HN, HT, HG⟩ := hrel
    clear HT0 HG0
    have hbz := bs_size T
    have hol := offs_len m T hml
    have c6 : wr.cell? ⟨r, 6, none⟩ = some (.string (bs T)) := by obtain ⟨⟨bg, q⟩, _⟩ := HT.out; exact q.cell 6
    have c7 : wr.cell? ⟨r, 7, none⟩ = some (.int .i64 (offs (linesOf T) m : Nat)) := by obtain ⟨⟨bg, q⟩, _⟩ := HT.out; exact q.cell 7
    have HTL := hidden (text_len T)
    by_cases hmore : offs (linesOf T) m < T.length
    · have hoI : ((offs (linesOf T) m : Nat) : Int) < (T.length : Int) := by omega
      have BGm := BG.out m
      have LNm := hidden (fun w' => LN.out m w' hml)
      have HBM := hidden BGm
      have HAL : Hid (∀ a, (linesOf T)[m]? = some a → a.length ≤ 1048576) := fun a q1 => by
        have h0 := (List.getElem?_eq_some_iff.1 q1).1
        have h1 := offs_len (m + 1) T h0
        have h2 := offs_next _ m a q1
        have h3 := HLN.out
        omega
      have HOB : Hid (m = (linesOf T).length → restOf T ≠ []) := fun he hr => by
        have := HTL.out
        rw [hr, ← he] at this
        simp at this; omega
      generalize offs (linesOf T) m = om at *
      generalize T.length = tl at *
      generalize bs T = sT at *
      go_wp2_with fail
      go_quiet (fail)
      clear c6 c7
      generalize hdw : World.drewN wr _ = wd at *
      have HTd : Hid (TxAt wd r T m h) := by rw [← hdw]; exact HT.out.to (Below.drewN (Below.refl _ _) _)
      have HGd : Hid (w.grownBy wd (some r)) := by rw [← hdw]; exact grown_trans HG.out (gbel (Below.drewN (Below.refl _ _) _) _)
      have c0 : wd.cell? ⟨r, 0, none⟩ = some (.int .i64 0) := by obtain ⟨⟨bg, q⟩, _⟩ := HTd.out; exact q.cell 0
      have B1 := hidden (HBM.out wd HTd.out)
      clear hdw HT HG BGm HBM
      go_wp2_with fail
      go_at_call 50
      refine B1.out.mono ?_
      rintro e w1 ⟨rfl, hr1, hg1⟩
      have HG1 : Hid (w.grownBy w1 (some r)) := grown_trans HGd.out hg1
      have L1 := hidden (LNm.out w1 hr1 HG1.out)
      clear hr1 hg1 B1 c0 LNm
      go_wp2_with fail
      go_at_call 52
      refine L1.out.mono ?_
      rintro e w2 (⟨a, q1, rfl, q2, q3, q4⟩ | ⟨q1, p0, rfl, hp1, hp2, hp3⟩)
      · have hmlt : m < (linesOf T).length := (List.getElem?_eq_some_iff.1 q1).1
        have HL := hidden q1
        have HT2 := hidden q2
        have HR2 := hidden q3
        have HG2 : Hid (w.grownBy w2 (some r)) := grown_trans HG1.out q4
        have hal : a.length ≤ 1048576 := HAL.out a q1
        have hce : ((bs a).toList == [99]) = decide (a = [99]) := by rw [bs_toList]; by_cases hx : a = [99] <;> simp [hx]
        have IN := hidden (isName_any a hal w2 (HV.out.grown HG2.out hr2 H2.out))
        clear q1 q2 q3 q4 L1
        generalize bs a = sa at *
        by_cases hac : a = [99]
        · have hd : decide (a = [99]) = true := by simp [hac]
          rw [hd] at hce
          have HOK : Hid (BeOk T n) := ⟨m, hnm, HN.out, Or.inl (by rw [HL.out, hac])⟩
          go_wp2
          first | go_end0 | refine bodyPost_ret (results_none rfl _ _ _) rfl ?_
          exact Or.inl ⟨HOK.out, rfl, HG2.out⟩
        · have hd : decide (a = [99]) = false := by simp [hac]
          rw [hd] at hce
          obtain ⟨b, HB⟩ : ∃ b, Hid (nameOk a = b) := ⟨_, rfl⟩
          rw [HB.out] at IN
          go_wp2_with fail
          go_at_call 62
          refine IN.out.mono ?_
          rintro e w3 ⟨rfl, hb3⟩
          have HT3 := hidden (HT2.out.to hb3)
          have HG3 : Hid (w.grownBy w3 (some r)) := grown_trans HG2.out (gbel hb3 _)
          have MU := hidden (must_any r _ b w3 (HR2.out.to hb3))
          clear hb3 IN
          go_wp2_with fail
          go_at_call 53
          refine MU.out.mono ?_
          rintro e w4 (⟨rfl, rfl, rfl⟩ | ⟨rfl, p0, rfl, hp1, hp2, hp3⟩)
          · have HN2 : Hid (Names T n (m + 1)) := fun j c h1 h2 h3 => by
              rcases Nat.lt_or_ge j m with h' | h'
              · exact HN.out j c h1 h' h3
              · have : j = m := by omega
                subst this
                rw [HL.out] at h3
                cases h3
                exact ⟨hac, HB.out⟩
            clear MU HN
            go_wp2
            go_roundg ((linesOf T).length - (m + 1))
            case measure => omega
            case rel => exact ⟨m + 1, by omega, hmlt, rfl, HN2.out, HT3.out, HG3.out⟩
          · have H1 := hidden hp1
            have H2' := hidden hp2
            have H3 := hidden hp3
            have HBD : Hid (BeBad T n m) := ⟨hnm, HN.out, Or.inl ⟨a, HL.out, hac, HB.out⟩⟩
            clear hp1 hp2 hp3 MU
            unfold thrown
            go_wp2
            have hTh : Thr w r ((m + 1 : Nat) : Int) (thrown p0) w4 := ⟨p0, rfl, H1.out, Nat.le_trans HG3.out.size H2'.out, grown_trans HG3.out H3.out⟩
            first | exact ⟨rfl, Or.inr ⟨m, HBD.out, hTh⟩⟩ | exact Or.inr ⟨m, HBD.out, hTh⟩
      · have H1 := hidden hp1
        have H2' := hidden hp2
        have H3 := hidden hp3
        have HBD : Hid (BeBad T n m) := by
          have hme : m = (linesOf T).length := by
            rcases Nat.lt_or_ge m (linesOf T).length with h' | h'
            · rw [List.getElem?_eq_getElem h'] at q1; cases q1
            · omega
          exact ⟨hnm, HN.out, Or.inr ⟨hme, HOB.out hme⟩⟩
        clear hp1 hp2 hp3 L1 q1
        unfold thrown
        go_wp2
        have hTh : Thr w r ((m + 1 : Nat) : Int) (thrown p0) w2 := ⟨p0, rfl, H1.out, Nat.le_trans HG1.out.size H2'.out, grown_trans HG1.out H3.out⟩
        first | exact ⟨rfl, Or.inr ⟨m, HBD.out, hTh⟩⟩ | exact Or.inr ⟨m, HBD.out, hTh⟩
    · have hoI : ¬ ((offs (linesOf T) m : Nat) : Int) < (T.length : Int) := by omega
      have HOK : Hid (BeOk T n) := by
        have h1 := HTL.out
        have hme : m = (linesOf T).length := by
          rcases Nat.lt_or_ge m (linesOf T).length with h' | h'
          · exact absurd (offs_lt h') hmore
          · omega
        refine ⟨m, hnm, HN.out, Or.inr ⟨hme, ?_⟩⟩
        rw [hme] at hmore
        exact List.eq_nil_of_length_eq_zero (by omega)
      generalize offs (linesOf T) m = om at *
      generalize T.length = tl at *
      generalize bs T = sT at *
      go_wp2_with fail
      go_quiet (fail)
      clear c6 c7
      go_wp2
      first | go_end0 | refine bodyPost_ret (results_none rfl _ _ _) rfl ?_
      exact Or.inl ⟨HOK.out, rfl, grown_trans HG.out (gbel (Below.drewN (Below.refl _ _) _) _)⟩

end Go.Proofs.YtdiahnommkhkiaaDoor
