import Derived.Test.YtibjgoigdajkkaaDoorJ36
import Derived.Test.YtibjgoigdajkkaaDoorJ31
import Derived.Test.YtibjgoigdajkkaaDoorJ33
namespace Go.Proofs.YtibjgoigdajkkaaDoor
open Go.RowKit

theorem whr_src (ni si nr : Nat) (s : Int) (hs : ni ≤ si) : 0 ≤ whr (srcB ni si nr) s ∧ whr (srcB ni si nr) s < ((2 + si + nr : Nat) : Int) := by
  unfold whr
  cases h : srcB ni si nr s with
  | none => exact ⟨Int.le_refl _, by simp; omega⟩
  | some x =>
    show 0 ≤ x ∧ x < _
    rcases srcB_spec _ _ _ h with ⟨_, rfl⟩ | ⟨_, rfl⟩ | ⟨i, hi, _, rfl⟩ | ⟨i, hi, _, rfl⟩ <;> omega
theorem whr_rows (sig : Nat → Nat) (hl : List Nat) (k rows : Nat) (s : Int) (hk : k ≤ rows) : 0 ≤ whr (rowsK sig hl k) s ∧ whr (rowsK sig hl k) s < ((2 + rows : Nat) : Int) := by
  unfold whr
  cases h : rowsK sig hl k s with
  | none => exact ⟨Int.le_refl _, by simp; omega⟩
  | some x =>
    show 0 ≤ x ∧ x < _
    rcases rowsK_spec _ _ _ h with ⟨_, rfl⟩ | ⟨_, rfl⟩ | ⟨i, hi, _, rfl⟩ <;> omega
theorem whr_any {D : PnS} {T : PnT} {ni si nr rr rows c : Nat} (hs : ni ≤ si) (hr : nr ≤ rr) (hrow : ∀ c, c < D.cc → (heldK D T D.n c).length ≤ rows) (hc : c ≤ D.cc) (s : Int) : 0 ≤ whr (whF D T ni si nr c) s ∧ whr (whF D T ni si nr c) s < ((if c = 0 then 2 + si + rr else 2 + rows : Nat) : Int) := by
  cases c with
  | zero => have := whr_src ni si nr s hs; rw [if_pos rfl]; exact ⟨this.1, by have := this.2; show whr (srcB ni si nr) s < _; omega⟩
  | succ c => rw [if_neg (by omega)]; exact whr_rows _ _ _ _ s (hrow c (by omega))
theorem ceK_bits (f : Int → Option Int) (d : TbD) (k : Nat) (hk : k ≤ 4) : (ceK f d k).bits = d.bits := by
  induction k with
  | zero => rfl
  | succ k ih =>
    have := ih (by omega)
    have h4 : k = 0 ∨ k = 1 ∨ k = 2 ∨ k = 3 := by omega
    unfold ceK
    rcases h4 with rfl | rfl | rfl | rfl <;> exact this
theorem ceK_sel (f : Int → Option Int) (d : TbD) (m : Int) (hm : 0 < m) (h : ∀ s, 0 ≤ whr f s ∧ whr f s < m) (k : Nat) (hk : k ≤ 4) : (0 ≤ (ceK f d k).s0 ∧ (ceK f d k).s0 < m) ∧ (0 ≤ (ceK f d k).s1 ∧ (ceK f d k).s1 < m) ∧ (0 ≤ (ceK f d k).s2 ∧ (ceK f d k).s2 < m) ∧ (0 ≤ (ceK f d k).s3 ∧ (ceK f d k).s3 < m) := by
  induction k with
  | zero => exact ⟨⟨Int.le_refl _, hm⟩, ⟨Int.le_refl _, hm⟩, ⟨Int.le_refl _, hm⟩, ⟨Int.le_refl _, hm⟩⟩
  | succ k ih =>
    obtain ⟨h0, h1, h2, h3⟩ := ih (by omega)
    have hw := h (d.ins.getD k 0)
    have h4 : k = 0 ∨ k = 1 ∨ k = 2 ∨ k = 3 := by omega
    unfold ceK
    rcases h4 with rfl | rfl | rfl | rfl
    · exact ⟨hw, h1, h2, h3⟩
    · exact ⟨h0, hw, h2, h3⟩
    · exact ⟨h0, h1, hw, h3⟩
    · exact ⟨h0, h1, h2, hw⟩
/-- each cell that is laid is right -/
theorem rowC_ok {D : PnS} {T : PnT} {N : NtD} {f : Int → Option Int} {c : Nat} {hl : List Nat} {k r : Nat} (hin : NtIn N) (hbits : ∀ d, d ∈ N.tabs → d.bits < 65536) (m : Int) (hm : 0 < m) (h : ∀ s, 0 ≤ whr f s ∧ whr f s < m) : CeD.ok m (rowC D T N f c hl k r) = true := by
  have hz : ∀ d : CeD, (0 ≤ d.bits ∧ d.bits < 65536) → (0 ≤ d.s0 ∧ d.s0 < m) → (0 ≤ d.s1 ∧ d.s1 < m) → (0 ≤ d.s2 ∧ d.s2 < m) → (0 ≤ d.s3 ∧ d.s3 < m) → CeD.ok m d = true := fun d a b c e g => by
    unfold CeD.ok inR
    rw [decide_eq_true a, decide_eq_true b, decide_eq_true c, decide_eq_true e, decide_eq_true g]; rfl
  have h00 : (0 : Int) ≤ 0 ∧ (0 : Int) < m := ⟨Int.le_refl _, hm⟩
  unfold rowC
  by_cases hr : r < k
  · rw [if_pos hr]
    unfold ceO
    by_cases hc : T.col (hl.getD r 0) < (c : Int)
    · rw [if_pos hc]
      exact hz _ ⟨show (0 : Int) ≤ 2 by decide, show (2 : Int) < 65536 by decide⟩ (h _) h00 h00 h00
    · rw [if_neg hc]
      unfold tabOf
      cases e : N.tabs[D.sig (hl.getD r 0) - N.first.toNat]? with
      | none =>
        rw [List.getD_eq_getElem?_getD, e]
        exact hz _ ⟨show (0 : Int) ≤ 0 by decide, show (0 : Int) < 65536 by decide⟩ h00 h00 h00 h00
      | some d =>
        rw [getD_of e]
        have hd := hin.t4 d (List.mem_of_getElem? e)
        obtain ⟨s0, s1, s2, s3⟩ := ceK_sel f d m hm h d.ins.length hd.1
        exact hz _ ⟨by show 0 ≤ (ceK f d d.ins.length).bits; rw [ceK_bits f d _ hd.1]; exact hd.2, by show (ceK f d d.ins.length).bits < _; rw [ceK_bits f d _ hd.1]; exact hbits d (List.mem_of_getElem? e)⟩ s0 s1 s2 s3
  · rw [if_neg hr]
    exact hz _ ⟨by decide, by decide⟩ h00 h00 h00 h00
theorem laid_ok {D : PnS} {T : PnT} {N : NtD} {ni si nr rr so rows : Nat} {M : CnD} (h : LaidP D T N ni si nr rr so rows M) (hin : NtIn N) (hbits : ∀ d, d ∈ N.tabs → d.bits < 65536) (hs : ni ≤ si) (hr : nr ≤ rr) (hok : D.sh.ok = true) (hcc : D.sh.cols = D.cc) (hc1 : 1 ≤ D.cc) (hrw : D.sh.rows = rows) (hrg : D.sh.regs = rr) (hot : D.sh.outs = so) (hrow : ∀ c, c < D.cc → (heldK D T D.n c).length ≤ rows) : CnOk M = true := by
  have hw := fun c hc s => whr_any (D := D) (T := T) (ni := ni) (si := si) (nr := nr) (rr := rr) (rows := rows) (c := c) hs hr hrow hc s
  have hlast : ∀ s, 0 ≤ whr (whF D T ni si nr D.cc) s ∧ whr (whF D T ni si nr D.cc) s < M.sh.src (-1) := fun s => by
    have := hw D.cc (Nat.le_refl _) s
    rw [if_neg (by omega)] at this
    rw [h.sh]
    unfold ShD.src
    rw [if_neg (by omega), hrw]
    exact ⟨this.1, by have := this.2; omega⟩
  have hpos : 0 < M.sh.src (-1) := by have := hlast 0; omega
  unfold CnOk
  rw [Bool.and_eq_true, Bool.and_eq_true, Bool.and_eq_true, Bool.and_eq_true]
  refine ⟨⟨⟨⟨by rw [h.sh]; exact hok, ?_⟩, ?_⟩, ?_⟩, ?_⟩
  · unfold CnD.lens
    rw [h.sh, h.nc, hcc, h.rg, h.ou, tabL_len, tabL_len, hrg, hot]
    simp
  · rw [List.all_eq_true]
    intro c hc
    have hcl : c < M.cols.length := List.mem_range.1 hc
    obtain ⟨d, hd⟩ := getElem_lt hcl
    rw [colOk_of hd, h.col c d hd, Bool.and_eq_true]
    refine ⟨?_, ?_⟩
    · unfold colL; rw [List.length_map, List.length_range, h.sh, hrw]; simp
    · rw [List.all_eq_true]
      intro e he
      unfold colL at he
      obtain ⟨r, _, rfl⟩ := List.mem_map.1 he
      have hcc2 : c ≤ D.cc := by rw [h.nc] at hcl; omega
      have hm : ∀ s, 0 ≤ whr (whF D T ni si nr c) s ∧ whr (whF D T ni si nr c) s < M.sh.src c := fun s => by
        have := hw c hcc2 s
        rw [h.sh]
        unfold ShD.src
        by_cases e : c = 0
        · subst e
          rw [if_pos rfl] at this
          rw [if_pos (show ((0 : Nat) : Int) = 0 from rfl), h.hsi, hrg]
          exact ⟨this.1, by have := this.2; omega⟩
        · rw [if_neg e] at this
          rw [if_neg (by omega), hrw]
          exact ⟨this.1, by have := this.2; omega⟩
      exact rowC_ok hin hbits _ (by have := hm 0; omega) hm
  · rw [h.rg, List.all_eq_true]
    intro e he
    unfold tabL at he
    obtain ⟨k, _, rfl⟩ := List.mem_map.1 he
    unfold RgD.ok inR regF
    split
    · exact decide_eq_true (hlast _)
    · exact decide_eq_true ⟨Int.le_refl _, hpos⟩
  · rw [h.ou, List.all_eq_true]
    intro e he
    unfold tabL at he
    obtain ⟨k, _, rfl⟩ := List.mem_map.1 he
    unfold inR outF
    split
    · exact decide_eq_true (hlast _)
    · exact decide_eq_true ⟨Int.le_refl _, hpos⟩
/-- .. in numbers -/
theorem ok_fit {M : CnD} (h : CnOk M = true) : ∃ ni nr nw : Nat, FitN M ni nr nw ∧ (∀ d, d ∈ M.cols → ∀ e, e ∈ d.cs → 0 ≤ e.bits) ∧ M.cols.length ≤ 100 := by
  unfold CnOk at h
  rw [Bool.and_eq_true, Bool.and_eq_true, Bool.and_eq_true, Bool.and_eq_true] at h
  obtain ⟨⟨⟨⟨h1, h2⟩, h3⟩, h4⟩, h5⟩ := h
  unfold ShD.ok wi at h1
  simp only [Bool.and_eq_true, decide_eq_true_eq] at h1
  unfold CnD.lens at h2
  simp only [Bool.and_eq_true, decide_eq_true_eq] at h2
  have hsr : M.sh.src (-1) = 2 + M.sh.rows := by unfold ShD.src; rw [if_neg (by omega)]
  have hcol : ∀ (k : Nat) (d : ClD), M.cols[k]? = some d → (d.cs.length : Int) = M.sh.rows ∧ ∀ e, e ∈ d.cs → CeD.ok (M.sh.src k) e = true := fun k d hd => by
    have := List.all_eq_true.1 h3 k (List.mem_range.2 (List.getElem?_eq_some_iff.1 hd).1)
    rw [colOk_of hd, Bool.and_eq_true] at this
    exact ⟨of_decide_eq_true this.1, List.all_eq_true.1 this.2⟩
  have hce : ∀ m (e : CeD), CeD.ok m e = true → (0 ≤ e.bits ∧ e.bits < 65536) ∧ (0 ≤ e.s0 ∧ e.s0 < m) ∧ (0 ≤ e.s1 ∧ e.s1 < m) ∧ (0 ≤ e.s2 ∧ e.s2 < m) ∧ (0 ≤ e.s3 ∧ e.s3 < m) := fun m e he => by
    unfold CeD.ok inR at he
    simp only [Bool.and_eq_true, decide_eq_true_eq] at he
    exact ⟨he.1.1.1.1, he.1.1.1.2, he.1.1.2, he.1.2, he.2⟩
  refine ⟨M.sh.ins.toNat, M.sh.regs.toNat, M.sh.rows.toNat, ⟨by omega, by omega, by omega, by omega, by omega, by omega, by omega, by omega, by omega, fun d hd => ?_, fun k d hd e he => ?_, fun d hd => ?_, fun s hs => ?_⟩, fun d hd e he => ?_, by omega⟩
  · obtain ⟨k, hk⟩ := List.getElem?_of_mem hd
    have := (hcol k d hk).1
    omega
  · obtain ⟨_, a, b, c, f⟩ := hce _ e ((hcol k d hd).2 e he)
    have hk : M.sh.src k = ((if k = 0 then 2 + M.sh.ins.toNat + M.sh.regs.toNat else 2 + M.sh.rows.toNat : Nat) : Int) := by
      unfold ShD.src
      by_cases e : k = 0
      · subst e; rw [if_pos (show ((0 : Nat) : Int) = 0 from rfl), if_pos rfl]; omega
      · rw [if_neg (by omega), if_neg e]; omega
    rw [hk] at a b c f
    exact ⟨⟨a.1, b.1, c.1, f.1⟩, a.2, b.2, c.2, f.2⟩
  · have := List.all_eq_true.1 h4 d hd
    unfold RgD.ok inR at this
    have := of_decide_eq_true this
    rw [hsr] at this
    omega
  · have := List.all_eq_true.1 h5 s hs
    unfold inR at this
    have := of_decide_eq_true this
    rw [hsr] at this
    omega
  · obtain ⟨k, hk⟩ := List.getElem?_of_mem hd
    exact (hce _ e ((hcol k d hk).2 e he)).1.1


end Go.Proofs.YtibjgoigdajkkaaDoor

namespace Go.Proofs.YtibjgoigdajkkaaDoor
open Go.RowKit

theorem ndD_next (N : NtD) (F tt j : Nat) {d : TbD} (hd : N.tabs[N.tabs.length - 1 - j]? = some d) : ndD N F tt (j + 1) = if (ndD N F tt j).getD (F + (N.tabs.length - 1 - j)) false = true then markL d.ins (ndD N F tt j) else ndD N F tt j := by
  show (match N.tabs[N.tabs.length - 1 - j]? with | some d => if (ndD N F tt j).getD (F + (N.tabs.length - 1 - j)) false = true then markL d.ins (ndD N F tt j) else ndD N F tt j | none => ndD N F tt j) = _
  rw [hd]
theorem ndD_mono (N : NtD) (F tt j s : Nat) (h : (ndD N F tt j).getD s false = true) (hs : s < tt) : (ndD N F tt (j + 1)).getD s false = true := by
  show (match N.tabs[N.tabs.length - 1 - j]? with | some d => if (ndD N F tt j).getD (F + (N.tabs.length - 1 - j)) false = true then markL d.ins (ndD N F tt j) else ndD N F tt j | none => ndD N F tt j).getD s false = true
  split
  · split
    · exact (markL_get _ _ _ (by rw [ndD_len]; exact hs)).2 (Or.inl h)
    · exact h
  · exact h
theorem ndD_up (N : NtD) (F tt : Nat) {i j s : Nat} (hij : i ≤ j) (h : (ndD N F tt i).getD s false = true) (hs : s < tt) : (ndD N F tt j).getD s false = true := by
  induction j with
  | zero => rw [show i = 0 by omega] at h; exact h
  | succ j ih =>
    by_cases e : i = j + 1
    · rw [← e]; exact h
    · exact ndD_mono N F tt j s (ih (by omega)) hs
/-- what is marked later than table t was looked at lies ahead of it -/
theorem ndD_keep {N : NtD} (hin : NtIn N) {F tt : Nat} (hF : N.first = F) {t : Nat} (ht : F + t < tt) {i j : Nat} (hij : i ≤ j) (hi : N.tabs.length - 1 - i ≤ t) (hj : j ≤ N.tabs.length) (h : (ndD N F tt j).getD (F + t) false = true) : (ndD N F tt i).getD (F + t) false = true := by
  induction j with
  | zero => rw [show i = 0 by omega]; exact h
  | succ j ih =>
    by_cases e : i = j + 1
    · rw [e]; exact h
    · refine ih (by omega) (by omega) ?_
      obtain ⟨d, hd⟩ := getElem_lt (show N.tabs.length - 1 - j < N.tabs.length by omega)
      rw [ndD_next N F tt j hd] at h
      split at h
      · rcases (markL_get _ _ _ (by rw [ndD_len]; exact ht)).1 h with h | ⟨s, hs, h2⟩
        · exact h
        · have := hin.ti _ d hd s hs
          rw [hF] at this
          omega
      · exact h
theorem nd_end {N : NtD} {F tt : Nat} {s : Int} (hs : s ∈ N.outs ++ N.next) (ht : s.toNat < tt) : (ndF N F tt).getD s.toNat false = true := by
  unfold ndF
  refine ndD_up N F tt (i := 0) (Nat.zero_le _) ?_ ht
  show (markL (N.outs ++ N.next) (List.replicate tt false)).getD s.toNat false = true
  exact (markL_get _ _ _ (by rw [List.length_replicate]; exact ht)).2 (Or.inr ⟨s, hs, rfl⟩)
/-- what a needed table takes is needed -/
theorem nd_take {N : NtD} (hin : NtIn N) {F tt : Nat} (hF : N.first = F) (htt : F + N.tabs.length = tt) {t : Nat} {d : TbD} (hd : N.tabs[t]? = some d) (h : (ndF N F tt).getD (F + t) false = true) {s : Int} (hs : s ∈ d.ins) : (ndF N F tt).getD s.toNat false = true := by
  have htl := (List.getElem?_eq_some_iff.1 hd).1
  have hb := hin.ti t d hd s hs
  rw [hF] at hb
  have hk := ndD_keep hin hF (t := t) (tt := tt) (by omega) (i := N.tabs.length - 1 - t) (j := N.tabs.length) (by omega) (by omega) (Nat.le_refl _) h
  unfold ndF
  refine ndD_up N F tt (i := N.tabs.length - 1 - t + 1) (by omega) ?_ (by omega)
  have ei : N.tabs.length - 1 - (N.tabs.length - 1 - t) = t := by omega
  rw [ndD_next N F tt _ (d := d) (by rw [ei]; exact hd), ei, if_pos hk]
  exact (markL_get _ _ _ (by rw [ndD_len]; omega)).2 (Or.inr ⟨s, hs, rfl⟩)
/-- why a signal is needed -/
theorem nd_why {N : NtD} (F tt : Nat) {s : Nat} (hs : s < tt) (htt : F + N.tabs.length = tt) (h : (ndF N F tt).getD s false = true) : (∃ e, e ∈ N.outs ++ N.next ∧ e.toNat = s) ∨ ∃ t d, N.tabs[t]? = some d ∧ (ndF N F tt).getD (F + t) false = true ∧ ∃ e, e ∈ d.ins ∧ e.toNat = s := by
  have key : ∀ j, j ≤ N.tabs.length → (ndD N F tt j).getD s false = true → (∃ e, e ∈ N.outs ++ N.next ∧ e.toNat = s) ∨ ∃ t d, N.tabs[t]? = some d ∧ (ndF N F tt).getD (F + t) false = true ∧ ∃ e, e ∈ d.ins ∧ e.toNat = s := by
    intro j
    induction j with
    | zero =>
      intro _ h
      rcases (markL_get _ _ _ (by rw [List.length_replicate]; exact hs)).1 (show (markL (N.outs ++ N.next) (List.replicate tt false)).getD s false = true from h) with h | h
      · rw [List.getD_eq_getElem?_getD, List.getElem?_replicate_of_lt hs] at h; cases h
      · exact Or.inl h
    | succ j ih =>
      intro hj h
      obtain ⟨d, hd⟩ := getElem_lt (show N.tabs.length - 1 - j < N.tabs.length by omega)
      rw [ndD_next N F tt j hd] at h
      split at h
      · rename_i hm
        rcases (markL_get _ _ _ (by rw [ndD_len]; exact hs)).1 h with h | ⟨e, he, h2⟩
        · exact ih (by omega) h
        · exact Or.inr ⟨_, d, hd, ndD_up N F tt (show j ≤ N.tabs.length by omega) hm (by omega), e, he, h2⟩
      · exact ih (by omega) h
  exact key _ (Nat.le_refl _) h
/-! the list of the needed -/
theorem mem_needK {N : NtD} {F tt k s : Nat} : s ∈ needK N F tt k ↔ s < k ∧ 2 ≤ s ∧ (ndF N F tt).getD s false = true := by
  unfold needK
  rw [List.mem_filter, List.mem_range, Bool.and_eq_true, decide_eq_true_eq]
/-- going up -/
def Asc (L : List Nat) : Prop := ∀ i j, i < j → j < L.length → L.getD i 0 < L.getD j 0
theorem range_asc (k : Nat) (p : Nat → Bool) : Asc ((List.range k).filter p) ∧ ∀ x, x ∈ (List.range k).filter p → x < k := by
  induction k with
  | zero => exact ⟨fun i j _ hj => by simp at hj, fun x hx => by simp at hx⟩
  | succ k ih =>
    rw [List.range_succ, List.filter_append]
    by_cases hp : p k = true
    · have e : [k].filter p = [k] := by simp [hp]
      rw [e]
      refine ⟨fun i j hij hj => ?_, fun x hx => ?_⟩
      · rw [List.length_append, List.length_singleton] at hj
        by_cases h : j < ((List.range k).filter p).length
        · have := ih.1 i j hij h
          simp only [List.getD_eq_getElem?_getD] at this ⊢
          rw [List.getElem?_append_left h, List.getElem?_append_left (by omega)]
          exact this
        · have hj2 : j = ((List.range k).filter p).length := by omega
          obtain ⟨y, hy⟩ := getElem_lt (show i < ((List.range k).filter p).length by omega)
          have := ih.2 y (List.mem_of_getElem? hy)
          simp only [List.getD_eq_getElem?_getD]
          rw [List.getElem?_append_left (by omega), hy, hj2, List.getElem?_append_right (Nat.le_refl _)]
          simpa using this
      · rcases List.mem_append.1 hx with h | h
        · have := ih.2 x h; omega
        · rw [List.mem_singleton.1 h]; omega
    · have e : [k].filter p = [] := by simp [hp]
      rw [e, List.append_nil]
      exact ⟨ih.1, fun x hx => by have := ih.2 x hx; omega⟩
theorem needK_asc (N : NtD) (F tt k : Nat) : Asc (needK N F tt k) := (range_asc _ _).1
theorem Asc.inj {L : List Nat} (h : Asc L) {i j : Nat} (hi : i < L.length) (hj : j < L.length) (e : L.getD i 0 = L.getD j 0) : i = j := by
  by_cases h1 : i < j
  · have := h i j h1 hj; omega
  · by_cases h2 : j < i
    · have := h j i h2 hi; omega
    · omega
theorem Asc.lt {L : List Nat} (h : Asc L) {i j : Nat} (hi : i < L.length) (e : L.getD i 0 < L.getD j 0) (hj : j < L.length) : i < j := by
  by_cases h1 : i < j
  · exact h1
  · by_cases h2 : j < i
    · have := h j i h2 hi; omega
    · have : i = j := by omega
      subst this; omega
theorem needK_get {N : NtD} {F tt i : Nat} (hi : i < (needK N F tt tt).length) : (needK N F tt tt).getD i 0 < tt ∧ 2 ≤ (needK N F tt tt).getD i 0 ∧ (ndF N F tt).getD ((needK N F tt tt).getD i 0) false = true := by
  obtain ⟨y, hy⟩ := getElem_lt hi
  rw [getD_of hy]
  exact mem_needK.1 (List.mem_of_getElem? hy)
theorem needK_len (N : NtD) (F tt : Nat) : (needK N F tt tt).length ≤ tt - 2 := by
  unfold needK
  rw [cnt_filter]
  have : ∀ k, cntP k (fun s => decide (2 ≤ s) && (ndF N F tt).getD s false) ≤ k - 2 := by
    intro k
    induction k with
    | zero => exact Nat.le_refl _
    | succ k ih =>
      unfold cntP
      by_cases h : 2 ≤ k
      · split <;> omega
      · rw [if_neg (by simp; omega)]; omega
  exact this tt
/-- items by their signals -/
def bkK (L : List Nat) : Nat → Int → Option Int
  | 0 => fun _ => none
  | k + 1 => updI (bkK L k) ((L.getD k 0 : Nat) : Int) (k : Int)
theorem bkK_spec (L : List Nat) (k : Nat) {s x : Int} (h : bkK L k s = some x) : ∃ j : Nat, j < k ∧ s = (L.getD j 0 : Nat) ∧ x = (j : Int) := by
  induction k with
  | zero => cases h
  | succ k ih =>
    unfold bkK updI at h
    split at h
    · rename_i e
      exact ⟨k, by omega, e, by simpa using h.symm⟩
    · obtain ⟨j, h1, h2, h3⟩ := ih h
      exact ⟨j, by omega, h2, h3⟩
theorem bkK_some {L : List Nat} (hA : Asc L) {k j : Nat} (hk : k ≤ L.length) (hj : j < k) : bkK L k (L.getD j 0 : Nat) = some (j : Int) := by
  induction k with
  | zero => omega
  | succ k ih =>
    unfold bkK updI
    by_cases e : j = k
    · rw [if_pos (by rw [e]), e]
    · rw [if_neg (fun h => e (hA.inj (by omega) (by omega) (by omega)))]
      exact ih (by omega) (by omega)
/-- so many of the first items are sources -/
def fsK (L : List Nat) (F : Nat) : Nat → Nat
  | 0 => 0
  | k + 1 => if L.getD k 0 < F then k + 1 else fsK L F k
theorem fsK_le (L : List Nat) (F k : Nat) : fsK L F k ≤ k := by
  induction k with
  | zero => exact Nat.le_refl _
  | succ k ih => unfold fsK; split <;> omega
theorem fsK_spec {L : List Nat} (hA : Asc L) {F k : Nat} (hk : k ≤ L.length) : ∀ i, i < k → (i < fsK L F k ↔ L.getD i 0 < F) := by
  induction k with
  | zero => intro i hi; omega
  | succ k ih =>
    intro i hi
    unfold fsK
    by_cases e : L.getD k 0 < F
    · rw [if_pos e]
      refine ⟨fun _ => ?_, fun _ => hi⟩
      by_cases e2 : i = k
      · rw [e2]; exact e
      · have := hA i k (by omega) (by omega); omega
    · rw [if_neg e]
      by_cases e2 : i = k
      · have := fsK_le L F k
        rw [e2]
        exact ⟨fun h => by omega, fun h => absurd h e⟩
      · exact ih (by omega) i (by omega)
/-- which items are ends, so many of the list looked at -/
def enK (L : List Nat) (n : Nat) (E : List Int) : Nat → Nat → Bool
  | 0 => fun _ => false
  | m + 1 => match bkK L n (E.getD m 0) with
    | some x => upd (enK L n E m) x.toNat true
    | none => enK L n E m
theorem enK_spec (L : List Nat) (n : Nat) (E : List Int) (m i : Nat) : enK L n E m i = true ↔ ∃ j : Nat, j < m ∧ bkK L n (E.getD j 0) = some (i : Int) := by
  induction m with
  | zero => exact ⟨fun h => (by cases h), fun ⟨j, h, _⟩ => (by omega)⟩
  | succ m ih =>
    have e : enK L n E (m + 1) = match bkK L n (E.getD m 0) with | some x => upd (enK L n E m) x.toNat true | none => enK L n E m := rfl
    rw [e]
    cases hb : bkK L n (E.getD m 0) with
    | none =>
      dsimp only
      rw [ih]
      constructor
      · rintro ⟨j, h1, h2⟩; exact ⟨j, by omega, h2⟩
      · rintro ⟨j, h1, h2⟩
        by_cases e : j = m
        · rw [e, hb] at h2; cases h2
        · exact ⟨j, by omega, h2⟩
    | some x =>
      dsimp only
      obtain ⟨jx, _, _, hx⟩ := bkK_spec L n hb
      show (if i = x.toNat then true else enK L n E m i) = true ↔ _
      by_cases e : i = x.toNat
      · rw [if_pos e]
        exact ⟨fun _ => ⟨m, by omega, by rw [hb, e, hx]; simp⟩, fun _ => rfl⟩
      · rw [if_neg e, ih]
        constructor
        · rintro ⟨j, h1, h2⟩; exact ⟨j, by omega, h2⟩
        · rintro ⟨j, h1, h2⟩
          by_cases e2 : j = m
          · rw [e2, hb] at h2
            simp only [Option.some.injEq] at h2
            exact absurd (by omega) e
          · exact ⟨j, by omega, h2⟩


end Go.Proofs.YtibjgoigdajkkaaDoor
