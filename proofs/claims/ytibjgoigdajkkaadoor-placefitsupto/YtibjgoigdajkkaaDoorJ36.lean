import Derived.Test.YtibjgoigdajkkaaDoorJ35
namespace Go.Proofs.YtibjgoigdajkkaaDoor
open Go.RowKit

/-- by which numbers column c chooses signals (behind the last one: registers and outputs) -/
def whF (D : PnS) (T : PnT) (ni si nr : Nat) : Nat → Int → Option Int
  | 0 => srcB ni si nr
  | c + 1 => rowsK D.sig (heldK D T D.n c) (heldK D T D.n c).length
def colL (D : PnS) (T : PnT) (N : NtD) (ni si nr rows c : Nat) : List CeD := (List.range rows).map (rowC D T N (whF D T ni si nr c) c (heldK D T D.n c) (heldK D T D.n c).length)
def regF (D : PnS) (T : PnT) (N : NtD) (ni si nr k : Nat) : RgD := if k < nr then ⟨whr (whF D T ni si nr D.cc) (N.next.getD k 0), N.init.getD k false⟩ else ⟨0, false⟩
def outF (D : PnS) (T : PnT) (N : NtD) (ni si nr k : Nat) : Int := if k < N.outs.length then whr (whF D T ni si nr D.cc) (N.outs.getD k 0) else 0
/-- a configuration that was laid -/
structure LaidP (D : PnS) (T : PnT) (N : NtD) (ni si nr rr so rows : Nat) (M : CnD) : Prop where
  sh : M.sh = D.sh
  hsi : D.sh.ins = si
  nc : M.cols.length = D.cc
  col : ∀ (c : Nat) (d : ClD), M.cols[c]? = some d → d.cs = colL D T N ni si nr rows c
  rg : M.regs = tabL rr (regF D T N ni si nr)
  ou : M.outs = tabL so (outF D T N ni si nr)
theorem inRow_get (n : Nat) (l : List Bool) (i : Nat) (h : i < n) : (inRow n l)[i]? = some (l[i]?.getD false) := by
  unfold inRow; rw [List.getElem?_map, List.getElem?_range h]; rfl
theorem get_mid (A B : List Bool) (i : Nat) (h : i < A.length) : ([false, true] ++ A ++ B)[2 + i]? = A[i]? := by
  rw [List.getElem?_append_left (by simp; omega), Nat.add_comm]; rfl
theorem get_end (A B : List Bool) (m i : Nat) (h : A.length = m) : (A ++ B)[m + i]? = B[i]? := by
  subst h
  rw [List.getElem?_append_right (by omega), Nat.add_sub_cancel_left]
/-- the sources -/
theorem rel_src (N : NtD) (ni si nr rr : Nat) (hni : N.ins = ni) (hs : ni ≤ si) (row st : List Bool) (hst : st.length = nr) : Rel (srcB ni si nr) (cycT N row st) ([false, true] ++ inC si (inRow ni row) ++ (st ++ List.replicate (rr - nr) false)) := by
  have hlen : ([false, true] ++ inRow N.ins.toNat row ++ st).length = 2 + ni + nr := by
    rw [List.length_append, List.length_append, inRow_length, hst, hni]; simp
  have hold : ∀ s : Int, 0 ≤ s → s < ((2 + ni + nr : Nat) : Int) → sV (cycT N row st) s = sV ([false, true] ++ inRow ni row ++ st) s := fun s h0 h1 => by
    unfold cycT
    rw [tabs_old _ _ h0 (by rw [hlen]; exact h1), hni]; rfl
  refine ⟨rfl, fun s x hx => ?_⟩
  rcases srcB_spec _ _ _ hx with ⟨rfl, rfl⟩ | ⟨rfl, rfl⟩ | ⟨i, hi, rfl, rfl⟩ | ⟨i, hi, rfl, rfl⟩
  · rw [hold 0 (by omega) (by omega)]; rfl
  · rw [hold 1 (by omega) (by omega)]; rfl
  · rw [hold _ (by omega) (by omega)]
    unfold sV
    rw [show ((2 : Int) + (i : Int)).toNat = 2 + i by omega, get_mid _ _ _ (by rw [inC_length]; omega), get_mid _ _ _ (by rw [inRow_length]; omega)]
    rw [show inC si (inRow ni row) = inRow si (inRow ni row) from rfl, inRow_get _ _ _ (by omega), inRow_get _ _ _ hi]
    rfl
  · rw [hold _ (by omega) (by omega)]
    unfold sV
    rw [show ((2 : Int) + (ni : Int) + (i : Int)).toNat = 2 + ni + i by omega, show ((2 : Int) + (si : Int) + (i : Int)).toNat = 2 + si + i by omega]
    have e1 : ([false, true] ++ inC si (inRow ni row)).length = 2 + si := by rw [List.length_append, inC_length]; rfl
    have e2 : ([false, true] ++ inRow ni row).length = 2 + ni := by rw [List.length_append, inRow_length]; rfl
    rw [get_end _ _ _ i e1, get_end _ _ _ i e2, List.getElem?_append_left (by omega)]
/-- all columns -/
theorem rel_cols {D : PnS} {T : PnT} {N : NtD} {ni si nr rows : Nat} {v : List Bool} (hv0 : sV v 0 = false) (hv1 : sV v 1 = true) (hF : 0 ≤ N.first) (ht : ∀ (k : Nat) (d : TbD), N.tabs[k]? = some d → d.ins.length ≤ 4 ∧ sV v (N.first + k) = tabV d v)
    (hLK : ∀ c, c < D.cc → LookOk D T N (whF D T ni si nr c) c (heldK D T D.n c)) (hrow : ∀ c, c < D.cc → (heldK D T D.n c).length ≤ rows) (cols : List ClD) (hcol : ∀ (c : Nat) (d : ClD), cols[c]? = some d → d.cs = colL D T N ni si nr rows c) (hlen : cols.length ≤ D.cc) (u : List Bool) (h0 : Rel (whF D T ni si nr 0) v u) :
    ∀ k, k ≤ cols.length → Rel (whF D T ni si nr k) v ((cols.take k).foldl (fun v d => colV v d.cs) u) := by
  intro k
  induction k with
  | zero => intro _; exact h0
  | succ k ih =>
    intro hk
    obtain ⟨d, hd⟩ := getElem_lt (show k < cols.length by omega)
    rw [take_next _ k _ hd, List.foldl_append]
    have hr := ih (by omega)
    refine rel_col hr hv0 hv1 (hLK k (by omega)) hF ht d.cs (fun r i hi => ?_)
    have hrl : r < (heldK D T D.n k).length := (List.getElem?_eq_some_iff.1 hi).1
    have := hrow k (by omega)
    rw [hcol k d hd]
    unfold colL
    rw [List.getElem?_map, List.getElem?_range (by omega)]
    show some (rowC _ _ _ _ _ _ _ r) = _
    unfold rowC
    rw [if_pos hrl, getD_of hi]
/-- one cycle -/
theorem laid_cycle {D : PnS} {T : PnT} {N : NtD} {ni si nr rr so rows : Nat} {M : CnD} (h : LaidP D T N ni si nr rr so rows M) (hin : NtIn N) (hni : N.ins = ni) (hnr : N.init.length = nr) (hs : ni ≤ si)
    (hLK : ∀ c, c < D.cc → LookOk D T N (whF D T ni si nr c) c (heldK D T D.n c)) (hrow : ∀ c, c < D.cc → (heldK D T D.n c).length ≤ rows) (row st : List Bool) (hst : st.length = nr) :
    Rel (whF D T ni si nr D.cc) (cycT N row st) (cycC M (inRow ni row) (st ++ List.replicate (rr - nr) false)) := by
  have hlen : ([false, true] ++ inRow N.ins.toNat row ++ st).length = 2 + ni + nr := by
    rw [List.length_append, List.length_append, inRow_length, hst, hni]; simp
  have hF : N.first = ((2 + ni + nr : Nat) : Int) := by unfold NtD.first; rw [hni, hnr]; omega
  have h0 := rel_src N ni si nr rr hni hs row st hst
  have hold : ∀ s : Int, 0 ≤ s → s < 2 → sV (cycT N row st) s = sV ([false, true] ++ inRow N.ins.toNat row ++ st) s := fun s a b => tabs_old _ _ a (by rw [hlen]; omega)
  have := rel_cols (D := D) (T := T) (N := N) (ni := ni) (si := si) (nr := nr) (rows := rows) (v := cycT N row st) (by rw [hold 0 (by omega) (by omega)]; rfl) (by rw [hold 1 (by omega) (by omega)]; rfl) (by omega) (fun k d hd => ⟨(hin.t4 d (List.mem_of_getElem? hd)).1, by
    have := tabs_val ([false, true] ++ inRow N.ins.toNat row ++ st) N.tabs (fun k d hd s hs => by
      have := hin.ti k d hd s hs
      rw [hlen]; rw [hF] at this; exact this) k d hd
    rw [hlen, ← hF] at this
    exact this⟩) hLK hrow M.cols h.col (by rw [h.nc]; exact Nat.le_refl _) _ h0 D.cc (by rw [h.nc]; exact Nat.le_refl _)
  rw [List.take_of_length_le (by rw [h.nc]; exact Nat.le_refl _)] at this
  unfold cycC
  rw [h.sh, h.hsi, Int.toNat_natCast]
  exact this
theorem laid_run {D : PnS} {T : PnT} {N : NtD} {ni si nr rr so rows : Nat} {M : CnD} (h : LaidP D T N ni si nr rr so rows M) (hin : NtIn N) (hni : N.ins = ni) (hnr : N.init.length = nr) (hs : ni ≤ si) (hrr : nr ≤ rr) (hso : N.outs.length ≤ so)
    (hLK : ∀ c, c < D.cc → LookOk D T N (whF D T ni si nr c) c (heldK D T D.n c)) (hrow : ∀ c, c < D.cc → (heldK D T D.n c).length ≤ rows) (hE : ∀ s, s ∈ N.outs ∨ s ∈ N.next → ∃ x, whF D T ni si nr D.cc s = some x) (tr : List (List Bool)) (st : List Bool) (hst : st.length = nr) :
    (runC M (tr.map (inRow ni)) (st ++ List.replicate (rr - nr) false)).map (inRow N.outs.length) = runT N tr st := by
  induction tr generalizing st with
  | nil => rfl
  | cons r t ih =>
    have hc := laid_cycle h hin hni hnr hs hLK hrow r st hst
    simp only [List.map_cons, runC, runT]
    generalize cycC M (inRow ni r) (st ++ List.replicate (rr - nr) false) = u at hc ⊢
    have ho : inRow N.outs.length (outC M u) = outT N (cycT N r st) := by
      unfold outT outC
      rw [h.ou]
      apply List.ext_getElem?
      intro k
      by_cases hk : k < N.outs.length
      · rw [inRow_get _ _ _ hk, List.getElem?_map, List.getElem?_map, tabL_get (by omega), List.getElem?_eq_getElem hk]
        show some (sV u (outF D T N ni si nr k)) = some (sV _ _)
        unfold outF
        rw [if_pos hk, getD_of (List.getElem?_eq_getElem hk)]
        obtain ⟨x, hx⟩ := hE _ (Or.inl (List.getElem_mem hk))
        rw [hc.whr hx]
      · rw [List.getElem?_eq_none (by rw [inRow_length]; omega), List.getElem?_eq_none (by rw [List.length_map]; omega)]
    have hn : nextC M u = nextT N (cycT N r st) ++ List.replicate (rr - nr) false := by
      unfold nextT nextC
      rw [h.rg]
      apply List.ext_getElem?
      intro k
      have hnl : N.next.length = nr := by rw [hin.nl, hnr]
      by_cases hk : k < rr
      · rw [List.getElem?_map, tabL_get hk]
        show some (sV u (regF D T N ni si nr k).sel) = _
        unfold regF
        by_cases hk2 : k < nr
        · rw [if_pos hk2, List.getElem?_append_left (by rw [List.length_map]; omega), List.getElem?_map, List.getElem?_eq_getElem (by omega)]
          show some (sV u (whr _ _)) = some (sV _ _)
          rw [getD_of (List.getElem?_eq_getElem (show k < N.next.length by omega))]
          obtain ⟨x, hx⟩ := hE _ (Or.inr (List.getElem_mem (show k < N.next.length by omega)))
          rw [hc.whr hx]
        · rw [if_neg hk2, List.getElem?_append_right (by rw [List.length_map]; omega), List.getElem?_replicate_of_lt (by rw [List.length_map]; omega)]
          show some (sV u 0) = _
          rw [hc.1]
      · rw [List.getElem?_eq_none (by rw [List.length_map, tabL_len]; omega), List.getElem?_eq_none (by rw [List.length_append, List.length_map, List.length_replicate]; omega)]
    rw [ho, hn, ih (nextT N (cycT N r st)) (by unfold nextT; rw [List.length_map, hin.nl, hnr])]
theorem laid_init {D : PnS} {T : PnT} {N : NtD} {ni si nr rr so rows : Nat} {M : CnD} (h : LaidP D T N ni si nr rr so rows M) (hnr : N.init.length = nr) (hrr : nr ≤ rr) : M.regs.map RgD.init = N.init ++ List.replicate (rr - nr) false := by
  rw [h.rg]
  apply List.ext_getElem?
  intro k
  by_cases hk : k < rr
  · rw [List.getElem?_map, tabL_get hk]
    show some (regF D T N ni si nr k).init = _
    unfold regF
    by_cases hk2 : k < nr
    · rw [if_pos hk2, List.getElem?_append_left (by omega), List.getElem?_eq_getElem (by omega)]
      show some (N.init.getD k false) = _
      rw [getD_of (List.getElem?_eq_getElem (show k < N.init.length by omega))]
    · rw [if_neg hk2, List.getElem?_append_right (by omega), List.getElem?_replicate_of_lt (by omega)]
  · rw [List.getElem?_eq_none (by rw [List.length_map, tabL_len]; omega), List.getElem?_eq_none (by rw [List.length_append, List.length_replicate]; omega)]


end Go.Proofs.YtibjgoigdajkkaaDoor

namespace Go.Proofs.YtibjgoigdajkkaaDoor
open Go.RowKit

/-- the items of a plan are the signals of a net that are needed -/
structure PlNet (D : PnS) (N : NtD) (ni nr : Nat) : Prop where
  ins : N.ins = ni
  init : N.init.length = nr
  sig : ∀ i, i < D.n → 2 ≤ D.sig i ∧ D.sig i < 2 + ni + nr + N.tabs.length ∧ D.sig i ≤ 4000000
  src : ∀ i, i < D.n → (i < D.first ↔ D.sig i < 2 + ni + nr)
  tab : ∀ i d, D.first ≤ i → i < D.n → N.tabs[D.sig i - (2 + ni + nr)]? = some d → ∀ s, s ∈ d.ins → 2 ≤ s → ∃ x, x ∈ D.ins i ∧ (D.sig x : Int) = s
  nd : ∀ s, s ∈ N.outs ∨ s ∈ N.next → 2 ≤ s → ∃ i, i < D.n ∧ D.isEnd i = true ∧ (D.sig i : Int) = s
  nle : D.n ≤ ni + nr + N.tabs.length
theorem mem_getD {l : List Nat} {x : Nat} (h : x ∈ l) : ∃ r, r < l.length ∧ l.getD r 0 = x := by
  obtain ⟨r, hr⟩ := List.getElem?_of_mem h
  exact ⟨r, (List.getElem?_eq_some_iff.1 hr).1, getD_of hr⟩
theorem mem_heldK {D : PnS} {T : PnT} {k c i : Nat} : i ∈ heldK D T k c ↔ i < k ∧ (T.col i).toNat ≤ c ∧ c < untilN D T i := by
  unfold heldK
  rw [List.mem_filter, List.mem_range, heldB_true]
theorem Good.onT {D : PnS} {T : PnT} (h : Good D T) {i : Nat} (hi : D.first ≤ i) (hn : i < D.n) : 0 ≤ T.col i ∧ T.col i < D.cc := (h.iv.on i (allOn_true.2 ⟨hi, hn⟩)).2.2
/-- what is held ahead of column c is known there -/
theorem known_of {D : PnS} {T : PnT} {N : NtD} {ni si nr : Nat} (hP : PlNet D N ni nr) (hG : Good D T) {c x : Nat} (hx : x < D.n) (h1 : T.col x < (c : Int)) (h2 : c ≤ untilN D T x) : ∃ y, whF D T ni si nr c (D.sig x : Nat) = some y := by
  cases c with
  | zero =>
    have hf : x < D.first := by
      by_cases e : x < D.first
      · exact e
      · have := (hG.onT (by omega) hx).1; omega
    have hs := (hP.src x hx).1 hf
    have h2' := (hP.sig x hx).1
    refine srcB_some ni si nr ?_
    by_cases e : D.sig x < 2 + ni
    · exact Or.inr (Or.inr (Or.inl ⟨D.sig x - 2, by omega, by omega⟩))
    · exact Or.inr (Or.inr (Or.inr ⟨D.sig x - (2 + ni), by omega, by omega⟩))
  | succ c =>
    have hm : x ∈ heldK D T D.n c := mem_heldK.2 ⟨hx, by omega, by omega⟩
    obtain ⟨r, hr, hg⟩ := mem_getD hm
    exact rowsK_some _ _ _ (Or.inr (Or.inr ⟨r, hr, by rw [hg]⟩))
theorem known_const (D : PnS) (T : PnT) (ni si nr c : Nat) {s : Int} (h : s = 0 ∨ s = 1) : ∃ y, whF D T ni si nr c s = some y := by
  cases c with
  | zero => exact srcB_some ni si nr (h.elim Or.inl (fun h => Or.inr (Or.inl h)))
  | succ c => exact rowsK_some _ _ _ (h.elim Or.inl (fun h => Or.inr (Or.inl h)))
theorem good_look {D : PnS} {T : PnT} {N : NtD} {ni si nr : Nat} (hP : PlNet D N ni nr) (hG : Good D T) (hin : NtIn N) (hni : ∀ j, j < D.n → ∀ x, x ∈ D.ins j → x < j) {c : Nat} (hc : c < D.cc) : LookOk D T N (whF D T ni si nr c) c (heldK D T D.n c) := by
  have hF : N.first = ((2 + ni + nr : Nat) : Int) := by unfold NtD.first; rw [hP.ins, hP.init]; omega
  refine ⟨fun i hi => ?_, fun i hi hcl => ?_, fun i hi hcl => ?_⟩
  · have := (mem_heldK.1 hi).1
    exact ⟨this, (hP.sig i this).2.2⟩
  · obtain ⟨h1, h2, h3⟩ := mem_heldK.1 hi
    exact known_of hP hG h1 hcl (by omega)
  · obtain ⟨h1, h2, h3⟩ := mem_heldK.1 hi
    have hf : D.first ≤ i := by
      by_cases e : i < D.first
      · have := hG.iv.c0 i e; omega
      · omega
    have hci : T.col i = c := by have := (hG.onT hf h1).1; omega
    have hs := hP.sig i h1
    have hsf : 2 + ni + nr ≤ D.sig i := by
      by_cases e : D.sig i < 2 + ni + nr
      · have := (hP.src i h1).2 e; omega
      · omega
    obtain ⟨d, hd⟩ := getElem_lt (show D.sig i - (2 + ni + nr) < N.tabs.length by omega)
    refine ⟨d, by rw [hF]; omega, by rw [hF, Int.toNat_natCast]; exact hd, fun s hsm => ?_⟩
    have hb := hin.ti _ d hd s hsm
    rw [hF] at hb
    refine ⟨by omega, by omega, ?_⟩
    by_cases e : s = 0 ∨ s = 1
    · exact known_const D T ni si nr c e
    · obtain ⟨x, hx, hxs⟩ := hP.tab i d hf h1 hd s hsm (by omega)
      have hxi := hni i h1 x hx
      have hod := hG.iv.od i (allOn_true.2 ⟨hf, h1⟩) x hx (by
        by_cases e : x < D.first
        · exact Or.inr e
        · exact Or.inl (allOn_true.2 ⟨by omega, by omega⟩))
      rw [← hxs]
      refine known_of hP hG (by omega) (by omega) ?_
      refine untilK_ge (show c < D.cc + 1 by omega) ?_
      rw [hG.iv.tk x (by omega) c (by omega)]
      have : 0 < cntT D T.col (allOn D) x c := cntT_pos.2 ⟨i, h1, allOn_true.2 ⟨hf, h1⟩, hx, hci⟩
      omega
theorem good_ends {D : PnS} {T : PnT} {N : NtD} {ni si nr : Nat} (hP : PlNet D N ni nr) (hG : Good D T) (hin : NtIn N) : ∀ s, s ∈ N.outs ∨ s ∈ N.next → ∃ x, whF D T ni si nr D.cc s = some x := by
  intro s hs
  have h0 : 0 ≤ s := by rcases hs with h | h; exact (hin.oi s h).1; exact (hin.ni s h).1
  by_cases e : s = 0 ∨ s = 1
  · exact known_const D T ni si nr D.cc e
  · obtain ⟨i, hi, he, hsi⟩ := hP.nd s hs (by omega)
    rw [← hsi]
    refine known_of hP hG hi ?_ ?_
    · by_cases e : i < D.first
      · have := hG.iv.c0 i e; omega
      · exact (hG.onT (by omega) hi).2
    · refine untilK_ge (show D.cc < D.cc + 1 by omega) ?_
      rw [hG.iv.tk i hi D.cc (Nat.le_refl _)]
      have : endK D i D.cc = 1 := by unfold endK; rw [if_pos ⟨rfl, he⟩]
      omega
theorem good_rows {D : PnS} {T : PnT} (hG : Good D T) (hc1 : 1 ≤ D.cc) (hs : spreadB D T = true) {rows : Nat} (hr : D.sh.rows = rows) {c : Nat} (hc : c < D.cc) : (heldK D T D.n c).length ≤ rows := by
  have h1 := (spreadB_true D T hc1).1 hs c hc
  rw [hG.ld, hr] at h1
  unfold ldN at h1
  unfold heldK
  rw [cnt_filter]
  omega


end Go.Proofs.YtibjgoigdajkkaaDoor
