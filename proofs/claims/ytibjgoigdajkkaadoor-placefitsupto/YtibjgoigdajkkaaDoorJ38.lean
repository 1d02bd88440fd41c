import Derived.Test.YtibjgoigdajkkaaDoorJ37
namespace Go.Proofs.YtibjgoigdajkkaaDoor
open Go.RowKit

def inK (L : List Nat) (N : NtD) (F i : Nat) : List Nat := tkN (bkK L (i + 1)) (insS N F (L.getD i 0))
/-- a plan as newPlan makes it -/
structure NewP (D : PnS) (N : NtD) (F tt : Nat) : Prop where
  n : D.n = (needK N F tt tt).length
  fst : D.first = fsK (needK N F tt tt) F (needK N F tt tt).length
  sig : ∀ i, D.sig i = (needK N F tt tt).getD i 0
  ins : ∀ i, i < D.n → D.ins i = inK (needK N F tt tt) N F i
  en : D.isEnd = enK (needK N F tt tt) (needK N F tt tt).length (N.outs ++ N.next) (N.outs ++ N.next).length
theorem insS_tab {N : NtD} {F t : Nat} {d : TbD} (hd : N.tabs[t]? = some d) : insS N F (F + t) = d.ins := by
  unfold insS tabOf
  rw [if_neg (by omega), show F + t - F = t by omega, getD_of hd]
theorem insS_lt {N : NtD} (hin : NtIn N) {F : Nat} (hF : N.first = F) {g : Nat} {s : Int} (hs : s ∈ insS N F g) : F ≤ g ∧ 0 ≤ s ∧ s < g := by
  unfold insS tabOf at hs
  split at hs
  · cases hs
  · rw [List.getD_eq_getElem?_getD] at hs
    cases e : N.tabs[g - F]? with
    | none => rw [e] at hs; cases hs
    | some d =>
      rw [e] at hs
      have := hin.ti _ d e s hs
      rw [hF] at this
      omega
theorem insS_len {N : NtD} (hin : NtIn N) (F g : Nat) : (insS N F g).length ≤ 4 := by
  unfold insS tabOf
  split
  · exact Nat.zero_le _
  · rw [List.getD_eq_getElem?_getD]
    cases e : N.tabs[g - F]? with
    | none => exact Nat.zero_le _
    | some d => exact (hin.t4 d (List.mem_of_getElem? e)).1
theorem inK_mem {L : List Nat} (hA : Asc L) {N : NtD} (hin : NtIn N) {F : Nat} (hF : N.first = F) {i x : Nat} (hi : i < L.length) : x ∈ inK L N F i ↔ x < i ∧ ((L.getD x 0 : Nat) : Int) ∈ insS N F (L.getD i 0) := by
  unfold inK
  rw [tkN_mem]
  constructor
  · rintro ⟨s, y, h1, h2, h3⟩
    obtain ⟨j, hj, hs, hy⟩ := bkK_spec L _ h2
    have hjx : j = x := by omega
    subst hjx
    rw [hs] at h1
    have := insS_lt hin hF h1
    exact ⟨hA.lt (by omega) (by omega) hi, h1⟩
  · rintro ⟨h1, h2⟩
    exact ⟨_, _, h2, bkK_some hA (by omega) (by omega), by omega⟩
theorem inK_lt {L : List Nat} (hA : Asc L) {N : NtD} (hin : NtIn N) {F : Nat} (hF : N.first = F) {i x : Nat} (hi : i < L.length) (h : x ∈ inK L N F i) : x < i := ((inK_mem hA hin hF hi).1 h).1
theorem inK_len {L : List Nat} {N : NtD} (hin : NtIn N) (F i : Nat) : (inK L N F i).length ≤ 4 := Nat.le_trans (tkN_len _ _) (insS_len hin _ _)
theorem mem_idx {L : List Nat} {s : Nat} (h : s ∈ L) : ∃ i, i < L.length ∧ L.getD i 0 = s := mem_getD h
theorem en_iff {N : NtD} {F tt : Nat} {i : Nat} (hi : i < (needK N F tt tt).length) : enK (needK N F tt tt) (needK N F tt tt).length (N.outs ++ N.next) (N.outs ++ N.next).length i = true ↔ ((needK N F tt tt).getD i 0 : Int) ∈ N.outs ++ N.next := by
  rw [enK_spec]
  constructor
  · rintro ⟨j, hj, hb⟩
    obtain ⟨j', _, h2, h3⟩ := bkK_spec _ _ hb
    have : j' = i := by omega
    subst this
    obtain ⟨e, he⟩ := getElem_lt hj
    rw [getD_of he] at h2
    rw [← h2]
    exact List.mem_of_getElem? he
  · intro h
    obtain ⟨j, hj⟩ := List.getElem?_of_mem h
    refine ⟨j, (List.getElem?_eq_some_iff.1 hj).1, ?_⟩
    rw [getD_of hj]
    exact bkK_some (needK_asc _ _ _ _) (Nat.le_refl _) hi
theorem new_ok {D : PnS} {N : NtD} {F tt : Nat} (h : NewP D N F tt) (hin : NtIn N) (hF : N.first = F) (htt : F + N.tabs.length = tt) : PlOk D := by
  have hA := needK_asc N F tt tt
  have hoi : ∀ s, s ∈ N.outs ++ N.next → 0 ≤ s := fun s hs => by
    rcases List.mem_append.1 hs with h | h
    · exact (hin.oi s h).1
    · exact (hin.ni s h).1
  have h2F : 2 ≤ F := by have := hin.i0; unfold NtD.first at hF; omega
  refine ⟨fun j hj => ?_, fun i hi hn => ?_⟩
  · rw [h.fst] at hj
    have hjn : j < (needK N F tt tt).length := Nat.lt_of_lt_of_le hj (fsK_le _ _ _)
    rw [h.ins j (by rw [h.n]; exact hjn)]
    have := (fsK_spec hA (Nat.le_refl _) j hjn).1 hj
    unfold inK insS
    rw [if_pos this]; rfl
  · rw [h.n] at hn
    obtain ⟨g1, g2, g3⟩ := needK_get hn
    rcases nd_why F tt g1 htt g3 with ⟨e, he, hs⟩ | ⟨t, d, hd, hm, e, he, hs⟩
    · refine Or.inl ?_
      rw [h.en]
      rw [en_iff hn]
      have := hoi e he
      rw [← hs, Int.toNat_of_nonneg this]
      exact he
    · refine Or.inr ?_
      have htl := (List.getElem?_eq_some_iff.1 hd).1
      obtain ⟨j, hj, hjs⟩ := mem_idx (mem_needK.2 ⟨show F + t < tt by omega, by omega, hm⟩)
      refine ⟨j, by rw [h.n]; exact hj, ?_⟩
      rw [h.ins j (by rw [h.n]; exact hj)]
      have hb := hin.ti t d hd e he
      rw [hF] at hb
      have hmem : ((needK N F tt tt).getD i 0 : Int) ∈ insS N F ((needK N F tt tt).getD j 0) := by
        rw [hjs, insS_tab hd, ← hs, Int.toNat_of_nonneg hb.1]; exact he
      exact (inK_mem hA hin hF hj).2 ⟨hA.lt hn (by omega) hj, hmem⟩
theorem new_net {D : PnS} {N : NtD} {F tt ni nr : Nat} (h : NewP D N F tt) (hin : NtIn N) (hF : N.first = F) (htt : F + N.tabs.length = tt) (ht : tt ≤ 4000000) (hni : N.ins = ni) (hnr : N.init.length = nr) : PlNet D N ni nr := by
  have hA := needK_asc N F tt tt
  have hFn : F = 2 + ni + nr := by unfold NtD.first at hF; omega
  have hoi : ∀ s, s ∈ N.outs ++ N.next → 0 ≤ s ∧ s < tt := fun s hs => by
    have hsg : N.sigs = (tt : Int) := by unfold NtD.sigs; rw [hF]; omega
    rw [← hsg]
    rcases List.mem_append.1 hs with h | h
    · exact hin.oi s h
    · exact hin.ni s h
  refine ⟨hni, hnr, fun i hi => ?_, fun i hi => ?_, fun i d hf hi hd s hs h2 => ?_, fun s hs h2 => ?_, ?_⟩
  · rw [h.n] at hi
    obtain ⟨g1, g2, _⟩ := needK_get hi
    rw [h.sig]
    omega
  · rw [h.n] at hi
    rw [h.fst, h.sig, ← hFn]
    exact fsK_spec hA (Nat.le_refl _) i hi
  · have hi' := hi
    rw [h.n] at hi
    obtain ⟨g1, g2, g3⟩ := needK_get hi
    rw [h.sig, ← hFn] at hd
    have hfi : F ≤ (needK N F tt tt).getD i 0 := by
      by_cases e : (needK N F tt tt).getD i 0 < F
      · have := (fsK_spec hA (Nat.le_refl _) i hi).2 e
        rw [h.fst] at hf; omega
      · omega
    have hb := hin.ti _ d hd s hs
    rw [hF] at hb
    have hnd := nd_take hin hF htt hd (by rw [show F + ((needK N F tt tt).getD i 0 - F) = (needK N F tt tt).getD i 0 by omega]; exact g3) hs
    obtain ⟨x, hx, hxs⟩ := mem_idx (mem_needK.2 ⟨show s.toNat < tt by omega, by omega, hnd⟩)
    refine ⟨x, ?_, by rw [h.sig, hxs]; omega⟩
    rw [h.ins i hi']
    refine (inK_mem hA hin hF hi).2 ⟨hA.lt hx (by omega) hi, ?_⟩
    have e1 := insS_tab (F := F) hd
    rw [show F + ((needK N F tt tt).getD i 0 - F) = (needK N F tt tt).getD i 0 by omega] at e1
    rw [e1, hxs, Int.toNat_of_nonneg hb.1]
    exact hs
  · have hs' : s ∈ N.outs ++ N.next := List.mem_append.2 hs
    have hb := hoi s hs'
    have hnd := nd_end (F := F) (tt := tt) hs' (by omega)
    obtain ⟨i, hi, his⟩ := mem_idx (mem_needK.2 ⟨show s.toNat < tt by omega, by omega, hnd⟩)
    refine ⟨i, by rw [h.n]; exact hi, ?_, by rw [h.sig, his]; omega⟩
    rw [h.en, en_iff hi, his, Int.toNat_of_nonneg hb.1]
    exact hs'
  · rw [h.n]
    have := needK_len N F tt
    omega
/-! depths -/
theorem maxD_ge {ds l : List Int} : (0 ≤ maxD ds l) ∧ ∀ s, s ∈ l → ds.getD s.toNat 0 ≤ maxD ds l := by
  induction l using snoc_ind with
  | h0 => exact ⟨Int.le_refl _, fun s h => by cases h⟩
  | h1 l a ih =>
    rw [maxD_snoc]
    unfold mostI
    refine ⟨by split <;> omega, fun s hs => ?_⟩
    rcases List.mem_append.1 hs with h | h
    · have := ih.2 s h; split <;> omega
    · rw [List.mem_singleton.1 h]; split <;> omega
theorem maxD_congr {ds es l : List Int} (h : ∀ s, s ∈ l → ds.getD s.toNat 0 = es.getD s.toNat 0) : maxD ds l = maxD es l := by
  induction l using snoc_ind with
  | h0 => rfl
  | h1 l a ih =>
    rw [maxD_snoc, maxD_snoc, ih (fun s hs => h s (List.mem_append.2 (Or.inl hs))), h a (by simp)]
theorem dsN_pre (F : Nat) (a b : List TbD) : ∃ u, dsN F (a ++ b) = dsN F a ++ u := by
  induction b using snoc_ind with
  | h0 => exact ⟨[], by simp⟩
  | h1 b t ih =>
    obtain ⟨u, hu⟩ := ih
    refine ⟨u ++ [maxD (dsN F (a ++ b)) t.ins + 1], ?_⟩
    rw [← List.append_assoc, dsN_snoc, hu, List.append_assoc]
theorem dsN_at {N : NtD} (hin : NtIn N) {F : Nat} (hF : N.first = F) {t : Nat} {d : TbD} (hd : N.tabs[t]? = some d) : (dsN F N.tabs).getD (F + t) 0 = maxD (dsN F N.tabs) d.ins + 1 := by
  have htl := (List.getElem?_eq_some_iff.1 hd).1
  have e1 : N.tabs = N.tabs.take t ++ ([d] ++ N.tabs.drop (t + 1)) := by
    rw [← List.append_assoc, ← take_next _ t _ hd, List.take_append_drop]
  have e2 : N.tabs = N.tabs.take (t + 1) ++ N.tabs.drop (t + 1) := (List.take_append_drop _ _).symm
  obtain ⟨u1, h1⟩ := dsN_pre F (N.tabs.take t) ([d] ++ N.tabs.drop (t + 1))
  obtain ⟨u2, h2⟩ := dsN_pre F (N.tabs.take (t + 1)) (N.tabs.drop (t + 1))
  rw [← e1] at h1
  rw [← e2, take_next _ t _ hd, dsN_snoc] at h2
  have hl : (dsN F (N.tabs.take t)).length = F + t := by rw [dsN_len, List.length_take]; omega
  have hm : maxD (dsN F N.tabs) d.ins = maxD (dsN F (N.tabs.take t)) d.ins := by
    refine maxD_congr (fun s hs => ?_)
    have hb := hin.ti t d hd s hs
    rw [hF] at hb
    rw [h1, List.getD_eq_getElem?_getD, List.getD_eq_getElem?_getD, List.getElem?_append_left (by rw [hl]; omega)]
  rw [hm, h2, List.getD_eq_getElem?_getD, List.append_assoc, List.getElem?_append_right (by rw [hl]; exact Nat.le_refl _), hl]
  simp
theorem new_lv {D : PnS} {N : NtD} {F tt : Nat} (h : NewP D N F tt) (hin : NtIn N) (hF : N.first = F) (htt : F + N.tabs.length = tt) (hdep : depN N ≤ D.cc) : PlLv D (fun i => ((dsN F N.tabs).getD (D.sig i) 0).toNat) := by
  have hA := needK_asc N F tt tt
  have htab : ∀ g : Nat, F ≤ g → g < tt → ∃ d, N.tabs[g - F]? = some d ∧ insS N F g = d.ins ∧ (dsN F N.tabs).getD g 0 = maxD (dsN F N.tabs) d.ins + 1 := fun g h1 h2 => by
    obtain ⟨d, hd⟩ := getElem_lt (show g - F < N.tabs.length by omega)
    have e1 := insS_tab (F := F) hd
    have e2 := dsN_at hin hF hd
    rw [show F + (g - F) = g by omega] at e1 e2
    exact ⟨d, hd, e1, e2⟩
  refine ⟨fun j hj x hx => ?_, fun i hi hn => ?_, fun i hn he => ?_⟩
  · have hj' := hj
    rw [h.n] at hj
    rw [h.ins j hj'] at hx
    obtain ⟨h1, h2⟩ := (inK_mem hA hin hF hj).1 hx
    have h3 := insS_lt hin hF h2
    obtain ⟨g1, _, _⟩ := needK_get hj
    obtain ⟨d, hd, e1, e2⟩ := htab _ h3.1 g1
    rw [e1] at h2
    have h4 := (maxD_ge (ds := dsN F N.tabs) (l := d.ins)).2 _ h2
    have h5 := (maxD_ge (ds := dsN F N.tabs) (l := d.ins)).1
    rw [Int.toNat_natCast] at h4
    show ((dsN F N.tabs).getD (D.sig x) 0).toNat + 1 ≤ ((dsN F N.tabs).getD (D.sig j) 0).toNat
    rw [h.sig, h.sig, e2]
    omega
  · rw [h.n] at hn
    rw [h.fst] at hi
    obtain ⟨g1, _, _⟩ := needK_get hn
    have hfi : F ≤ (needK N F tt tt).getD i 0 := by
      by_cases e : (needK N F tt tt).getD i 0 < F
      · have := (fsK_spec hA (Nat.le_refl _) i hn).2 e; omega
      · omega
    obtain ⟨d, hd, e1, e2⟩ := htab _ hfi g1
    have h5 := (maxD_ge (ds := dsN F N.tabs) (l := d.ins)).1
    show 1 ≤ ((dsN F N.tabs).getD (D.sig i) 0).toNat
    rw [h.sig, e2]
    omega
  · rw [h.n] at hn
    rw [h.en, en_iff hn] at he
    have h4 := (maxD_ge (ds := dsN F N.tabs) (l := N.outs ++ N.next)).2 _ he
    unfold depN at hdep
    rw [hF, Int.toNat_natCast] at hdep
    rw [Int.toNat_natCast] at h4
    show ((dsN F N.tabs).getD (D.sig i) 0).toNat ≤ D.cc
    rw [h.sig]
    omega


end Go.Proofs.YtibjgoigdajkkaaDoor

namespace Go.Proofs.YtibjgoigdajkkaaDoor
open Go.RowKit

/-- items of which nothing stands -/
def nwC (sig : Nat → Nat) (a : Nat → Option Addr) (c : Nat → Nat) (ins : Nat → List Nat) (en : Nat → Bool) (m : Nat) : Value :=
  match m % 5 with
  | 0 => .int .i64 (sig (m / 5))
  | 1 => .slice (a (m / 5)) (ins (m / 5)).length (c (m / 5))
  | 2 => .bool (en (m / 5))
  | 3 => .int .i64 (-1)
  | _ => .slice none 0 0
theorem nwC_at (sig : Nat → Nat) (a : Nat → Option Addr) (c : Nat → Nat) (ins : Nat → List Nat) (en : Nat → Bool) (i : Nat) : nwC sig a c ins en (i * 5) = .int .i64 (sig i) ∧ nwC sig a c ins en (i * 5 + 1) = .slice (a i) (ins i).length (c i) ∧ nwC sig a c ins en (i * 5 + 2) = .bool (en i) ∧ nwC sig a c ins en (i * 5 + 3) = .int .i64 (-1) ∧ nwC sig a c ins en (i * 5 + 4) = .slice none 0 0 := by
  unfold nwC
  rw [show i * 5 % 5 = 0 by omega, show (i * 5 + 1) % 5 = 1 by omega, show (i * 5 + 2) % 5 = 2 by omega, show (i * 5 + 3) % 5 = 3 by omega, show (i * 5 + 4) % 5 = 4 by omega, show i * 5 / 5 = i by omega, show (i * 5 + 1) / 5 = i by omega, show (i * 5 + 2) / 5 = i by omega]
  exact ⟨rfl, rfl, rfl, rfl, rfl⟩
theorem tabL_five {α : Type} (k : Nat) (f : Nat → α) : tabL ((k + 1) * 5) f = tabL (k * 5) f ++ [f (k * 5), f (k * 5 + 1), f (k * 5 + 2), f (k * 5 + 3), f (k * 5 + 4)] := by
  unfold tabL
  rw [show (k + 1) * 5 = k * 5 + 1 + 1 + 1 + 1 + 1 by omega]
  simp only [List.range_succ, List.map_append, List.map_cons, List.map_nil, List.append_assoc, List.cons_append, List.nil_append]
theorem nwC_push (sig : Nat → Nat) (a : Nat → Option Addr) (c : Nat → Nat) (ins : Nat → List Nat) (k : Nat) (a' : Option Addr) (c' : Nat) : tabL (k * 5) (nwC sig a c ins fun _ => false) ++ [.int .i64 (sig k), .slice a' (ins k).length c', .bool false, .int .i64 (-1), .slice none 0 0] = tabL ((k + 1) * 5) (nwC sig (upd a k a') (upd c k c') ins fun _ => false) := by
  rw [tabL_five]
  obtain ⟨e0, e1, e2, e3, e4⟩ := nwC_at sig (upd a k a') (upd c k c') ins (fun _ => false) k
  rw [e0, e1, e2, e3, e4, upd_same, upd_same]
  congr 1
  refine tabL_congr (fun m hm => ?_)
  unfold nwC
  rw [upd_ne (show m / 5 ≠ k by omega), upd_ne (show m / 5 ≠ k by omega)]
def npC (nb : Nat) (sh : ShD) (vi : Value) (fs lb cc : Nat) : Array Value := #[.pointer (some ⟨nb, 0, none⟩), .int .i64 sh.ins, .int .i64 sh.outs, .int .i64 sh.regs, .int .i64 sh.rows, .int .i64 sh.cols, vi, .int .i64 fs, .slice (some ⟨lb, 0, none⟩) cc cc]
/-- a plan that gets its items -/
structure NpAt (w : World) (C1 pb lb mb nb : Nat) (sh : ShD) (cc : Nat) (L : List Nat) (ins : Nat → List Nat) (k : Nat) (vi : Value) (fs : Nat) (a : Nat → Option Addr) (c : Nat → Nat) : Prop where
  lt : pb < C1 ∧ lb < C1 ∧ mb < C1
  ne : pb ≠ lb ∧ pb ≠ mb ∧ lb ≠ mb
  sz : C1 ≤ w.heap.size
  box : Blk w pb 83 (npC nb sh vi fs lb cc)
  ld : Blk w lb 3 (tabL cc fun _ => .int .i64 0).toArray
  it : w.ownsRow C1 89 5 vi k (tabL (k * 5) (nwC (fun i => L.getD i 0) a c ins fun _ => false))
  rw_ : ∀ i, i < k → w.ownsRow C1 3 1 (.slice (a i) (ins i).length (c i)) (ins i).length ((ins i).map natV)
  mp : MAt w mb k (bkK L k)
/-- a block that is none of these is turned, or another is made -/
theorem own_but_ge {w w' : World} {C e s n g : Nat} {v : Value} {xs : List Value} (h : w.ownsRow C e s v n xs) (hb : But g w w') (hg : g < C) : w'.ownsRow C e s v n xs := own_keep h (fun k hk => hb.block k (own_lt h hk).2 (by have := (own_lt h hk).1; omega))
theorem own_far {w : World} {C C' n n' s s' : Nat} {e e' : TypeId} {v v' : Value} {xs xs' : List Value} (h : w.ownsRow C e s v n xs) (h' : w.ownsRow C' e' s' v' n' xs') (he : e ≠ e') {g : Nat} (hg : v'.ownBlock = some g) : v.ownBlock ≠ some g := fun h2 => by
  rcases own_ne h h' he with h3 | h3
  · rw [h3] at hg; cases hg
  · exact h3 (hg.trans h2.symm)
theorem NpAt.push {W1 wr w2 w3 w5 : World} {C1 pb lb mb nb : Nat} {sh : ShD} {cc : Nat} {L : List Nat} {ins : Nat → List Nat} {k : Nat} {vi : Value} {fs : Nat} {a : Nat → Option Addr} {c : Nat → Nat} (h : NpAt wr C1 pb lb mb nb sh cc L ins k vi fs a c) (hK : Kp [pb, mb] W1 wr) (hC : W1.heap.size = C1) (h2 : But mb wr w2) (hm : MAt w2 mb (k + 1) (bkK L (k + 1))) (h3 : Below w2.heap.size w2 w3) {a' : Option Addr} {c' : Nat} (hv : w3.ownsRow w2.heap.size 3 1 (.slice a' (ins k).length c') (ins k).length ((ins k).map natV)) {o : Obj} (hgr : (w3.alloc o).grownBy w5 vi.ownBlock) {g cap : Nat} (hown : w5.ownsRow C1 89 5 (.slice (some ⟨g, 0, none⟩) (k + 1) cap) (k + 1) (tabL ((k + 1) * 5) (nwC (fun i => L.getD i 0) (upd a k a') (upd c k c') ins fun _ => false))) :
    NpAt (w5.setCell ⟨pb, 6, none⟩ (.slice (some ⟨g, 0, none⟩) (k + 1) cap)) C1 pb lb mb nb sh cc L ins (k + 1) (.slice (some ⟨g, 0, none⟩) (k + 1) cap) fs (upd a k a') (upd c k c') ∧ Kp [pb, mb] W1 (w5.setCell ⟨pb, 6, none⟩ (.slice (some ⟨g, 0, none⟩) (k + 1) cap)) := by
  have hal : Below w3.heap.size w3 (w3.alloc o) := (Below.refl _ _).alloc (Nat.le_refl _) _
  have hiw := (own_lt h.it (g := 0))
  have hvi : ∀ g, vi.ownBlock = some g → C1 ≤ g ∧ g < wr.heap.size := fun g hg => own_lt h.it hg
  have s2 := h2.size
  have s3 := h3.size
  have s4 := hal.size
  have s5 := hgr.size
  have hsz := h.sz
  -- a block of w2 that isn't the items'
  have hk5 : ∀ b, b < w2.heap.size → vi.ownBlock ≠ some b → w5.heap[b]? = w2.heap[b]? := fun b hb hne =>
    ((hgr.block b (by omega) (fun e => hne e.symm)).trans (hal.block b (by omega))).trans (h3.block b hb)
  have hbut := But.set pb 6 w5 (.slice (some ⟨g, 0, none⟩) (k + 1) cap)
  have hlow : ∀ b, b < C1 → vi.ownBlock ≠ some b := fun b hb e => by have := (hvi b e).1; omega
  have b1 : Blk w2 pb 83 (npC nb sh vi fs lb cc) := h2.blk h.box h.ne.2.1
  have b5 : Blk w5 pb 83 (npC nb sh vi fs lb cc) := (hk5 pb b1.lt (hlow pb h.lt.1)).trans b1
  have l2 : Blk w2 lb 3 (tabL cc fun _ => .int .i64 0).toArray := h2.blk h.ld h.ne.2.2
  have l5 : Blk w5 lb 3 (tabL cc fun _ => .int .i64 0).toArray := (hk5 lb l2.lt (hlow lb h.lt.2.1)).trans l2
  have hi2 : w2.ownsRow C1 89 5 vi k (tabL (k * 5) (nwC (fun i => L.getD i 0) a c ins fun _ => false)) := own_but_ge h.it h2 h.lt.2.2
  have hi3 := own_below hi2 h3
  refine ⟨⟨h.lt, h.ne, by rw [show (w5.setCell ⟨pb, 6, none⟩ (.slice (some ⟨g, 0, none⟩) (k + 1) cap)).heap.size = w5.heap.size by simp [World.setCell]]; omega, ?_, hbut.blk l5 (fun e => h.ne.1 e.symm), own_but_ge hown hbut h.lt.1, fun i hi => ?_, ?_⟩, ?_⟩
  · have := b5.set 6 (.slice (some ⟨g, 0, none⟩) (k + 1) cap)
    exact this
  · refine own_but_ge ?_ hbut h.lt.1
    by_cases e : i = k
    · subst e
      rw [upd_same, upd_same]
      refine own_mono (C := w2.heap.size) ?_ (by omega)
      refine own_keep hv (fun b hb => ?_)
      have hl := own_lt hv hb
      have hne : vi.ownBlock ≠ some b := own_far hi3 hv (by decide) hb
      exact (hgr.block b (by omega) (fun e => hne e.symm)).trans (hal.block b hl.2)
    · rw [upd_ne e, upd_ne e]
      have ho := h.rw_ i (by omega)
      have ho2 := own_but_ge ho h2 h.lt.2.2
      refine own_keep ho2 (fun b hb => hk5 b (own_lt ho2 hb).2 (own_far hi2 ho2 (by decide) hb))
  · exact (hm.heap (hk5 mb hm.lt (hlow mb h.lt.2.2))).heap (hbut.block mb (by have := hm.lt; omega) (fun e => h.ne.2.1 e.symm))
  · have hK2 : Kp [pb, mb] W1 w2 := hK.trans (h2.kp (by simp))
    have hs1 := hK.size
    refine ⟨hgr.os.trans (h3.os.trans hK2.os), hgr.tape.trans (h3.tape.trans hK2.tape), hgr.output.trans (h3.output.trans hK2.output), by rw [show (w5.setCell ⟨pb, 6, none⟩ (.slice (some ⟨g, 0, none⟩) (k + 1) cap)).heap.size = w5.heap.size by simp [World.setCell]]; omega, fun b hb hn => ?_⟩
    exact ((hbut.block b (by omega) (fun e => hn (by simp [e]))).trans (hk5 b (by omega) (hlow b (by omega)))).trans (hK2.block b hb hn)
/-- how many are sources is told -/
theorem NpAt.first {W1 w : World} {C1 pb lb mb nb : Nat} {sh : ShD} {cc : Nat} {L : List Nat} {ins : Nat → List Nat} {k : Nat} {vi : Value} {fs : Nat} {a : Nat → Option Addr} {c : Nat → Nat} (h : NpAt w C1 pb lb mb nb sh cc L ins k vi fs a c) (hK : Kp [pb, mb] W1 w) (f : Nat) : NpAt (w.setCell ⟨pb, 7, none⟩ (.int .i64 f)) C1 pb lb mb nb sh cc L ins k vi f a c ∧ Kp [pb, mb] W1 (w.setCell ⟨pb, 7, none⟩ (.int .i64 f)) := by
  have hb := But.set pb 7 w (.int .i64 f)
  refine ⟨⟨h.lt, h.ne, Nat.le_trans h.sz hb.size, h.box.set 7 _, hb.blk h.ld (fun e => h.ne.1 e.symm), own_but_ge h.it hb h.lt.1, fun i hi => own_but_ge (h.rw_ i hi) hb h.lt.1, h.mp.heap (hb.block mb h.mp.lt (fun e => h.ne.2.1 e.symm))⟩, hK.trans (hb.kp (by simp))⟩
theorem NpAt.below {w w' : World} {C1 pb lb mb nb : Nat} {sh : ShD} {cc : Nat} {L : List Nat} {ins : Nat → List Nat} {k : Nat} {vi : Value} {fs : Nat} {a : Nat → Option Addr} {c : Nat → Nat} (h : NpAt w C1 pb lb mb nb sh cc L ins k vi fs a c) (hb : Below w.heap.size w w') : NpAt w' C1 pb lb mb nb sh cc L ins k vi fs a c :=
  ⟨h.lt, h.ne, Nat.le_trans h.sz hb.size, h.box.below hb, h.ld.below hb, own_below h.it hb, fun i hi => own_below (h.rw_ i hi) hb, h.mp.heap (hb.block mb h.mp.lt)⟩
/-- .. as a plan -/
theorem NpAt.plan {w : World} {C1 pb lb mb nb : Nat} {sh : ShD} {cc : Nat} {L : List Nat} {ins : Nat → List Nat} {k : Nat} {vi : Value} {fs : Nat} {a : Nat → Option Addr} {c : Nat → Nat} (h : NpAt w C1 pb lb mb nb sh cc L ins k vi fs a c) (hk : k ≤ 1048576) (hcc : sh.cols = cc ∧ 1 ≤ cc ∧ cc ≤ 100) (hrw : 1 ≤ sh.rows ∧ sh.rows ≤ 500) (hfs : fs ≤ k) (hin : ∀ i, i < k → ∀ x, x ∈ ins i → x < i) (hnd : ∀ i, i < k → (ins i).Nodup) (h4 : ∀ i, i < k → (ins i).length ≤ 4) :
    ∃ D : PnS, D.pb = pb ∧ D.lb = lb ∧ D.nb = nb ∧ D.n = k ∧ D.first = fs ∧ D.cc = cc ∧ D.sh = sh ∧ (∀ i, D.sig i = L.getD i 0) ∧ D.ins = ins ∧ D.isEnd = (fun _ => false) ∧ D.C = w.heap.size ∧ vi = .slice D.ia D.n D.icap ∧ ((D.n = 0 ∧ D.ib = mb) ∨ C1 ≤ D.ib) ∧ PlTk D w (fun _ => -1) (fun _ => 0) (fun _ => .slice none 0 0) := by
  have hsz := h.sz
  have hlt := h.lt
  have hne := h.ne
  have hrow : ∀ i, i < k → ∀ m x, (ins i)[m]? = some x → ∃ b o, a i = some ⟨b, o, none⟩ ∧ b < w.heap.size ∧ C1 ≤ b ∧ vi.ownBlock ≠ some b ∧ w.cell? ⟨b, o + m, none⟩ = some (.int .i64 (x : Nat)) := fun i hi m x hx => by
    have ho := h.rw_ i hi
    obtain ⟨a', c', e1, _, e2⟩ := own_nats ho
    obtain ⟨b, o, e3, e4, e5⟩ := e2 m x hx
    simp only [Value.slice.injEq, true_and] at e1
    rw [← e1.1] at e3
    have hb : (Value.slice (a i) (ins i).length (c i)).ownBlock = some b := by rw [e3]; rfl
    exact ⟨b, o, e3, e4, (own_lt ho hb).1, own_far h.it ho (by decide) hb, e5⟩
  rcases h.it.2 with ⟨rfl, rfl⟩ | ⟨g, cap, cur, rfl, hg, hblk, _, _, hcs, htk⟩
  · refine ⟨⟨w.heap.size, pb, mb, lb, nb, none, 0, [], 0, fs, cc, sh, fun i => L.getD i 0, a, c, ins, fun _ => false⟩, rfl, rfl, rfl, rfl, rfl, rfl, rfl, fun _ => rfl, rfl, rfl, rfl, rfl, Or.inl ⟨rfl, rfl⟩, ⟨⟨Nat.le_refl _, ⟨by show pb < w.heap.size; omega, by show mb < w.heap.size; omega, by show lb < w.heap.size; omega⟩, ⟨hne.2.1, hne.1, fun e => hne.2.2 e.symm⟩, fun h0 => absurd h0 (by show ¬ 0 < 0; omega), hk, hcc, hrw, hfs, h.box, fun i hi => absurd hi (by show ¬ i < 0; omega), fun i hi => absurd hi (by show ¬ i < 0; omega), fun i hi => absurd hi (by show ¬ i < 0; omega), fun i hi => absurd hi (by show ¬ i < 0; omega)⟩, fun h0 => absurd h0 (by show ¬ 0 < 0; omega), h.ld⟩⟩
  · have hgl : g < w.heap.size := (Array.getElem?_eq_some_iff.1 hblk).1
    refine ⟨⟨w.heap.size, pb, g, lb, nb, some ⟨g, 0, none⟩, cap, cur.toList.drop (k * 5), k, fs, cc, sh, fun i => L.getD i 0, a, c, ins, fun _ => false⟩, rfl, rfl, rfl, rfl, rfl, rfl, rfl, fun _ => rfl, rfl, rfl, rfl, rfl, Or.inr hg, ⟨⟨Nat.le_refl _, ⟨by show pb < w.heap.size; omega, hgl, by show lb < w.heap.size; omega⟩, ⟨by show pb ≠ g; omega, hne.1, by show g ≠ lb; omega⟩, fun _ => rfl, hk, hcc, hrw, hfs, h.box, fun i hi m x hx => ?_, hin, hnd, h4⟩, fun h0 => ?_, h.ld⟩⟩
    · obtain ⟨b, o, e1, e2, e3, e4, e5⟩ := hrow i hi m x hx
      refine ⟨b, o, e1, e2, fun e => e4 (by rw [e]; rfl), ?_, e5⟩
      show b ≠ lb
      omega
    · show Blk w g 89 (tabL (k * 5) _ ++ cur.toList.drop (k * 5)).toArray
      have e1 : (tabL (k * 5) (nwC (fun i => L.getD i 0) a c ins fun _ => false) ++ cur.toList.drop (k * 5)).toArray = cur := by
        rw [← htk, List.take_append_drop]
      exact hblk.trans (congrArg (fun z => some (Obj.cells z _ (0, 0))) e1.symm)


end Go.Proofs.YtibjgoigdajkkaaDoor

namespace Go.Proofs.YtibjgoigdajkkaaDoor
open Go.RowKit

theorem itV_en (D : PnS) (col : Nat → Int) (tv : Nat → Value) (i : Nat) (b : Bool) : upd (itV D col tv) (i * 5 + 2) (.bool b) = itV { D with isEnd := upd D.isEnd i b } col tv := by
  funext m
  by_cases e : m = i * 5 + 2
  · subst e
    rw [upd_same]
    unfold itV
    rw [show (i * 5 + 2) % 5 = 2 by omega, show (i * 5 + 2) / 5 = i by omega]
    show _ = Value.bool (upd D.isEnd i b i)
    rw [upd_same]
  · rw [upd_ne e]
    unfold itV
    have : m % 5 = 0 ∨ m % 5 = 1 ∨ m % 5 = 2 ∨ m % 5 = 3 ∨ m % 5 = 4 := by omega
    rcases this with e2 | e2 | e2 | e2 | e2
    · rw [e2]; rfl
    · rw [e2]; rfl
    · rw [e2]
      show Value.bool (D.isEnd (m / 5)) = Value.bool (upd D.isEnd i b (m / 5))
      rw [upd_ne (by omega)]
    · rw [e2]; rfl
    · rw [e2]; rfl
theorem PlBase.en {D : PnS} {w : World} (h : PlBase D w) (f : Nat → Bool) : PlBase { D with isEnd := f } w :=
  ⟨h.sz, h.lt, h.ne, h.ia, h.nn, h.cc, h.rw_, h.fst, h.pl, h.ins, h.insn, h.insd, h.insl⟩
/-- an item is told to be an end -/
theorem PlTk.fin {D : PnS} {w : World} {col ld : Nat → Int} {tv : Nat → Value} (h : PlTk D w col ld tv) {i : Nat} (hi : i < D.n) : PlTk { D with isEnd := upd D.isEnd i true } (w.setCell ⟨D.ib, i * 5 + 2, none⟩ (.bool true)) col ld tv := by
  have hb := But.set D.ib (i * 5 + 2) w (.bool true)
  have hne := h.bs.ne
  refine ⟨(h.bs.kp hb.size (fun k hk h1 _ => hb.block k (Nat.lt_of_lt_of_le hk h.bs.sz) h1)).en _, fun h0 => ?_, hb.blk h.ld (fun e => hne.2.2 e.symm)⟩
  have := (h.it h0).set (i * 5 + 2) (.bool true)
  rw [tabA_set (by omega), itV_en] at this
  exact this


end Go.Proofs.YtibjgoigdajkkaaDoor
