import Derived.Test.YtlaljeobdddegaaMqZ
namespace Go.Proofs.Ytlaljeobdddegaa
open Go.RowKit Mp

/-- two rows that don't lie in one block -/
def FaV (a b : Value) : Prop := ∀ k, a.ownBlock = some k → b.ownBlock ≠ some k
theorem FaV.symm {a b : Value} (h : FaV a b) : FaV b a := fun k hk e => h k e hk
theorem FaV.or {a b : Value} (h : FaV a b) : b.ownBlock = none ∨ b.ownBlock ≠ a.ownBlock := by
  cases e : b.ownBlock with
  | none => exact Or.inl rfl
  | some k => exact Or.inr (fun e2 => h k e2.symm e)
theorem FaV.new {w : World} {a a' b : Value} {C e sz n : Nat} {xs : List Value} (h : FaV a b) (hb : w.ownsRow C e sz b n xs) {s : Nat} (hs : w.heap.size ≤ s) (hp : a'.ownBlock = a.ownBlock ∨ a'.ownBlock = some s) : FaV a' b := fun k hk e2 => by
  rcases hp with hp | hp
  · exact h k (by rw [← hp]; exact hk) e2
  · have := own_lt hb k e2
    rw [hp] at hk
    injection hk with hk
    omega
theorem FaV.nil (b : Value) : FaV (.slice none 0 0) b := fun k hk => by cases hk
/-- where the new slice of an append lies -/
theorem place_of {a : Value} {g n cap H : Nat} (h : a.ownBlock = some g ∨ g = H) : (Value.slice (some ⟨g, 0, none⟩) n cap).ownBlock = a.ownBlock ∨ (Value.slice (some ⟨g, 0, none⟩) n cap).ownBlock = some H := by
  rcases h with h | h
  · exact Or.inl h.symm
  · exact Or.inr (by rw [h]; rfl)
/-- what is chosen, in memory -/
structure CvAt (C : Nat) (w : World) (D : ChS) (U : Nat → Nat) (gs : List Nat) (Ls : List (List Nat)) (bs : List Nat) (gv lv ev bv : Value) : Prop where
  ch : ChAt w D U gv lv ev bv
  og : w.ownsRow C 3 1 gv gs.length (gs.map nV)
  ol : w.ownsRow C 3 1 lv Ls.flatten.length (Ls.flatten.map nV)
  oe : w.ownsRow C 3 1 ev Ls.length ((endsL Ls).map nV)
  ob : w.ownsRow C 3 1 bv bs.length (bs.map nV)
  f1 : FaV gv lv
  f2 : FaV gv ev
  f3 : FaV gv bv
  f4 : FaV lv ev
  f5 : FaV lv bv
  f6 : FaV ev bv
  lt : D.cb < C ∧ D.pb < C ∧ D.ub < C
  le : C ≤ w.heap.size
theorem CvAt.to {C : Nat} {w w' : World} {D : ChS} {U : Nat → Nat} {gs : List Nat} {Ls : List (List Nat)} {bs : List Nat} {gv lv ev bv : Value} (h : CvAt C w D U gs Ls bs gv lv ev bv) (hb : Bl w w') : CvAt C w' D U gs Ls bs gv lv ev bv :=
  ⟨h.ch.to hb, own_below h.og hb, own_below h.ol hb, own_below h.oe hb, own_below h.ob hb, h.f1, h.f2, h.f3, h.f4, h.f5, h.f6, h.lt, Nat.le_trans h.le hb.size⟩
/-- one of the eight cells becomes another, a row has grown -/
theorem ChAt.cell4 {w w' : World} {D : ChS} {U : Nat → Nat} {gv lv ev bv gv' lv' ev' bv' : Value} (h : ChAt w D U gv lv ev bv) (hbk : Blk w' D.cb 89 #[.pointer (some ⟨D.fb, 0, none⟩), .int .i64 (D.F : Nat), .slice (some ⟨D.pb, 0, none⟩) D.N D.N, .slice (some ⟨D.ub, 0, none⟩) D.N D.N, gv', lv', ev', bv']) (hb : ∀ k, k < w.heap.size → k = D.pb ∨ k = D.ub → w'.heap[k]? = w.heap[k]?) : ChAt w' D U gv' lv' ev' bv' := by
  obtain ⟨f, hf⟩ := h.pr
  exact ⟨hbk, ⟨f, (hb _ hf.lt (Or.inl rfl)).trans hf⟩, (hb _ h.un.lt (Or.inr rfl)).trans h.un, h.ne⟩
def AddP (C : Nat) (w w' : World) (cb : Nat) (x0 x1 x2 x3 x4 x7 av ev : Value) (Ls : List (List Nat)) (t : TypeId) (ls : List Nat) (e : Ending) : Prop := ∃ av' ev', (∃ v, e = .returned v) ∧ Hid (Blk w' cb t #[x0, x1, x2, x3, x4, av', ev', x7]) ∧ Hid (w'.ownsRow C 3 1 av' (Ls ++ [ls]).flatten.length ((Ls ++ [ls]).flatten.map nV)) ∧ Hid (w'.ownsRow C 3 1 ev' (Ls ++ [ls]).length ((endsL (Ls ++ [ls])).map nV)) ∧ Hid (FaV av' ev') ∧ Hid (∀ x : Nat, x < w.heap.size → x ≠ cb → some x ≠ av.ownBlock → some x ≠ ev.ownBlock → w'.heap[x]? = w.heap[x]?) ∧ Hid (∃ s1 s2, w.heap.size ≤ s1 ∧ w.heap.size ≤ s2 ∧ (av'.ownBlock = av.ownBlock ∨ av'.ownBlock = some s1) ∧ (ev'.ownBlock = ev.ownBlock ∨ ev'.ownBlock = some s2)) ∧ Hid (w.heap.size ≤ w'.heap.size ∧ w'.os = w.os ∧ w'.tape = w.tape ∧ w'.output = w.output)
set_option maxRecDepth 100000 in
set_option maxHeartbeats 8000000 in
theorem addI_any (C : Nat) (w : World) (cb : Nat) (x0 x1 x2 x3 x4 x7 av ev : Value) (Ls : List (List Nat)) (t : TypeId) (hbk : Blk w cb t #[x0, x1, x2, x3, x4, av, ev, x7]) (hfC : cb < C) (hC : C ≤ w.heap.size) (oa : w.ownsRow C 3 1 av Ls.flatten.length (Ls.flatten.map nV)) (oe : w.ownsRow C 3 1 ev Ls.length ((endsL Ls).map nV)) (hfa : FaV av ev) (la : Option Addr) (c : Nat) (ls : List Nat) (hcs : NumR w la ls) (hbl : ∀ b o, la = some ⟨b, o, none⟩ → b < w.heap.size) (hnil : ls = [] → la = none ∧ c = 0) (hn1 : Ls.length + 1 ≤ 1000000) (hn2 : Ls.flatten.length + ls.length ≤ 100000000) :
    Calls Try.prog 62 #[.pointer (some ⟨cb, 5, none⟩), .slice la ls.length c] w fun e w' => AddP C w w' cb x0 x1 x2 x3 x4 x7 av ev Ls t ls e := by
  have z0 : w.cell? ⟨cb, 5, none⟩ = some av := hbk.cell (i := 5) rfl
  have HBK := hidden hbk
  have HOA := hidden oa
  have HOE := hidden oe
  have HFA := hidden hfa
  have HRW : Hid (RowAt w.heap.size w la 1 ((ls.map (fun x : Nat => (x : Int))).map intC)) := fun hne => by
    have hp : ls ≠ [] := fun e => hne (by rw [e]; rfl)
    obtain ⟨x, hx⟩ := getElem_lt (List.length_pos_iff.2 hp)
    obtain ⟨b, o, e, _⟩ := hcs 0 x hx
    refine ⟨b, o, e, hbl b o e, fun i el hi j v hv => ?_⟩
    rw [List.getElem?_map, List.getElem?_map] at hi
    cases hl : ls[i]? with
    | none => rw [hl] at hi; cases hi
    | some y =>
      rw [hl] at hi
      have e2 : intC (y : Int) = el := by simpa using hi
      rw [← e2] at hv
      obtain ⟨b', o', e', hc⟩ := hcs i y hl
      rw [e] at e'
      obtain ⟨rfl, rfl⟩ := ad_inj e'
      cases j with
      | zero =>
        obtain rfl := Option.some.inj hv
        rw [Nat.mul_one, Nat.add_zero]; exact hc
      | succ j => simp [intC] at hv
  have HNI : Hid (la = none → c = 0) := fun e => by
    by_cases h : ls = []
    · exact (hnil h).2
    · obtain ⟨x, hx⟩ := getElem_lt (List.length_pos_iff.2 h)
      obtain ⟨b, o, e', _⟩ := hcs 0 x hx
      rw [e] at e'; cases e'
  have HPL : Hid ((ls.map (fun x : Nat => (x : Int))) ≠ [] ∨ la = none) := by
    by_cases h : ls = []
    · exact Or.inr (hnil h).1
    · exact Or.inl (fun e => h (List.map_eq_nil_iff.1 e))
  have HMP : Hid ((ls.map (fun x : Nat => (x : Int))).map zV = ls.map nV) := by
    show _ = _
    rw [List.map_map]; rfl
  have HLN : Hid ((ls.map (fun x : Nat => (x : Int))).length = ls.length) := List.length_map _
  have HNE2 : Hid (some cb ≠ av.ownBlock ∧ some cb ≠ ev.ownBlock) := ⟨fun e => by have := own_newB HOA.out cb e.symm; omega, fun e => by have := own_newB HOE.out cb e.symm; omega⟩
  obtain ⟨n, En⟩ := exh ls.length
  obtain ⟨N, EN⟩ := exh Ls.flatten.length
  rw [← En.out]
  clear hcs hbk oa oe hfa hnil hbl
  go_enter Try.func62, Try.ntmps62
  have tok : True := trivial
  go_upto_region 1 with (have _t := tok; at_builtin; (refine app_ints _ rfl (.tmp 8) (.tmp 9) rfl C av N _ rfl (by rw [EN.out]; exact HOA.out) la c (ls.map (fun x : Nat => (x : Int))) (by rw [HLN.out, ← En.out]; rfl) HRW.out HNI.out (by rw [EN.out, HLN.out]; omega) hC ?_; intro v2 w2 hown hgrow hplace; rw [HMP.out, HLN.out] at hown; obtain ⟨a2, c2, hv2, -, -, -⟩ := own_num (l := Ls.flatten ++ ls) (by rw [List.map_append]; exact hown); subst hv2; have HO2 := hidden hown; have HG2 := hidden hgrow; have HP2 := hidden (hplace HPL.out); have HB2 := hidden (blk_kept HBK.out hgrow HNE2.out.1); have y0 : w2.cell? ⟨cb, 5, none⟩ = some av := HB2.out.cell (i := 5) rfl; have f0 := HB2.out.frozen 5; clear tok hown hgrow hplace))
  obtain ⟨w3, Ew3⟩ := exh (w2.setCell ⟨cb, 5, none⟩ (.slice a2 (N + ls.length) c2))
  have HB3 : Hid (Blk w3 cb t #[x0, x1, x2, x3, x4, .slice a2 (N + ls.length) c2, ev, x7]) := by rw [Ew3.out]; exact HB2.out.set 5 _
  rw [← Ew3.out]
  obtain ⟨N2, EN2⟩ := exh (N + ls.length)
  rw [← EN2.out] at HB3 HO2 HP2
  rw [← EN2.out]
  have q0 : w3.cell? ⟨cb, 5, none⟩ = some (.slice a2 N2 c2) := HB3.out.cell (i := 5) rfl
  have q1 : w3.cell? ⟨cb, 6, none⟩ = some ev := HB3.out.cell (i := 6) rfl
  have q1d : w3.drew.cell? ⟨cb, 6, none⟩ = some ev := q1
  have hfl := HB3.out.lt
  have HG3 : Hid (w2.grownBy w3 (some cb)) := by rw [Ew3.out]; exact (But.set cb 5 w2 _).grown
  obtain ⟨w4, Ew4⟩ := exh (w3.alloc (.cells #[.int .i64 (N2 : Int)] 3)).drew
  have HG4 : Hid (Bl w3 w4) := by rw [Ew4.out]; exact Below.drew ((Below.refl _ _).alloc (Nat.le_refl _) _)
  have HB4 := hidden (HB3.out.below HG4.out)
  have HOE4 : Hid (w4.ownsRow C 3 1 ev Ls.length ((endsL Ls).map nV)) := own_below (own_kept (own_kept HOE.out HG2.out HFA.out.or) HG3.out (new_ne (own_newB HOE.out) hfC)) HG4.out
  have HOA4 : Hid (w4.ownsRow C 3 1 (.slice a2 N2 c2) N2 (Ls.flatten.map nV ++ ls.map nV)) := own_below (own_kept HO2.out HG3.out (new_ne (own_newB HO2.out) hfC)) HG4.out
  have HFA4 : Hid (FaV (.slice a2 N2 c2) ev) := HFA.out.new HOE.out (Nat.le_refl _) HP2.out
  have HCL : Hid (w4.cell? ⟨w3.heap.size, 0, none⟩ = some (.int .i64 (N2 : Int))) := by
    show _ = _
    rw [Ew4.out]
    show (w3.alloc (.cells #[.int .i64 (N2 : Int)] 3)).cell? _ = _
    rw [cell_new rfl]; rfl
  have HSZ : Hid (w.heap.size ≤ w4.heap.size) := Nat.le_trans HG2.out.size (Nat.le_trans HG3.out.size HG4.out.size)
  have xa0 : w4.cell? ⟨cb, 5, none⟩ = some (.slice a2 N2 c2) := HB4.out.cell (i := 5) rfl
  have xa1 : w4.cell? ⟨cb, 6, none⟩ = some ev := HB4.out.cell (i := 6) rfl
  have HR5 : Hid (∀ g5 c5 w5, w5.ownsRow C 3 1 (.slice (some ⟨g5, 0, none⟩) (Ls.length + 1) c5) (Ls.length + 1) ((endsL Ls).map nV ++ [.int .i64 (N2 : Int)]) → w4.grownBy w5 ev.ownBlock → (ev.ownBlock = some g5 ∨ g5 = w4.heap.size) → (Blk w5 cb t #[x0, x1, x2, x3, x4, .slice a2 N2 c2, ev, x7]) ∧ AddP C w (w5.setCell ⟨cb, 6, none⟩ (.slice (some ⟨g5, 0, none⟩) (Ls.length + 1) c5)) cb x0 x1 x2 x3 x4 x7 av ev Ls t ls (.returned (.tuple #[]))) := by
    intro g5 c5 w5 hown hgrow hplace
    have hb5 := blk_kept HB4.out hgrow HNE2.out.2
    have hg6 := (But.set cb 6 w5 (.slice (some ⟨g5, 0, none⟩) (Ls.length + 1) c5)).grown
    have hlen : (Ls ++ [ls]).flatten.length = N2 := by rw [List.flatten_append, List.length_append, EN2.out, EN.out]; simp
    have s2 := HG2.out.size
    have s3 := HG3.out.size
    have s4 := HG4.out.size
    have s5 := hgrow.size
    refine ⟨hb5, .slice a2 N2 c2, .slice (some ⟨g5, 0, none⟩) (Ls.length + 1) c5, ⟨_, rfl⟩, hb5.set 6 _, ?_, ?_, ?_, ?_, ?_, ?_⟩
    · rw [hlen, List.flatten_append, List.map_append]
      have h1 := own_kept HOA4.out hgrow HFA4.out.symm.or
      have h2 := own_kept h1 hg6 (new_ne (own_newB HOA4.out) hfC)
      show World.ownsRow _ _ _ _ _ _ _
      simpa using h2
    · rw [endsL_snoc, List.map_append, List.length_append, ← EN.out]
      have h2 := own_kept hown hg6 (new_ne (own_newB hown) hfC)
      rw [EN2.out] at h2
      exact h2
    · exact (HFA4.out.symm.new HOA4.out (Nat.le_refl _) (place_of hplace)).symm
    · intro x hx h1 h2 h3
      rw [hg6.block x (by omega) (fun e => h1 (by injection e)), hgrow.block x (by omega) h3, HG4.out.block x (by omega), HG3.out.block x (by omega) (fun e => h1 (by injection e)), HG2.out.block x hx h2]
    · exact ⟨w.heap.size, w4.heap.size, Nat.le_refl _, HSZ.out, HP2.out, place_of hplace⟩
    · refine ⟨by have := hg6.size; omega, ?_, ?_, ?_⟩
      · rw [hg6.os, hgrow.os, HG4.out.os, HG3.out.os, HG2.out.os]
      · rw [hg6.tape, hgrow.tape, HG4.out.tape, HG3.out.tape, HG2.out.tape]
      · rw [hg6.output, hgrow.output, HG4.out.output, HG3.out.output, HG2.out.output]
  clear HB2 HO2 HG2 HOA HOE HBK z0 y0 f0
  refine wp_region_noPanic ?_
  refine wp_region_held_drew (S := fun wz => wz.cell? ⟨cb, 5, none⟩ = some (.slice a2 N2 c2)) (by kernel_rfl) (by exact q0) (fun hHeld => ?_)
  refine tk 0 ?_
  refine tk 1 ?_
  refine tk 2 ?_
  refine tk 3 ?_
  refine tk 5 ?_
  refine tk 6 ?_
  refine tk 7 ?_
  refine tk 8 ?_
  refine tk 9 ?_
  refine wpAnyH_ready (rs := [4, 10]) (by kernel_rfl) (by simp) ?_
  refine AllReadyH.cons (o := _) rfl (fun K hK => ?_) (AllReadyH.cons (o := _) rfl (fun K hK => ?_) AllReadyH.nil)
  · (try simp only [gA, gB, gC]); go_simp
    refine wo hK hHeld fun hHeld2 => ?_
    clear hK K
    refine rd 10 fun K hK => ?_
    (try simp only [gA, gB, gC]); go_simp
    rw [← Ew4.out]
    refine wo hK xa0 fun hHeld3 => ?_
    clear hK K
    refine rd 11 fun K hK => ?_
    refine step_int _ rfl (.tmp 17) (.tmp 23) rfl C ev Ls.length _ rfl HOE4.out ⟨w3.heap.size, 0, none⟩ (N2 : Int) rfl HCL.out (by omega) (Nat.le_trans hC HSZ.out) ?_
    intro g5 c5 w5 hown hgrow hplace
    obtain ⟨hb5, hfin⟩ := HR5.out g5 c5 w5 hown hgrow hplace
    have HFI := hidden hfin
    have y0 : w5.cell? ⟨cb, 5, none⟩ = some (.slice a2 N2 c2) := hb5.cell (i := 5) rfl
    have y1 : w5.cell? ⟨cb, 6, none⟩ = some ev := hb5.cell (i := 6) rfl
    have f1 := hb5.frozen 6
    clear hown hgrow hplace hb5 hfin HR5
    refine wo hK y0 fun hHeld4 => ?_
    clear hK K
    refine tk 12 ?_
    refine tk 13 ?_
    refine rd 14 fun K hK => ?_
    (try simp only [gA, gB, gC]); go_simp
    refine wo hK (by rw [World.cell?_setCell_other _ _ _ _ (by simp)]; exact y0) fun hHeld5 => ?_
    clear hK K
    refine wpAnyH_done (by kernel_rfl) ?_ _
    refine NoPanic.normal ?_
    go_wp2_with fail
    go_end0
    exact HFI.out
  · (try simp only [gA, gB, gC]); go_simp
    rw [← Ew4.out]
    refine wo hK xa0 fun hHeld2 => ?_
    clear hK K
    refine rd 4 fun K hK => ?_
    (try simp only [gA, gB, gC]); go_simp
    refine wo hK xa0 fun hHeld3 => ?_
    clear hK K
    refine rd 11 fun K hK => ?_
    refine step_int _ rfl (.tmp 17) (.tmp 23) rfl C ev Ls.length _ rfl HOE4.out ⟨w3.heap.size, 0, none⟩ (N2 : Int) rfl HCL.out (by omega) (Nat.le_trans hC HSZ.out) ?_
    intro g5 c5 w5 hown hgrow hplace
    obtain ⟨hb5, hfin⟩ := HR5.out g5 c5 w5 hown hgrow hplace
    have HFI := hidden hfin
    have y0 : w5.cell? ⟨cb, 5, none⟩ = some (.slice a2 N2 c2) := hb5.cell (i := 5) rfl
    have y1 : w5.cell? ⟨cb, 6, none⟩ = some ev := hb5.cell (i := 6) rfl
    have f1 := hb5.frozen 6
    clear hown hgrow hplace hb5 hfin HR5
    refine wo hK y0 fun hHeld4 => ?_
    clear hK K
    refine tk 12 ?_
    refine tk 13 ?_
    refine rd 14 fun K hK => ?_
    (try simp only [gA, gB, gC]); go_simp
    refine wo hK (by rw [World.cell?_setCell_other _ _ _ _ (by simp)]; exact y0) fun hHeld5 => ?_
    clear hK K
    refine wpAnyH_done (by kernel_rfl) ?_ _
    refine NoPanic.normal ?_
    go_wp2_with fail
    go_end0
    exact HFI.out
end Go.Proofs.Ytlaljeobdddegaa
