import Derived.Test.YtlaljeobdddegaaMqY
namespace Go.Proofs.Ytlaljeobdddegaa
open Go.RowKit Mp

def tabL {α : Type} (m : Nat) (f : Nat → α) : List α := (List.range m).map f
theorem tabL_len {α : Type} (m : Nat) (f : Nat → α) : (tabL m f).length = m := by simp [tabL]
theorem tabL_get {α : Type} {m : Nat} {f : Nat → α} {i : Nat} (h : i < m) : (tabL m f)[i]? = some (f i) := by
  unfold tabL; rw [List.getElem?_map, List.getElem?_range h]; rfl
def upd {α : Type} (f : Nat → α) (i : Nat) (v : α) : Nat → α := fun j => if j = i then v else f j
theorem upd_same {α : Type} (f : Nat → α) (i : Nat) (v : α) : upd f i v i = v := by simp [upd]
theorem upd_ne {α : Type} {f : Nat → α} {i j : Nat} {v : α} (h : j ≠ i) : upd f i v j = f j := by simp [upd, h]
theorem tabL_congr {α : Type} {m : Nat} {f g : Nat → α} (h : ∀ i, i < m → f i = g i) : tabL m f = tabL m g := by
  unfold tabL; exact List.map_congr_left (fun i hi => h i (List.mem_range.1 hi))
theorem tabL_set {α : Type} (m : Nat) (f : Nat → α) (i : Nat) (v : α) : (tabL m f).set i v = tabL m (upd f i v) := by
  apply List.ext_getElem?
  intro k
  by_cases hk : k < m
  · rw [tabL_get hk]
    by_cases e : i = k
    · subst e
      rw [List.getElem?_set_self (by rw [tabL_len]; exact hk), upd_same]
    · rw [List.getElem?_set_ne e, tabL_get hk, upd_ne (fun h => e h.symm)]
  · rw [List.getElem?_eq_none (by rw [List.length_set, tabL_len]; omega), List.getElem?_eq_none (by rw [tabL_len]; omega)]
theorem tab_get {m : Nat} {f : Nat → Value} {i : Nat} (h : i < m) : (tabL m f).toArray[i]? = some (f i) := by
  rw [List.getElem?_toArray, tabL_get h]
theorem tab_set {m : Nat} {f : Nat → Value} {i : Nat} {v : Value} : (tabL m f).toArray.setIfInBounds i v = (tabL m (upd f i v)).toArray := by
  rw [List.setIfInBounds_toArray, tabL_set]

structure ChS where
  cb : Nat
  fb : Nat
  pb : Nat
  ub : Nat
  N : Nat
  F : Nat
/-- a chooser in memory -/
structure ChAt (w : World) (D : ChS) (U : Nat → Nat) (gv lv ev bv : Value) : Prop where
  bk : Blk w D.cb 89 #[.pointer (some ⟨D.fb, 0, none⟩), .int .i64 (D.F : Nat), .slice (some ⟨D.pb, 0, none⟩) D.N D.N, .slice (some ⟨D.ub, 0, none⟩) D.N D.N, gv, lv, ev, bv]
  pr : ∃ f : Nat → Int, Blk w D.pb 3 (tabL D.N fun v => .int .i64 (f v)).toArray
  un : Blk w D.ub 3 (tabL D.N fun v => .int .i64 (U v : Nat)).toArray
  ne : D.cb ≠ D.ub ∧ D.pb ≠ D.ub ∧ D.cb ≠ D.pb
theorem ChAt.to {w w' : World} {D : ChS} {U : Nat → Nat} {gv lv ev bv : Value} (h : ChAt w D U gv lv ev bv) (hb : Bl w w') : ChAt w' D U gv lv ev bv := by
  obtain ⟨f, hf⟩ := h.pr
  exact ⟨h.bk.below hb, ⟨f, hf.below hb⟩, h.un.below hb, h.ne⟩
theorem own_num {w : World} {C : Nat} {v : Value} {n : Nat} {l : List Nat} (h : w.ownsRow C 3 1 v n (l.map nV)) : ∃ a c, v = .slice a n c ∧ n = l.length ∧ NumR w a l ∧ (l = [] → a = none ∧ c = 0 ∨ ∃ g, a = some ⟨g, 0, none⟩) := by
  have hl : n = l.length := by have := h.1; simp at this; omega
  rcases h.2 with ⟨rfl, h0⟩ | ⟨g, cap, cur, rfl, _, hg, _, _, h3, h4⟩
  · subst h0
    exact ⟨none, 0, rfl, hl, fun k y hy => by rw [List.eq_nil_of_length_eq_zero hl.symm] at hy; simp at hy, fun _ => Or.inl ⟨rfl, rfl⟩⟩
  · refine ⟨some ⟨g, 0, none⟩, cap, rfl, hl, fun k y hy => ⟨g, 0, rfl, ?_⟩, fun _ => Or.inr ⟨g, rfl⟩⟩
    have hk := (List.getElem?_eq_some_iff.1 hy).1
    have h5 : (l.map nV)[k]? = some (nV y) := by rw [List.getElem?_map, hy]; rfl
    rw [← h4, List.getElem?_take_of_lt (by omega), Array.getElem?_toList] at h5
    rw [Nat.zero_add]
    simp [World.cell?, hg, h5, nV]
def needU (U : Nat → Nat) (v t : Nat) : Nat → Nat := if U v = 0 ∨ t < U v then upd U v t else U
theorem upd_nat (U : Nat → Nat) (v t : Nat) : upd (fun v => Value.int .i64 ((U v : Nat) : Int)) v (.int .i64 (t : Nat)) = fun u => Value.int .i64 ((upd U v t u : Nat) : Int) := by
  funext u; unfold upd; split <;> rfl
set_option maxRecDepth 100000 in
set_option maxHeartbeats 8000000 in
theorem costs_any (w : World) (D : ChS) (U : Nat → Nat) (gv lv ev bv : Value) (h : ChAt w D U gv lv ev bv) (b o : Nat) (c : Ct) (hc : CtAt w b o c) (h4 : c.lv.length ≤ 4) (htb : c.tb < 65536) (hlv : ∀ u, u ∈ c.lv → u < D.N) :
    Calls Try.prog 59 #[.pointer (some ⟨D.cb, 0, none⟩), .pointer (some ⟨b, o, none⟩)] w fun e w' => (∃ z : Int, e = .returned (.int .i64 z)) ∧ Bl w w' := by
  have WT := hidden (weighty_any w b o c hc h4 htb)
  have HCL : Hid (∀ v : World, Bl w v → ∀ (k x : Nat), c.lv[k]? = some x → v.cell? ⟨b, o + k, none⟩ = some (.int .i64 (x : Nat))) := fun v hv k x hx => (hc.to hc.lt hv).leaf h4 hx
  have HCH : Hid (∀ v : World, Bl w v → v.cell? ⟨D.cb, 3, none⟩ = some (.slice (some ⟨D.ub, 0, none⟩) D.N D.N) ∧ v.cell? ⟨D.cb, 2, none⟩ = some (.slice (some ⟨D.pb, 0, none⟩) D.N D.N)) := fun v hv => ⟨(h.to hv).bk.cell (i := 3) rfl, (h.to hv).bk.cell (i := 2) rfl⟩
  have HUN : Hid (∀ v : World, Bl w v → ∀ u, u < D.N → v.cell? ⟨D.ub, u, none⟩ = some (.int .i64 (U u : Nat))) := fun v hv u hu => (h.to hv).un.cell (tab_get hu)
  have HPR : Hid (∀ v : World, Bl w v → ∀ u, u < D.N → ∃ z : Int, v.cell? ⟨D.pb, u, none⟩ = some (.int .i64 z)) := fun v hv u hu => by
    obtain ⟨f, hf⟩ := (h.to hv).pr
    exact ⟨f u, hf.cell (tab_get hu)⟩
  have HLV := hidden hlv
  have HWL : Hid (∀ p, p ∈ wtyL c → p < c.lv.length) := wtyL_lt
  have HW4 : Hid ((wtyL c).length ≤ 4) := Nat.le_trans (wtyL_len c) h4
  generalize D.cb = cb at *
  generalize D.ub = ub at *
  generalize D.pb = pb at *
  generalize D.N = N at *
  generalize wtyL c = ps at *
  clear h hc htb hlv
  go_enter Try.func59, Try.ntmps59
  go_wp2_with fail
  go_at_call 60
  refine WT.out.mono ?_
  rintro e w1 ⟨v1, rfl, HO1, HB1⟩
  obtain ⟨la, lc, ev1, hn1, hnr, _⟩ := own_num HO1.out
  subst ev1
  have HNR := hidden hnr
  obtain ⟨n, En⟩ := exh ps.length
  rw [← En.out]
  have hn4 : n ≤ 4 := by rw [En.out]; exact HW4.out
  clear hnr hn1 WT HO1
  go_wp2_with fail
  go_loopw [5, 7, 8, 12] (fun s' _ _ i' w' => ∃ (k : Nat) (z : Int), k ≤ n ∧ i' = .int .i64 (k : Int) ∧ s' = .int .i64 z ∧ Hid (w' = w1)) (fun _ _ _ i' _ => n - (intOf i').toNat)
  case atStart => exact ⟨0, 0, Nat.zero_le _, rfl, rfl, rfl⟩
  case round =>
    obtain ⟨k, z, hk, rfl, rfl, HW⟩ := hrel
    obtain rfl := HW.out
    clear HW
    by_cases hlt : k < n
    · have hltI : (k : Int) < (n : Int) := by omega
      obtain ⟨p, hp⟩ := getElem_lt (show k < ps.length by rw [← En.out]; exact hlt)
      obtain ⟨b', o', ea, cx⟩ := HNR.out k p hp
      have hpl := HWL.out p (List.mem_of_getElem? hp)
      obtain ⟨u, hu⟩ := getElem_lt hpl
      have cu := HCL.out wr HB1.out p u hu
      have huN := HLV.out u (List.mem_of_getElem? hu)
      have huI : (u : Int) < (N : Int) := by omega
      obtain ⟨d3, d2⟩ := HCH.out wr HB1.out
      have du := HUN.out wr HB1.out u huN
      obtain ⟨z2, dp⟩ := HPR.out wr HB1.out u huN
      have e2 : IntKind.i64.wrap ((k : Int) + 1) = (k : Int) + 1 := wrapI _ (by omega) (by omega)
      have hp4 : (p : Int) < 4 := by omega
      obtain ⟨x, Ex⟩ := exh (U u)
      rw [← Ex.out] at du
      subst ea
      clear hp hu hpl
      by_cases h0 : x = 0
      · subst h0
        go_wp2
        go_roundw
        case measure => simp [intOf]; omega
        case rel => exact ⟨k + 1, _, by omega, by simp, rfl, True.intro⟩
      · have h0I : ¬ (x : Int) = 0 := by omega
        go_wp2
        go_roundw
        case measure => simp [intOf]; omega
        case rel => exact ⟨k + 1, z, by omega, by simp, rfl, True.intro⟩
    · have hge : ¬ (k : Int) < (n : Int) := by omega
      go_wp2
      go_ret
      exact ⟨⟨z, rfl⟩, HB1.out⟩
set_option maxRecDepth 100000 in
set_option maxHeartbeats 8000000 in
theorem need_any (w : World) (D : ChS) (U : Nat → Nat) (gv lv ev bv : Value) (h : ChAt w D U gv lv ev bv) (v t : Nat) (hv : v < D.N) :
    Calls Try.prog 61 #[.pointer (some ⟨D.cb, 0, none⟩), .int .i64 (v : Nat), .int .i64 (t : Nat)] w fun e w' => (∃ x, e = .returned x) ∧ Hid (ChAt w' D (needU U v t) gv lv ev bv) ∧ Hid (But D.ub w w') := by
  have c3 : w.cell? ⟨D.cb, 3, none⟩ = some (.slice (some ⟨D.ub, 0, none⟩) D.N D.N) := h.bk.cell (i := 3) rfl
  have cu : w.cell? ⟨D.ub, v, none⟩ = some (.int .i64 (U v : Nat)) := h.un.cell (tab_get hv)
  have fu := h.un.frozen v
  have HNS : Hid (ChAt (w.setCell ⟨D.ub, v, none⟩ (.int .i64 (t : Nat))) D (upd U v t) gv lv ev bv) := by
    have hb := But.set D.ub v w (.int .i64 (t : Nat))
    obtain ⟨f, hf⟩ := h.pr
    refine ⟨hb.blk h.bk h.ne.1, ⟨f, hb.blk hf h.ne.2.1⟩, ?_, h.ne⟩
    have := h.un.set v (.int .i64 (t : Nat))
    rw [tab_set, upd_nat] at this
    exact this
  have HBT : Hid (But D.ub w (w.setCell ⟨D.ub, v, none⟩ (.int .i64 (t : Nat)))) := But.set _ _ _ _
  have HCH := hidden h
  have hvI : (v : Int) < (D.N : Int) := by omega
  obtain ⟨x, Ex⟩ := exh (U v)
  rw [← Ex.out] at cu
  have HN1 : Hid (x = 0 ∨ t < x → needU U v t = upd U v t) := fun hh => by unfold needU; rw [← Ex.out, if_pos hh]
  have HN2 : Hid (¬ (x = 0 ∨ t < x) → needU U v t = U) := fun hh => by unfold needU; rw [← Ex.out, if_neg hh]
  clear h
  by_cases h0 : x = 0
  · have HN3 := hidden (HN1.out (Or.inl h0))
    clear HN1 HN2
    subst h0
    go_enter Try.func61, Try.ntmps61
    go_wp2
    go_end0
    exact ⟨⟨_, rfl⟩, by rw [HN3.out]; exact HNS.out, HBT.out⟩
  · have h0I : ¬ (x : Int) = 0 := by omega
    by_cases hlt : t < x
    · have hltI : (t : Int) < (x : Int) := by omega
      have HN3 := hidden (HN1.out (Or.inr hlt))
      clear HN1 HN2
      go_enter Try.func61, Try.ntmps61
      go_wp2
      go_end0
      exact ⟨⟨_, rfl⟩, by rw [HN3.out]; exact HNS.out, HBT.out⟩
    · have hltI : ¬ (t : Int) < (x : Int) := by omega
      have HN3 := hidden (HN2.out (fun hh => by omega))
      clear HN1 HN2
      go_enter Try.func61, Try.ntmps61
      go_wp2
      go_end0
      exact ⟨⟨_, rfl⟩, by rw [HN3.out]; exact HCH.out, But.refl _ _⟩
end Go.Proofs.Ytlaljeobdddegaa
