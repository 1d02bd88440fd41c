import Derived.Test.YtlaljeobdddegaaMqD
namespace Go.Proofs.Ytlaljeobdddegaa
open Go.RowKit Mp

/-- where a list begins, among lists one behind the other -/
def stO {α : Type} (Cs : List (List α)) (v : Nat) : Nat := (Cs.take v).flatten.length
theorem stO_zero {α : Type} (Cs : List (List α)) : stO Cs 0 = 0 := by unfold stO; simp
theorem getD_lt {α : Type} {Cs : List (List α)} {v : Nat} (h : v < Cs.length) : Cs[v]? = some (Cs.getD v []) := by
  rw [List.getD_eq_getElem?_getD, List.getElem?_eq_getElem h]; rfl
theorem stO_next {α : Type} {Cs : List (List α)} {v : Nat} (h : v < Cs.length) : stO Cs (v + 1) = stO Cs v + (Cs.getD v []).length := by
  unfold stO
  rw [take_next _ _ _ (getD_lt h), List.flatten_append, List.length_append]; simp
theorem stO_all {α : Type} (Cs : List (List α)) : stO Cs Cs.length = Cs.flatten.length := by unfold stO; rw [List.take_length]
theorem stO_le {α : Type} (Cs : List (List α)) (v : Nat) : stO Cs v ≤ Cs.flatten.length := by
  unfold stO
  have e : Cs.flatten = (Cs.take v).flatten ++ (Cs.drop v).flatten := by rw [← List.flatten_append, List.take_append_drop]
  rw [e, List.length_append]; omega
theorem flat_at {α : Type} {Cs : List (List α)} {v i : Nat} {c : α} (h : v < Cs.length) (hc : (Cs.getD v [])[i]? = some c) : Cs.flatten[stO Cs v + i]? = some c := by
  have e : Cs = Cs.take v ++ (Cs.getD v [] :: Cs.drop (v + 1)) := by
    have h1 := List.drop_eq_getElem_cons h
    have h2 : Cs.getD v [] = Cs[v] := by rw [List.getD_eq_getElem?_getD, List.getElem?_eq_getElem h]; rfl
    rw [h2, ← h1, List.take_append_drop]
  have hl := (List.getElem?_eq_some_iff.1 hc).1
  have e2 : Cs.flatten = (Cs.take v).flatten ++ ((Cs.getD v []) ++ (Cs.drop (v + 1)).flatten) := by
    conv => lhs; rw [e]
    rw [List.flatten_append, List.flatten_cons]
  rw [e2]
  unfold stO
  rw [List.getElem?_append_right (by omega), List.getElem?_append_left (by omega)]
  have : (Cs.take v).flatten.length + i - (Cs.take v).flatten.length = i := by omega
  rw [this]; exact hc
structure FnS where
  fb : Nat
  ab : Nat
  ca : Nat
  eb : Nat
  ce : Nat
/-- the cuts of all variables, in memory -/
structure FinR (w : World) (S : FnS) (Cs : List (List Ct)) : Prop where
  c0 : w.cell? ⟨S.fb, 0, none⟩ = some (.slice (some ⟨S.ab, 0, none⟩) Cs.flatten.length S.ca)
  c1 : w.cell? ⟨S.fb, 1, none⟩ = some (.slice (some ⟨S.eb, 0, none⟩) Cs.length S.ce)
  lf : S.fb < w.heap.size
  le : S.eb < w.heap.size
  cap : Cs.flatten.length ≤ S.ca
  all : ∀ k c, Cs.flatten[k]? = some c → CtAt w S.ab (k * 8) c
  ends : ∀ v, v < Cs.length → w.cell? ⟨S.eb, v, none⟩ = some (.int .i64 (stO Cs (v + 1) : Nat))
  few : Cs.flatten.length ≤ 1000000000000
  num : Cs.length ≤ 1000000
  lv4 : ∀ cs, cs ∈ Cs → ∀ c, c ∈ cs → c.lv.length ≤ 4
theorem FinR.to {w w' : World} {S : FnS} {Cs : List (List Ct)} (h : FinR w S Cs) (hb : Bl w w') : FinR w' S Cs :=
  ⟨(hb.cell (p := ⟨S.fb, 0, none⟩) h.lf).trans h.c0, (hb.cell (p := ⟨S.fb, 1, none⟩) h.lf).trans h.c1, Nat.lt_of_lt_of_le h.lf hb.size, Nat.lt_of_lt_of_le h.le hb.size, h.cap, fun k c hc => (h.all k c hc).to (h.all k c hc).lt hb, fun v hv => (hb.cell (p := ⟨S.eb, v, none⟩) h.le).trans (h.ends v hv), h.few, h.num, h.lv4⟩
theorem FinR.at {w : World} {S : FnS} {Cs : List (List Ct)} (h : FinR w S Cs) {v i : Nat} {c : Ct} (hv : v < Cs.length) (hc : (Cs.getD v [])[i]? = some c) : CtAt w S.ab (stO Cs v * 8 + i * 8) c ∧ c.lv.length ≤ 4 := by
  have := h.all _ _ (flat_at hv hc)
  rw [Nat.add_mul] at this
  exact ⟨this, h.lv4 _ (List.mem_of_getElem? (getD_lt hv)) c (List.mem_of_getElem? hc)⟩
theorem cut_u : Try.prog.underlying 83 = some (.slice (Try.prog.elem 83)) := by kernel_rfl
theorem cut_s (wx : World) : (sizeOf (Try.prog.elem 83)).run Try.prog wx = .ok 8 wx := by kernel_rfl
theorem cut_sl (wx : World) (ab n ca s e : Nat) (h1 : s < e) (h2 : e ≤ ca) : (Instr.sliceAt 83 (.slice (some ⟨ab, 0, none⟩) n ca) (some (.int .i64 (s : Int))) (some (.int .i64 (e : Int))) (some (.int .i64 (e : Int)))).run Try.prog wx = .ok (.slice (some ⟨ab, s * 8, none⟩) (e - s) (e - s)) wx := by
  rw [run_sliceAt_slice wx _ _ _ _ _ cut_u, run_slice_lhm wx _ _ n ca cut_u .i64 .i64 .i64 s e e (by omega) (by omega) (Int.le_refl _) (by omega), cut_s]
  show Result.ok (sliced _ s e e 8) wx = _
  unfold sliced
  rw [if_neg (by omega)]
  have : (⟨ab, 0, none⟩ : Addr).add (s * 8) = ⟨ab, s * 8, none⟩ := by unfold Addr.add; split <;> simp_all
  simp only [Option.map_some, this]

set_option maxRecDepth 100000 in
set_option maxHeartbeats 8000000 in
theorem atcut_any (w : World) (b o eb ce ab n ca m v s e : Nat) (c0 : w.cell? ⟨b, o, none⟩ = some (.slice (some ⟨ab, 0, none⟩) n ca)) (c1 : w.cell? ⟨b, o + 1, none⟩ = some (.slice (some ⟨eb, 0, none⟩) m ce)) (hv : v < m) (hm : m ≤ 1000000) (ce1 : w.cell? ⟨eb, v, none⟩ = some (.int .i64 (e : Nat))) (cs0 : v = 0 → s = 0) (cs1 : 0 < v → w.cell? ⟨eb, v - 1, none⟩ = some (.int .i64 (s : Nat))) (hse : s < e) (hec : e ≤ ca) (hbig : e ≤ 1000000000000) :
    Calls Try.prog 58 #[.pointer (some ⟨b, o, none⟩), .int .i64 (v : Nat)] w fun x w' => x = .returned (.slice (some ⟨ab, s * 8, none⟩) (e - s) (e - s)) ∧ Bl w w' := by
  have RS : ∀ wx : World, (Instr.sliceAt 83 (.slice (some ⟨ab, 0, none⟩) n ca) (some (.int .i64 (s : Int))) (some (.int .i64 (e : Int))) (some (.int .i64 (e : Int)))).run Try.prog wx = .ok (.slice (some ⟨ab, s * 8, none⟩) (e - s) (e - s)) wx := fun wx => cut_sl wx ab n ca s e hse hec
  have hvI : (v : Int) < (m : Int) := by omega
  by_cases h0 : v = 0
  · have hs0 := cs0 h0
    subst h0
    subst hs0
    have hz : ¬ (0 : Int) < 0 := by omega
    clear cs0 cs1
    go_enter Try.func58, Try.ntmps58
    go_wp2_with fail
    refine wp_region_noPanic ?_
    refine wp_region_held_drew (S := fun wz => wz.cell? ⟨b, o + 1, none⟩ = some (.slice (some ⟨eb, 0, none⟩) m ce) ∧ wz.cell? ⟨eb, 0, none⟩ = some (.int .i64 (e : Int))) (by kernel_rfl) (by exact ⟨c1, ce1⟩) (fun hHeld => ?_)
    refine tk 0 ?_
    refine tk 1 ?_
    refine tk 2 ?_
    refine tk 3 ?_
    refine tk 4 ?_
    refine tk 5 ?_
    refine tk 6 ?_
    refine tk 7 ?_
    refine tk 8 ?_
    refine wpAnyH_done (by kernel_rfl) ?_ _
    refine NoPanic.normal ?_
    go_wp2
    go_ret
    exact ⟨by show Ending.returned (Value.slice _ e e) = _; rw [Nat.zero_mul, Nat.sub_zero], Below.drew (Below.refl _ _)⟩
  · have c3 := cs1 (by omega)
    have hz : (0 : Int) < (v : Int) := by omega
    have e2 : IntKind.i64.wrap ((v : Int) - 1) = ((v - 1 : Nat) : Int) := by rw [wrapI _ (by omega) (by omega)]; omega
    have hz2 : ((v - 1 : Nat) : Int) < (m : Int) := by omega
    obtain ⟨v1, Ev1⟩ := exh (v - 1)
    rw [← Ev1.out] at e2 c3 hz2
    generalize e - s = ln at *
    clear cs0 cs1 h0
    go_enter Try.func58, Try.ntmps58
    go_wp2_with fail
    refine wp_region_noPanic ?_
    refine wp_region_held_drew (S := fun wz => wz.cell? ⟨b, o + 1, none⟩ = some (.slice (some ⟨eb, 0, none⟩) m ce) ∧ wz.cell? ⟨eb, v, none⟩ = some (.int .i64 (e : Int))) (by kernel_rfl) (by exact ⟨c1, ce1⟩) (fun hHeld => ?_)
    refine tk 0 ?_
    refine tk 1 ?_
    refine tk 2 ?_
    refine tk 3 ?_
    refine tk 4 ?_
    refine tk 5 ?_
    refine tk 6 ?_
    refine tk 7 ?_
    refine tk 8 ?_
    refine wpAnyH_done (by kernel_rfl) ?_ _
    refine NoPanic.normal ?_
    go_wp2
    go_ret
    exact ⟨rfl, Below.drew (Below.refl _ _)⟩

theorem int_u : Try.prog.underlying 24 = some (.slice (Try.prog.elem 24)) := by kernel_rfl
theorem int_s (wx : World) : (sizeOf (Try.prog.elem 24)).run Try.prog wx = .ok 1 wx := by kernel_rfl
theorem int_sl (wx : World) (ab n ca s e : Nat) (h1 : s < e) (h2 : e ≤ ca) : (Instr.sliceAt 24 (.slice (some ⟨ab, 0, none⟩) n ca) (some (.int .i64 (s : Int))) (some (.int .i64 (e : Int))) (some (.int .i64 (e : Int)))).run Try.prog wx = .ok (.slice (some ⟨ab, s * 1, none⟩) (e - s) (e - s)) wx := by
  rw [run_sliceAt_slice wx _ _ _ _ _ int_u, run_slice_lhm wx _ _ n ca int_u .i64 .i64 .i64 s e e (by omega) (by omega) (Int.le_refl _) (by omega), int_s]
  show Result.ok (sliced _ s e e 1) wx = _
  unfold sliced
  rw [if_neg (by omega)]
  have : (⟨ab, 0, none⟩ : Addr).add (s * 1) = ⟨ab, s * 1, none⟩ := by unfold Addr.add; split <;> simp_all
  simp only [Option.map_some, this]

set_option maxRecDepth 100000 in
set_option maxHeartbeats 8000000 in
theorem atint_any (w : World) (b o eb ce ab n ca m v s e : Nat) (c0 : w.cell? ⟨b, o, none⟩ = some (.slice (some ⟨ab, 0, none⟩) n ca)) (c1 : w.cell? ⟨b, o + 1, none⟩ = some (.slice (some ⟨eb, 0, none⟩) m ce)) (hv : v < m) (hm : m ≤ 1000000) (ce1 : w.cell? ⟨eb, v, none⟩ = some (.int .i64 (e : Nat))) (cs0 : v = 0 → s = 0) (cs1 : 0 < v → w.cell? ⟨eb, v - 1, none⟩ = some (.int .i64 (s : Nat))) (hse : s < e) (hec : e ≤ ca) (hbig : e ≤ 1000000000000) :
    Calls Try.prog 38 #[.pointer (some ⟨b, o, none⟩), .int .i64 (v : Nat)] w fun x w' => x = .returned (.slice (some ⟨ab, s * 1, none⟩) (e - s) (e - s)) ∧ Bl w w' := by
  have RS : ∀ wx : World, (Instr.sliceAt 24 (.slice (some ⟨ab, 0, none⟩) n ca) (some (.int .i64 (s : Int))) (some (.int .i64 (e : Int))) (some (.int .i64 (e : Int)))).run Try.prog wx = .ok (.slice (some ⟨ab, s * 1, none⟩) (e - s) (e - s)) wx := fun wx => int_sl wx ab n ca s e hse hec
  have hvI : (v : Int) < (m : Int) := by omega
  by_cases h0 : v = 0
  · have hs0 := cs0 h0
    subst h0
    subst hs0
    have hz : ¬ (0 : Int) < 0 := by omega
    clear cs0 cs1
    go_enter Try.func38, Try.ntmps38
    go_wp2_with fail
    refine wp_region_noPanic ?_
    refine wp_region_held_drew (S := fun wz => wz.cell? ⟨b, o + 1, none⟩ = some (.slice (some ⟨eb, 0, none⟩) m ce) ∧ wz.cell? ⟨eb, 0, none⟩ = some (.int .i64 (e : Int))) (by kernel_rfl) (by exact ⟨c1, ce1⟩) (fun hHeld => ?_)
    refine tk 0 ?_
    refine tk 1 ?_
    refine tk 2 ?_
    refine tk 3 ?_
    refine tk 4 ?_
    refine tk 5 ?_
    refine tk 6 ?_
    refine tk 7 ?_
    refine tk 8 ?_
    refine wpAnyH_done (by kernel_rfl) ?_ _
    refine NoPanic.normal ?_
    go_wp2
    go_ret
    exact ⟨by show Ending.returned (Value.slice _ e e) = _; rw [Nat.zero_mul, Nat.sub_zero], Below.drew (Below.refl _ _)⟩
  · have c3 := cs1 (by omega)
    have hz : (0 : Int) < (v : Int) := by omega
    have e2 : IntKind.i64.wrap ((v : Int) - 1) = ((v - 1 : Nat) : Int) := by rw [wrapI _ (by omega) (by omega)]; omega
    have hz2 : ((v - 1 : Nat) : Int) < (m : Int) := by omega
    obtain ⟨v1, Ev1⟩ := exh (v - 1)
    rw [← Ev1.out] at e2 c3 hz2
    generalize e - s = ln at *
    clear cs0 cs1 h0
    go_enter Try.func38, Try.ntmps38
    go_wp2_with fail
    refine wp_region_noPanic ?_
    refine wp_region_held_drew (S := fun wz => wz.cell? ⟨b, o + 1, none⟩ = some (.slice (some ⟨eb, 0, none⟩) m ce) ∧ wz.cell? ⟨eb, v, none⟩ = some (.int .i64 (e : Int))) (by kernel_rfl) (by exact ⟨c1, ce1⟩) (fun hHeld => ?_)
    refine tk 0 ?_
    refine tk 1 ?_
    refine tk 2 ?_
    refine tk 3 ?_
    refine tk 4 ?_
    refine tk 5 ?_
    refine tk 6 ?_
    refine tk 7 ?_
    refine tk 8 ?_
    refine wpAnyH_done (by kernel_rfl) ?_ _
    refine NoPanic.normal ?_
    go_wp2
    go_ret
    exact ⟨by show Ending.returned (Value.slice (some ⟨ab, s, none⟩) ln ln) = _; rw [Nat.mul_one], Below.drew (Below.refl _ _)⟩

set_option maxRecDepth 100000 in
set_option maxHeartbeats 8000000 in
theorem finAt_any (w : World) (S : FnS) (Cs : List (List Ct)) (h : FinR w S Cs) (v : Nat) (hv : v < Cs.length) (hne : Cs.getD v [] ≠ []) :
    Calls Try.prog 58 #[.pointer (some ⟨S.fb, 0, none⟩), .int .i64 (v : Nat)] w fun e w' => e = .returned (.slice (some ⟨S.ab, stO Cs v * 8, none⟩) (Cs.getD v []).length (Cs.getD v []).length) ∧ Bl w w' := by
  have hp := List.length_pos_iff.2 hne
  have hn := stO_next hv
  have := atcut_any w S.fb 0 S.eb S.ce S.ab Cs.flatten.length S.ca Cs.length v (stO Cs v) (stO Cs (v + 1)) h.c0 h.c1 hv h.num (h.ends v hv) (fun e => by rw [e]; exact stO_zero Cs) (fun hp => by have := h.ends (v - 1) (by omega); rwa [show v - 1 + 1 = v by omega] at this) (by omega) (Nat.le_trans (stO_le Cs _) h.cap) (Nat.le_trans (stO_le Cs _) h.few)
  have e : stO Cs (v + 1) - stO Cs v = (Cs.getD v []).length := by omega
  rw [e] at this
  exact this

set_option maxRecDepth 100000 in
set_option maxHeartbeats 8000000 in
theorem told_any (w : World) (S : FnS) (Cs : List (List Ct)) (h : FinR w S Cs) (v : Nat) (hv : v < Cs.length) (hne : Cs.getD v [] ≠ []) (bb bo : Nat) (c : Ct) (hc : CtAt w bb bo c) (lc : c.lv.length ≤ 4) :
    Calls Try.prog 81 #[.pointer (some ⟨S.fb, 0, none⟩), .int .i64 (v : Nat), .pointer (some ⟨bb, bo, none⟩)] w fun e w' => e = .returned (.bool (toldB (KOf Cs) v c.lv)) ∧ Bl w w' := by
  have AT := hidden (finAt_any w S Cs h v hv hne)
  have HC : Hid (∀ (u : World) (i : Nat) (x : Ct), Bl w u → (Cs.getD v [])[i]? = some x → Calls Try.prog 83 #[.pointer (some ⟨S.ab, stO Cs v * 8 + i * 8, none⟩), .pointer (some ⟨bb, bo, none⟩)] u fun e w' => e = .returned (.bool (wit x.lv c.lv)) ∧ Bl u w') := fun u i x hu hx => by
    obtain ⟨h1, h2⟩ := (h.to hu).at hv hx
    exact within_any u _ _ _ _ x c h1 (hc.to hc.lt hu) h2 lc
  have e0 : toldB (KOf Cs) v c.lv = (Cs.getD v []).any (fun k => wit k.lv c.lv) := by unfold toldB KOf; rw [List.any_map]; rfl
  rw [e0]
  obtain ⟨r, HR⟩ := exh ((Cs.getD v []).any (fun k => wit k.lv c.lv))
  rw [← HR.out]
  have hl : (Cs.getD v []).length ≤ 1000000000000 := by
    have h1 := stO_next hv
    have h2 := stO_le Cs (v + 1)
    have h3 := h.few
    omega
  generalize Cs.getD v [] = cs at *
  obtain ⟨n, En⟩ := exh cs.length
  rw [← En.out] at AT hl
  generalize stO Cs v = so at *
  generalize S.ab = ab at *
  generalize S.fb = fb at *
  clear h hc e0 hne
  go_enter Try.func81, Try.ntmps81
  go_wp2_with fail
  go_at_call 58
  refine AT.out.mono ?_
  rintro e v1 ⟨rfl, hv1⟩
  have HB1 := hidden hv1
  clear hv1 AT
  go_wp2_with fail
  go_loopw [8, 16] (fun _ i' w' => ∃ k : Nat, k ≤ n ∧ i' = .int .i64 (k : Int) ∧ Hid ((cs.take k).any (fun k => wit k.lv c.lv) = false) ∧ Hid (Bl w w')) (fun _ i' _ => n - (intOf i').toNat)
  case atStart => exact ⟨0, Nat.zero_le _, rfl, (by show (cs.take 0).any _ = false; rfl), HB1.out⟩
  case round =>
    obtain ⟨k, hk, rfl, HAN, HBW⟩ := hrel
    by_cases hlt : k < n
    · have hltI : (k : Int) < (n : Int) := by omega
      obtain ⟨x, hx⟩ := getElem_lt (show k < cs.length by rw [← En.out]; exact hlt)
      have HW := hidden (HC.out wr k x HBW.out hx)
      have e2 : IntKind.i64.wrap ((k : Int) + 1) = (k : Int) + 1 := wrapI _ (by omega) (by omega)
      have HNX : Hid ((cs.take (k + 1)).any (fun k => wit k.lv c.lv) = wit x.lv c.lv) := by
        show _ = _
        rw [take_next _ _ _ hx, List.any_append, HAN.out]; simp
      have HRT : Hid (wit x.lv c.lv = true → r = true) := fun hw => by
        rw [HR.out]; exact List.any_eq_true.2 ⟨x, List.mem_of_getElem? hx, hw⟩
      clear hx HAN
      generalize wit x.lv c.lv = b at *
      go_wp2_with fail
      go_at_call 83
      refine HW.out.mono ?_
      rintro e v2 ⟨rfl, hv2⟩
      have HB2 : Hid (Bl w v2) := HBW.out.trans (hv2.mono HBW.out.size)
      clear hv2 HW
      cases b with
      | true =>
        have HRT2 : Hid (r = true) := HRT.out rfl
        clear HRT
        go_wp2
        go_ret
        exact ⟨ret_bool HRT2.out.symm, HB2.out⟩
      | false =>
        clear HRT
        go_wp2
        go_roundw
        case measure => simp [intOf]; omega
        case rel => exact ⟨k + 1, by omega, by simp, HNX.out, HB2.out⟩
    · have hge : ¬ (k : Int) < (n : Int) := by omega
      have HRF : Hid (r = false) := by
        have := HAN.out
        rw [List.take_of_length_le (by have := En.out; omega)] at this
        show _ = _
        rw [HR.out]; exact this
      go_wp2
      go_ret
      exact ⟨ret_bool HRF.out.symm, HBW.out⟩
end Go.Proofs.Ytlaljeobdddegaa
