import Derived.Test.YtefjicdhccfieaaK01
import Derived.Test.YtefjicdhccfieaaK34
set_option maxRecDepth 100000
set_option maxHeartbeats 16000000
namespace Go.Proofs.Ytefjicdhccfieaa
open Go.RowKit
def BD (B : Nat) (w : World) (bb : Nat) (st : St) : Prop := ∃ sl, Rows' B w bb (fields sl st) sl ∧ Link sl st
theorem Bd.bd {B : Nat} {w : World} {bb : Nat} {st : St} {X : Slot} {CV : Value} (h : Bd B w bb st X CV) : BD B w bb st := by
 obtain ⟨sl, R, L, _⟩ := h
 exact ⟨sl, R, L⟩
theorem BD.bd {B : Nat} {w : World} {bb : Nat} {st : St} (h : BD B w bb st) : ∃ X CV, Bd B w bb st X CV := by
 obtain ⟨sl, R, L⟩ := h
 exact ⟨_, _, sl, R, L, rfl, rfl⟩
def WakeP (F : List (List Int)) (L A : Int → Prop) (b B : Nat) (w : World) (bb : Nat) (st : St) (e : Ending) (w' : World) : Prop :=
 (e = .returned (.int .i32 (-1)) ∧ ∃ st', BD B w' bb st' ∧ WnR st st' ∧ Core F L A b st' st'.W ∧ W4 st' (fun _ _ => False) ∧ Below B w w') ∨
 (∃ ci : Nat, e = .returned (.int .i32 (ci : Int)) ∧ WRC F L A b B w bb st ci w')
theorem Wk.last {F : List (List Int)} {L A : Int → Prop} {b : Nat} {st : St} {t l kept i : Nat} (h : Wk F L A b st t l kept i) (hi : i = (st.W t l).length) : Core F L A b (st.putW t l ((st.W t l).take kept)) (st.putW t l ((st.W t l).take kept)).W ∧ W4 (st.putW t l ((st.W t l).take kept)) (fun _ _ => False) := by
 have hc := h.co
 have e : vw st t l kept i = (st.putW t l ((st.W t l).take kept)).W := by
  unfold vw
  rw [List.drop_eq_nil_of_le (by omega), List.append_nil]; rfl
 rw [e] at hc
 refine ⟨⟨hc.wd, ⟨hc.hd.heldL, hc.hd.held, hc.hd.tlt, hc.hd.tnd, hc.hd.cons, hc.hd.l0, hc.hd.l1⟩, hc.rs, hc.bf, hc.w5, hc.bk, hc.so⟩, fun j c u h1 h2 h3 => ?_⟩
 rcases h.w4 j c u h1 h2 h3 with h4 | ⟨_, o, d, h5, _⟩
 ·exact .inl h4
 ·rw [List.drop_eq_nil_of_le (by omega)] at h5; cases h5
theorem Wk.first {F : List (List Int)} {L A : Int → Prop} {b : Nat} {st : St} {t l : Nat} (hc : Core F L A b st st.W) (h4 : W4 st (exW st t l 0)) (lf : oppN l ∈ st.trail) (lV : l < 2 * st.V) (tt : t < 2) : Wk F L A b st t l 0 0 := by
 refine ⟨Nat.le_refl _, Nat.zero_le _, ?_, h4, lf, lV, tt⟩
 have : vw st t l 0 0 = st.W := by unfold vw; simp [putW_self]
 rw [this]; exact hc
theorem wake_any (F : List (List Int)) (L A : Int → Prop) (b B : Nat) (w : World) (bb : Nat) (st : St) (h : BD B w bb st) (t l : Nat) (hc : Core F L A b st st.W) (h4 : W4 st (exW st t l 0)) (lf : oppN l ∈ st.trail) (lV : l < 2 * st.V) (tt : t < 2) (hncl : st.cls.length ≤ 67108864) :
  Calls Try.prog 72 #[.pointer (some ⟨bb, 0, none⟩), .int .i32 (l : Int), .int .i64 (t : Int)] w fun e w' => WakeP F L A b B w bb st e w' := by
 obtain ⟨sl, R, Lk⟩ := h
 have hW := Wk.first hc h4 lf lV tt
 have HHC := hidden hc
 obtain ⟨N, HN⟩ : ∃ N, Hid (N = 2 * st.V) := ⟨_, rfl⟩
 have hV := Lk.hV
 have hrowl := Lk.row t tt
 obtain ⟨rb, rcap, hrv, hrB, hrbl, _, hrcell, hrfz⟩ := R.form (.row t) (by rw [hrowl.1]; omega)
 have fr : w.cell? ⟨bb, 1 + t, none⟩ = some (.slice (some ⟨rb, 0, none⟩) N rcap) := by
  rw [R.field, HN.out, ← hrowl.1, ← hrv]
  rcases (show t = 0 ∨ t = 1 by omega) with e | e <;> rw [e] <;> rfl
 have hra := (hrcell l (by rw [hrowl.1]; simp [Site.sz]; omega)).trans (hrowl.2 l lV)
 have hzr := hrfz l
 have nb : rb ≠ bb := fun e => R.nb (.row t) (by rw [hrv, e]; rfl)
 have hwl := Lk.wl t l tt lV
 have hlI : (l : Int) < (N : Int) := by have := HN.out; omega
 have htI : (t : Int) < 2 := by omega
 obtain ⟨n, HN0⟩ : ∃ n, Hid (n = (st.W t l).length) := ⟨_, rfl⟩
 have hnE : (sl (.wl t l)).n = n := by rw [hwl.1, HN0.out]
 have hn4 : n ≤ 67108864 := by rw [HN0.out]; exact Nat.le_trans (hc.wd.len t l) hncl
 have HR0 := hidden R
 have HL0 := hidden Lk
 have HRV0 := hidden hrv
 by_cases hn0 : n = 0
 ·have HSAME : Hid (∀ w' v, Below w.heap.size w w' → v = (sl (.wl t l)).v → BD B (w'.setCell ⟨rb, l, none⟩ v) bb st ∧ Below B w (w'.setCell ⟨rb, l, none⟩ v)) := fun w' v hb' hv => by
   have R1 := HR0.out.rest hb'
   have R2 := R1.setR (.row t) HRV0.out l v
   have e1 : (sl (.row t)).xs.set l v = (sl (.row t)).xs := by
    apply List.ext_getElem?
    intro j
    by_cases e : j = l
    ·subst e
     rw [List.getElem?_set_self (List.getElem?_eq_some_iff.1 ((HL0.out.row t tt).2 j lV)).1, (HL0.out.row t tt).2 j lV, hv]
    ·rw [List.getElem?_set_ne (fun e2 => e e2.symm)]
   rw [e1] at R2
   have e2 : setS sl (.row t) ⟨(sl (.row t)).v, (sl (.row t)).n, (sl (.row t)).xs⟩ = sl := setS_self sl (.row t)
   rw [e2] at R2
   exact ⟨⟨sl, R2, HL0.out⟩, setTo (hb'.mono HR0.out.size) hrB R1.size⟩
  have HWL : Hid (Core F L A b st st.W ∧ W4 st (fun _ _ => False)) := by
   refine ⟨hc, fun j c u h1 h2 h3 => ?_⟩
   rcases h4 j c u h1 h2 h3 with h4 | ⟨_, o, d, h5, _⟩
   ·exact .inl h4
   ·have : st.W t l = [] := List.eq_nil_of_length_eq_zero (by rw [← HN0.out]; exact hn0)
    rw [this] at h5; cases h5
  have KB : Hid ((fun w' => w'.cell? ⟨bb, 1 + t, none⟩ = some (.slice (some ⟨rb, 0, none⟩) N rcap)) w) := fr
  have KS : Hid (∀ (w' : World) (xv : Value), (fun w' => w'.cell? ⟨bb, 1 + t, none⟩ = some (.slice (some ⟨rb, 0, none⟩) N rcap)) w' → (fun w' => w'.cell? ⟨bb, 1 + t, none⟩ = some (.slice (some ⟨rb, 0, none⟩) N rcap)) (w'.setCell ⟨rb, l, none⟩ xv)) := fun w' xv hh => (World.cell?_setCell_other (h := fun e => nb (by cases e; rfl)) ..).trans hh
  obtain ⟨v, HV⟩ : ∃ v, Hid (v = (sl (.wl t l)).v) := ⟨_, rfl⟩
  rw [← HV.out] at hra
  have hrow := R.rows (.wl t l)
  rw [← HV.out, hnE, hn0] at hrow
  have hform : v = .slice none 0 0 ∨ ∃ g cap, v = .slice (some ⟨g, 0, none⟩) 0 cap := by
   rcases hrow.2 with ⟨h1, _⟩ | ⟨g, cap, cur, h1, _⟩
   ·exact .inl h1
   ·exact .inr ⟨g, cap, h1⟩
  clear hrow hwl hrowl hrcell hrfz hrv R Lk hc h4 hW hnE HN0 hn4
  rcases hform with rfl | ⟨g, cap, rfl⟩
  all_goals
   go_enter Try.func72, Try.ntmps72
   go_wp2_with fail
   go_loopw [8, 23] (fun k' i' w' => k' = .int .i64 0 ∧ i' = .int .i64 0 ∧ Hid (w' = w)) (fun _ _ _ => 0)
   case atStart => exact ⟨rfl, rfl, rfl⟩
   case round =>
    obtain ⟨rfl, rfl, HWE⟩ := hrel
    obtain rfl := HWE.out
    go_upto_region 25 with fail
    refine wp_region_noPanic ?_
    refine wp_region_held_drew (S := (fun w' => w'.cell? ⟨bb, 1 + t, none⟩ = some (.slice (some ⟨rb, 0, none⟩) N rcap))) (by kernel_rfl) (by first | assumption | exact KB.out | exact KS.out _ _ (by first | assumption | exact KB.out)) (fun hHeld => ?_)
    refine tk 0 ?_
    refine tk 1 ?_
    refine tk 2 ?_
    refine tk 3 ?_
    refine tk 4 ?_
    refine tk 5 ?_
    refine tk 6 ?_
    refine tk 7 ?_
    refine tk 8 ?_
    refine tk 9 ?_
    refine tk 10 ?_
    refine wpAnyH_ready (rs := [11]) (by kernel_rfl) (by simp) ?_
    refine AllReadyH.cons (o := _) rfl (fun K hK => ?_) AllReadyH.nil
    (try simp only [gA, gB, gC])
    go_simp
    refine hK.out _ _ (by first | assumption | exact KB.out | exact KS.out _ _ (by first | assumption | exact KB.out)) (fun hHeld11 => ?_)
    clear hK K
    (try simp only [Act.put]); (try simp only [sA]); (try simp only [sB, sC])
    refine wpAnyH_done (by kernel_rfl) ?_ _
    refine NoPanic.normal ?_
    generalize hW6 : World.setCell _ _ _ = w6
    obtain ⟨s1, s2⟩ := HSAME.out _ _ (by first | exact Below.refl _ _ | exact Below.drew (Below.refl _ _) | exact Below.drew (Below.drew (Below.refl _ _))) HV.out
    rw [hW6] at s1 s2
    have HX : Hid (WakeP F L A b B wr bb st (.returned (.int .i32 (-1))) w6.drew) := Or.inl ⟨rfl, st, by
     obtain ⟨sl', r1, r2⟩ := s1
     exact ⟨sl', r1.rest (Below.drew (Below.refl _ _)), r2⟩, WnR.refl _, HWL.out.1, HWL.out.2, Below.drew s2⟩
    clear hW6 HSAME KB KS s1 s2 hra hzr fr
    go_wp2
    go_ret
    exact HX.out
 ·obtain ⟨gb, cap, hgv, hgB, hgl, hncap, -, -⟩ := R.form (.wl t l) (by rw [hnE]; omega)
  rw [hnE] at hgv hncap
  have HVL0 := hidden hgv
  rw [hgv] at hra
  have hnI : (0 : Int) ≤ (n : Int) := by omega
  clear hwl hrowl hrcell hrfz hrv R Lk hc h4 hnE hgv
  have HW0 := hidden hW
  clear hW
  go_enter Try.func72, Try.ntmps72
  go_wp2_with fail
  clear fr hra hzr
  go_loopw [8, 23] (fun k' i' w' => ∃ (st1 : St) (sl1 : Site → Slot) (kept i : Nat), i ≤ n ∧ k' = .int .i64 kept ∧ i' = .int .i64 i ∧ Hid (WnR st st1) ∧ Hid (Rows' B w' bb (fields sl1 st1) sl1) ∧ Hid (Link sl1 st1) ∧ Hid (Wk F L A b st1 t l kept i) ∧ Hid ((sl1 (.wl t l)).v = .slice (some ⟨gb, 0, none⟩) n cap) ∧ Hid ((st1.W t l).length = n) ∧ Hid (Below B w w')) (fun _ i' _ => n - (intOf i').toNat)
  case atStart => exact ⟨st, sl, 0, 0, Nat.zero_le _, rfl, rfl, WnR.refl _, HR0.out, HL0.out, HW0.out, HVL0.out, HN0.out.symm, Below.refl _ _⟩
  case round =>
   obtain ⟨st1, sl1, kept, i, hi, rfl, rfl, HWN, HR1, HL1, HW1, HV1, HN1, HB1⟩ := hrel
   have hcl1 : st1.cls.length ≤ 67108864 := by
    have := congrArg List.length HWN.out.rd
    simp at this
    omega
   by_cases hlt : i < n
   ·have hltI : (i : Int) < (n : Int) := by omega
    have e3 : IntKind.i64.wrap ((i : Int) + 1) = (i : Int) + 1 := wrapI _ (by omega) (by omega)
    go_upto_block 1 with fail
    refine wakeRound F L A b B wr bb st1 sl1 t l kept i n cap gb HR1.out HL1.out HW1.out (hidden HN1.out.symm) hlt HV1 hcl1 hn4 _ _ _ _ _ _ _ _ _ _ _ _ _ _ _ _ _ _ _ _ _ _ _ _ _ _ _ _ _ _ _ _ _ _ _ _ _ _ _ _ _ _ _ _ _ _ _ _ _ _ _ _ _ _ _ _ _ _ _ _ _ _ _ _ _ _ _ _ _ _ _ _ _ _ _ _ _ _ _ _ _ _ _ _ _ _ _ _ _ _ _ _ _ _ _ _ _ _ _ _ _ _ _ _ _ _ _ _ _ _ _ _ _ _ _ _ _ _ _ _ _ _ _ _ _ _ _ _ _ _ _ _ _ _ _ _ _ _ _ _ _ _ _ _ _ _ _ _ _ _ _ _ _ _ _ _ _ _ _ _ _ _ _ _ _ _ _ _ _ _ _ _ _ _ _ _ _ _ _ _ _ _ _ _ _ _ _ _ _ _ _ _ _ _ _ _ _ _ _ _ _ _ _ _ _ _ _ _ _ _ _ _ _ (hidden ?_) (hidden ?_)
    rotate_left
    ·intro ci a' w' hd h6 hx
     have h6' : a'.tmps[6]?.getD undef = .int .i32 (ci : Int) := by simpa using h6
     refine bodyPost_ret (v := .int .i32 (ci : Int)) (by simp [results, Try.results72, go_sem, h6']) hd ?_
     obtain ⟨st', sl', x1, x2, x3, x4, x5, x6⟩ := hx
     exact Or.inr ⟨ci, rfl, st', sl', HWN.out.trans x1, x2, x3, x4, x5, HB1.out.trans x6⟩
    intro w' s8 s9 s10 s11 s25 s26 s27 s28 s29 s30 s31 s32 s33 s34 s35 s36 s37 s38 s39 s40 s41 s42 s43 s44 s45 s46 s47 s48 s49 s50 s51 s52 s53 s54 s55 s56 s57 s58 s59 s60 s61 s62 s63 s64 s65 s66 s67 s68 s69 s70 s71 s72 s73 s74 s75 s76 s77 s78 s79 s80 s81 s82 s83 s84 s85 s86 s87 s88 s89 s90 s91 s92 s93 s94 s95 s96 s97 s98 s99 s100 s101 s102 s103 s104 s105 s106 s107 s108 s109 s110 s111 s112 s113 s114 s115 s116 s117 s118 s119 s120 s121 s122 s123 s124 s125 s126 s127 s128 s129 s130 s131 s132 s133 s134 s135 s136 s137 s138 s139 s140 s141 s142 s143 s144 s145 s146 s147 s148 s149 s150 s151 s152 s153 s154 s155 s156 s157 s158 s159 s160 s161 s162 s163 s164 s165 s166 s167 s168 s169 s170 s171 s172 s173 s174 s175 s176 s177 s178 s179 s180 s181 s182 s183 s184 s185 s186 s187 s188 s189 s190 s191 s192 s193 s194 s195 s196 s197 s198 s199 s200 s201 s202 s203 s204 s205 hx
    obtain ⟨st', sl', kept', x1, x2, x3, x4, x5, x6, x7, rfl⟩ := hx
    have HP1 := hidden (HWN.out.trans x1)
    have HP2 := hidden x2
    have HP3 := hidden x3
    have HP4 := hidden x4
    have HP5 := hidden x5
    have HP6 := hidden x6
    have HP7 := hidden (HB1.out.trans x7)
    clear x1 x2 x3 x4 x5 x6 x7
    go_wp2
    go_roundw
    case measure => simp [intOf]; omega
    case rel => exact ⟨st', sl', kept', i + 1, by omega, rfl, by simp, HP1.out, HP2.out, HP3.out, HP4.out, HP5.out, HP6.out, HP7.out⟩
   ·have hge : ¬ ((i : Int) < (n : Int)) := by omega
    have hin : i = (st1.W t l).length := by rw [HN1.out]; omega
    have hkk := HW1.out.k
    have hV1 := HWN.out.V
    have lV1 : l < 2 * st1.V := by rw [hV1]; exact lV
    have hrowl := HL1.out.row t tt
    rw [hV1, ← HN.out] at hrowl
    obtain ⟨rb, rcap, hrv, hrB, hrbl, _, hrcell, hrfz⟩ := HR1.out.form (.row t) (by rw [hrowl.1]; have := HN.out; omega)
    have fr : wr.cell? ⟨bb, 1 + t, none⟩ = some (.slice (some ⟨rb, 0, none⟩) N rcap) := by
     rw [HR1.out.field, ← hrowl.1, ← hrv]
     rcases (show t = 0 ∨ t = 1 by omega) with e | e <;> rw [e] <;> rfl
    have hra := (hrcell l (by rw [hrowl.1]; simp [Site.sz]; have := HN.out; omega)).trans (hrowl.2 l (by have := HN.out; omega))
    have hzr := hrfz l
    have nb : rb ≠ bb := fun e => HR1.out.nb (.row t) (by rw [hrv, e]; rfl)
    have hwl := HL1.out.wl t l tt lV1
    have HRV := hidden hrv
    have KB : Hid ((fun w' => w'.cell? ⟨bb, 1 + t, none⟩ = some (.slice (some ⟨rb, 0, none⟩) N rcap)) wr) := fr
    have KS : Hid (∀ (w' : World) (xv : Value), (fun w' => w'.cell? ⟨bb, 1 + t, none⟩ = some (.slice (some ⟨rb, 0, none⟩) N rcap)) w' → (fun w' => w'.cell? ⟨bb, 1 + t, none⟩ = some (.slice (some ⟨rb, 0, none⟩) N rcap)) (w'.setCell ⟨rb, l, none⟩ xv)) := fun w' xv hh => (World.cell?_setCell_other (h := fun e => nb (by cases e; rfl)) ..).trans hh
    have hnn1 : (sl1 (.wl t l)).n = n := by rw [hwl.1, HN1.out]
    have RS : Hid (∀ w', Below wr.heap.size wr w' → BD B (w'.setCell ⟨rb, l, none⟩ (.slice (some ⟨gb, 0, none⟩) kept cap)) bb (st1.putW t l ((st1.W t l).take kept)) ∧ Below B w (w'.setCell ⟨rb, l, none⟩ (.slice (some ⟨gb, 0, none⟩) kept cap))) := fun w' hb' => by
     have R1 := HR1.out.rest hb'
     have e0 : setS sl1 (.wl t l) ⟨.slice (some ⟨gb, 0, none⟩) n cap, n, (sl1 (.wl t l)).xs⟩ = sl1 := by
      have := setS_self sl1 (.wl t l)
      rw [← HV1.out, ← hnn1]; exact this
     rw [← e0] at R1
     have R1' : Rows' B w' bb (fields sl1 st1) (setS sl1 (.wl t l) ⟨.slice (some ⟨gb, 0, none⟩) n cap, n, (sl1 (.wl t l)).xs⟩) := by
      rw [e0] at R1 ⊢; exact R1
     obtain ⟨sl', s1, s2, s3, -, -⟩ := R1'.cutW HL1.out (m := kept) (es := (st1.W t l).take kept) (by omega) (by rw [hwl.2, wlV_take]) (by rw [List.length_take, HN1.out]; omega) HRV.out
     exact ⟨⟨sl', s1, s2⟩, (HB1.out.trans (hb'.mono HR1.out.size)).trans s3⟩
    have HLAST := hidden (HW1.out.last hin)
    have hk0 : (0 : Int) ≤ (kept : Int) := by omega
    have hkc : (kept : Int) ≤ (cap : Int) := by omega
    clear hrowl hrcell hrfz hrv hwl fr
    go_upto_region 25 with fail
    refine wp_region_noPanic ?_
    refine wp_region_held_drew (S := (fun w' => w'.cell? ⟨bb, 1 + t, none⟩ = some (.slice (some ⟨rb, 0, none⟩) N rcap))) (by kernel_rfl) (by first | assumption | exact KB.out | exact KS.out _ _ (by first | assumption | exact KB.out)) (fun hHeld => ?_)
    refine tk 0 ?_
    refine tk 1 ?_
    refine tk 2 ?_
    refine tk 3 ?_
    refine tk 4 ?_
    refine tk 5 ?_
    refine tk 6 ?_
    refine tk 7 ?_
    refine tk 8 ?_
    refine tk 9 ?_
    refine tk 10 ?_
    refine wpAnyH_ready (rs := [11]) (by kernel_rfl) (by simp) ?_
    refine AllReadyH.cons (o := _) rfl (fun K hK => ?_) AllReadyH.nil
    (try simp only [gA, gB, gC])
    go_simp
    refine hK.out _ _ (by first | assumption | exact KB.out | exact KS.out _ _ (by first | assumption | exact KB.out)) (fun hHeld11 => ?_)
    clear hK K
    (try simp only [Act.put]); (try simp only [sA]); (try simp only [sB, sC])
    refine wpAnyH_done (by kernel_rfl) ?_ _
    refine NoPanic.normal ?_
    generalize hW6 : World.setCell _ _ _ = w6
    obtain ⟨s1, s2⟩ := RS.out _ (by first | exact Below.refl _ _ | exact Below.drew (Below.refl _ _) | exact Below.drew (Below.drew (Below.refl _ _)))
    rw [hW6] at s1 s2
    have HX : Hid (WakeP F L A b B w bb st (.returned (.int .i32 (-1))) w6.drew) := Or.inl ⟨rfl, _, by
     obtain ⟨sl', r1, r2⟩ := s1
     exact ⟨sl', r1.rest (Below.drew (Below.refl _ _)), r2⟩, HWN.out.trans (WnR.put _ _ _ _), HLAST.out.1, HLAST.out.2, Below.drew s2⟩
    clear hW6 RS KB KS s1 s2 hra hzr
    go_wp2
    go_ret
    exact HX.out
end Go.Proofs.Ytefjicdhccfieaa
