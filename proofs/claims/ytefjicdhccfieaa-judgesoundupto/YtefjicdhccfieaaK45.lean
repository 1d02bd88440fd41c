import Derived.Test.YtefjicdhccfieaaK01
import Derived.Test.YtefjicdhccfieaaK44
set_option maxRecDepth 100000
set_option maxHeartbeats 16000000
namespace Go.Proofs.Ytefjicdhccfieaa
open Go.RowKit
theorem lits_all {v : Int} {cls : List CL} (h : (cls.all fun t => t.l.all (litOk v)) = true) : ∀ d, d ∈ cls.map CL.l → ∀ m, m ∈ d → litOk v m = true := by
 intro d hd m hm
 obtain ⟨t, ht, rfl⟩ := List.mem_map.1 hd
 exact List.all_eq_true.1 (List.all_eq_true.1 h t ht) m hm
theorem lits_all' {v : Int} {cls : List CL} (h : (cls.all fun t => t.l.all (litOk v)) = false) (hh : ∀ d, d ∈ cls.map CL.l → ∀ m, m ∈ d → litOk v m = true) : False := by
 have : (cls.all fun t => t.l.all (litOk v)) = true := List.all_eq_true.2 (fun t ht => List.all_eq_true.2 (fun m hm => hh t.l (List.mem_map.2 ⟨t, ht, rfl⟩) m hm))
 rw [h] at this; cases this
theorem check_any (B : Nat) (w : World) (a : Option Addr) (cc : Nat) (v : Int) (cls : List CL) (h : ClAt B w a cls) (hB : B ≤ w.heap.size) (sa : Option Addr) (sc : Nat) (stp : List CL) (hst : ClAt B w sa stp) (htot : total cls + total stp ≤ 16777216) :
  Calls Try.prog 7 #[.agg #[.int .i64 v, .slice a cls.length cc], .slice sa stp.length sc] w fun e w' => RefPost w v (cls.map CL.l) (stp.map CL.l) e w' := by
 have HCL := hidden h
 have HST := hidden hst
 have hcs : cls.length + stp.length ≤ 16777216 := by have := total_len cls; have := total_len stp; omega
 have HCLN : Hid (∀ t, t ∈ cls → t.l.length ≤ 16777216) := fun t ht => by
  obtain ⟨k, hk⟩ := List.getElem?_of_mem ht
  have := total_one cls k t hk
  omega
 have HSLN : Hid (∀ t, t ∈ stp → t.l.length ≤ 16777216) := fun t ht => by
  obtain ⟨k, hk⟩ := List.getElem?_of_mem ht
  have := total_one stp k t hk
  omega
 obtain ⟨cl, HCN⟩ : ∃ n, Hid (n = cls.length) := ⟨_, rfl⟩
 obtain ⟨sn, HSN⟩ : ∃ n, Hid (n = stp.length) := ⟨_, rfl⟩
 rw [← HCN.out, ← HSN.out] at hcs
 rw [← HCN.out, ← HSN.out]
 clear h hst htot
 go_enter Try.func7, Try.ntmps7
 go_upto_region 1 with fail
 generalize hW : World.alloc w _ = W
 obtain ⟨fx, hfx⟩ : ∃ x, x = w.heap.size := ⟨_, rfl⟩
 have HB1 : Hid (Below w.heap.size w W) := by rw [← hW]; exact (Below.refl _ _).alloc (Nat.le_refl _) _
 have HX : Hid (W.heap[fx]? = some (.cells #[.int .i64 v, .slice a cl cc] 24 (0, 0))) := by rw [← hW, hfx]; exact heap_new _ _
 have hfl : fx < W.heap.size := by rw [← hW, hfx]; simp
 rw [← hfx]
 clear hW hfx
 have f0 : W.cell? ⟨fx, 0, none⟩ = some (.int .i64 v) := cell_of_row _ _ 0 _ _ (0, 0) HX.out
 have f1 : W.cell? ⟨fx, 1, none⟩ = some (.slice a cl cc) := cell_of_row _ _ 1 _ _ (0, 0) HX.out
 have HCW : Hid (ClAt B W a cls) := HCL.out.to (HB1.out.mono hB)
 have HSW : Hid (ClAt B W sa stp) := HST.out.to (HB1.out.mono hB)
 have hBW : B ≤ W.heap.size := Nat.le_trans hB HB1.out.size
 by_cases hv0 : v < 0
 ·have HNO : Hid (¬ RefP v (cls.map CL.l) (stp.map CL.l)) := fun hh => by have := hh.1.1; omega
  go_wp2
  go_ret
  exact ⟨false, rfl, ⟨fun h => (by cases h), fun h => absurd h HNO.out⟩, HB1.out⟩
 by_cases hv1 : v > 100000
 ·have HNO : Hid (¬ RefP v (cls.map CL.l) (stp.map CL.l)) := fun hh => by have := hh.1.2.1; omega
  go_wp2
  go_ret
  exact ⟨false, rfl, ⟨fun h => (by cases h), fun h => absurd h HNO.out⟩, HB1.out⟩
 have AC1 := hidden (areClauses_any B W a cc v (by omega) (by omega) cls HCW.out)
 have AC2 := hidden (areClauses_any B W sa sc v (by omega) (by omega) stp HSW.out)
 obtain ⟨b1, HB1'⟩ : ∃ b, Hid ((cls.all fun t => t.l.all (litOk v)) = b) := ⟨_, rfl⟩
 obtain ⟨b2, HB2'⟩ : ∃ b, Hid ((stp.all fun t => t.l.all (litOk v)) = b) := ⟨_, rfl⟩
 rw [HB1'.out, ← HCN.out] at AC1
 rw [HB2'.out, ← HSN.out] at AC2
 go_wp2_with fail
 go_at_call 15
 refine AC1.out.mono ?_
 rintro e w1 ⟨rfl, rfl⟩
 cases b1
 ·have HNO : Hid (¬ RefP v (cls.map CL.l) (stp.map CL.l)) := fun hh => lits_all' HB1'.out hh.1.2.2
  go_wp2
  go_ret
  exact ⟨false, rfl, ⟨fun h => (by cases h), fun h => absurd h HNO.out⟩, HB1.out⟩
 go_wp2_with fail
 go_at_call 15
 refine AC2.out.mono ?_
 rintro e w2 ⟨rfl, rfl⟩
 cases b2
 ·have HNO : Hid (¬ RefP v (cls.map CL.l) (stp.map CL.l)) := fun hh => lits_all' HB2'.out (fun d hd => by
   obtain ⟨i, hi⟩ := List.getElem?_of_mem hd
   exact (hh.2.2 i d hi).1)
  go_wp2
  go_ret
  exact ⟨false, rfl, ⟨fun h => (by cases h), fun h => absurd h HNO.out⟩, HB1.out⟩
 have HL1 := hidden (lits_all HB1'.out)
 have HL2 := hidden (lits_all HB2'.out)
 by_cases hs0 : sn = 0
 ·have hs0I : (sn : Int) = 0 := by omega
  have HNO : Hid (¬ RefP v (cls.map CL.l) (stp.map CL.l)) := fun hh => by
   have h2 := hh.2.1
   rw [List.eq_nil_of_length_eq_zero (HSN.out.symm.trans hs0)] at h2
   cases h2
  clear hs0
  go_wp2
  go_ret
  exact ⟨false, rfl, ⟨fun h => (by cases h), fun h => absurd h HNO.out⟩, HB1.out⟩
 have hs0I : ¬ ((sn : Int) = 0) := by omega
 obtain ⟨tl, htl⟩ := getElem_lt (show sn - 1 < stp.length by have := HSN.out; omega)
 obtain ⟨qb, qo, rfl, hqb, hqc⟩ := HSW.out.row.el htl
 have cl0 := hqc 0 _ rfl
 simp only [Nat.mul_one, Nat.add_zero] at cl0
 obtain ⟨ln, HLN⟩ : ∃ n, Hid (n = sn - 1) := ⟨_, rfl⟩
 rw [← HLN.out] at cl0 htl
 have ew : IntKind.i64.wrap ((sn : Int) - 1) = (ln : Int) := by rw [wrapI _ (by omega) (by omega), HLN.out]; omega
 have hlnI : (ln : Int) < (sn : Int) := by have := HLN.out; omega
 have HLAST : Hid ((stp.map CL.l).getLast? = some tl.l) := by
  show _ = _
  rw [List.getLast?_eq_getElem?, List.length_map, ← HSN.out, ← HLN.out, List.getElem?_map, htl]; rfl
 obtain ⟨tn, HTN⟩ : ∃ n, Hid (n = tl.l.length) := ⟨_, rfl⟩
 rw [← HTN.out] at cl0
 clear htl hqc
 by_cases ht0 : tn = 0
 ·obtain rfl := ht0
  have HGL : Hid ((stp.map CL.l).getLast? = some []) := by
   show _ = _
   rw [HLAST.out, List.eq_nil_of_length_eq_zero HTN.out.symm]
  obtain ⟨V, rfl⟩ : ∃ V : Nat, v = V := ⟨v.toNat, by omega⟩
  have NB' := hidden (newBoard_any w2 V (by omega))
  have hV : V ≤ 100000 := by omega
  clear hv0 hv1 AC1 AC2 HLAST HTN
  go_upto_region 5 with fail
  clear cl0
  go_wp2_with fail
  go_at_call 16
  refine NB'.out.mono ?_
  rintro e w3 ⟨bb, rfl, hb3, hbb3⟩
  have HB3 := hidden hb3
  have HBB3 := hidden hbb3
  have g1 : w3.cell? ⟨fx, 1, none⟩ = some (.slice a cl cc) := (hbb3.cell (p := ⟨fx, 1, none⟩) hfl).trans f1
  obtain ⟨C, HC⟩ : ∃ n, Hid (n = w2.heap.size) := ⟨_, rfl⟩
  rw [← HC.out] at HB3 HBB3
  have hBC : B ≤ C := by rw [HC.out]; exact hBW
  have HWW : Hid (∀ w', Below C w2 w' → Below w.heap.size w w') := fun w' hb => HB1.out.trans (hb.mono (by rw [HC.out]; exact HB1.out.size))
  have HROWC : Hid (∀ t, t ∈ cls → ∀ w', Below C w2 w' → RowAt C w' t.a 1 (t.l.map intC)) := fun t ht w' hb => ((HCW.out.each t ht).mono hBC).to hb
  have HROWS : Hid (∀ t, t ∈ stp → ∀ w', Below C w2 w' → RowAt C w' t.a 1 (t.l.map intC)) := fun t ht w' hb => ((HSW.out.each t ht).mono hBC).to hb
  have HRC : Hid (∀ (k : Nat) t, cls[k]? = some t → ∀ w', Below C w2 w' → ∃ b o, a = some ⟨b, o, none⟩ ∧ w'.cell? ⟨b, o + k, none⟩ = some (.slice t.a t.l.length t.c)) := fun k t ht w' hb => by
   obtain ⟨b, o, h1, h2, h3⟩ := ((HCW.out.row.mono hBC).to hb).el ht
   have := h3 0 _ rfl
   simp only [Nat.mul_one, Nat.add_zero] at this
   exact ⟨b, o, h1, this⟩
  have HRS : Hid (∀ (k : Nat) t, stp[k]? = some t → ∀ w', Below C w2 w' → w'.cell? ⟨qb, qo + k, none⟩ = some (.slice t.a t.l.length t.c)) := fun k t ht w' hb => by
   obtain ⟨b, o, h1, h2, h3⟩ := ((HSW.out.row.mono hBC).to hb).el ht
   have := h3 0 _ rfl
   simp only [Nat.mul_one, Nat.add_zero] at this
   cases h1
   exact this
  clear hb3 hbb3 NB' f1 f0 HCW HSW
  go_wp2_with fail
  clear g1
  go_loopw [52] (fun i' w' => ∃ (k : Nat) (st : St), k ≤ cl ∧ i' = .int .i64 k ∧ Hid (BD C w' bb st) ∧ Hid (Good ((cls.map CL.l).take k) st) ∧ Hid (st.V = V ∧ st.cls.length ≤ k ∧ st.steps = 0 ∧ st.round = 0) ∧ Hid (Below C w2 w')) (fun i' _ => cl - (intOf i').toNat)
  case atStart => exact ⟨0, St.new V, Nat.zero_le _, rfl, HB3.out, Good.new V hV, ⟨rfl, Nat.le_refl _, rfl, rfl⟩, HBB3.out⟩
  case round =>
   obtain ⟨k, st, hk, rfl, HBk, HGk, HSk, HBBk⟩ := hrel
   by_cases hlt : k < cl
   ·have hltI : (k : Int) < (cl : Int) := by omega
    obtain ⟨t, ht⟩ := getElem_lt (show k < cls.length by have := HCN.out; omega)
    have htm := List.mem_of_getElem? ht
    obtain ⟨ab, ao, rfl, ct⟩ := HRC.out k t ht wr HBBk.out
    have AD := hidden (add_any ((cls.map CL.l).take k) C wr bb st HBk.out HGk.out t.a t.c t.l (HROWC.out t htm wr HBBk.out) (HCLN.out t htm) (fun n hn => by rw [HSk.out.1]; exact litOk_nat (HL1.out t.l (List.mem_map.2 ⟨t, htm, rfl⟩) n hn)) (by have := HSk.out.2.1; omega))
    have HTK : Hid ((cls.map CL.l).take (k + 1) = (cls.map CL.l).take k ++ [t.l]) := take_next _ k t.l (by rw [List.getElem?_map, ht]; rfl)
    obtain ⟨tlen, HTL⟩ : ∃ n, Hid (n = t.l.length) := ⟨_, rfl⟩
    rw [← HTL.out] at ct AD
    have e3 : IntKind.i64.wrap ((k : Int) + 1) = (k : Int) + 1 := wrapI _ (by omega) (by omega)
    clear ht htm
    go_wp2_with fail
    go_at_call 17
    refine AD.out.mono ?_
    rintro e w4 ⟨rfl, st4, hb4, hg4, hV4, hl4, hs4, hr4, hbb4⟩
    have HB4 := hidden hb4
    have HG4 : Hid (Good ((cls.map CL.l).take (k + 1)) st4) := by rw [HTK.out]; exact hg4
    have HS4 : Hid (st4.V = V ∧ st4.cls.length ≤ k + 1 ∧ st4.steps = 0 ∧ st4.round = 0) := ⟨hV4.trans HSk.out.1, by have := HSk.out.2.1; omega, hs4.trans HSk.out.2.2.1, hr4.trans HSk.out.2.2.2⟩
    have HBB4 : Hid (Below C w2 w4) := HBBk.out.trans hbb4
    clear hb4 hg4 hV4 hl4 hs4 hr4 hbb4 AD ct
    go_wp2
    go_roundw
    case measure => simp [intOf]; omega
    case rel => exact ⟨k + 1, _, by omega, by simp, HB4.out, HG4.out, HS4.out, HBB4.out⟩
   ·have hge : ¬ ((k : Int) < (cl : Int)) := by omega
    have HG0 : Hid (Good (cls.map CL.l ++ (stp.map CL.l).take 0) st) := by
     have := HGk.out
     rw [List.take_of_length_le (by rw [List.length_map, ← HCN.out]; omega)] at this
     rw [List.take_zero, List.append_nil]; exact this
    have HS0 : Hid (st.V = V ∧ st.cls.length ≤ cl + 0 ∧ st.steps ≤ 0 ∧ st.round ≤ 0) := ⟨HSk.out.1, by have := HSk.out.2.1; omega, by rw [HSk.out.2.2.1]; exact Nat.le_refl _, by rw [HSk.out.2.2.2]; exact Nat.le_refl _⟩
    clear HGk HSk
    go_wp2_with fail
    go_loopw [62] (fun i' w' => ∃ (k : Nat) (st : St), k ≤ sn ∧ i' = .int .i64 k ∧ Hid (BD C w' bb st) ∧ Hid (Good (cls.map CL.l ++ (stp.map CL.l).take k) st) ∧ Hid (st.V = V ∧ st.cls.length ≤ cl + k ∧ st.steps ≤ k ∧ st.round ≤ k) ∧ Hid (∀ i c, i < k → (stp.map CL.l)[i]? = some c → Fol (cls.map CL.l ++ (stp.map CL.l).take i) c) ∧ Hid (Below C w2 w')) (fun i' _ => sn - (intOf i').toNat)
    case atStart => exact ⟨0, st, Nat.zero_le _, rfl, HBk.out, HG0.out, HS0.out, fun i c hi => absurd hi (by omega), HBBk.out⟩
    case round =>
     obtain ⟨k2, st2, hk2, rfl, HBk2, HGk2, HSk2, HFk2, HBBk2⟩ := hrel
     by_cases hlt2 : k2 < sn
     ·have hltI2 : (k2 : Int) < (sn : Int) := by omega
      obtain ⟨t, ht⟩ := getElem_lt (show k2 < stp.length by have := HSN.out; omega)
      have htm := List.mem_of_getElem? ht
      have ct := HRS.out k2 t ht wr HBBk2.out
      have HTI : Hid ((stp.map CL.l)[k2]? = some t.l) := by show _ = _; rw [List.getElem?_map, ht]; rfl
      have HLT : Hid (∀ n, n ∈ t.l → n ≠ 0 ∧ n.natAbs ≤ V) := fun n hn => litOk_nat (HL2.out t.l (List.mem_map.2 ⟨t, htm, rfl⟩) n hn)
      have HTM := hidden htm
      have FW := hidden (boardFollows_any (cls.map CL.l ++ (stp.map CL.l).take k2) C wr bb st2 HBk2.out HGk2.out t.a t.c t.l (HROWS.out t htm wr HBBk2.out) (HSLN.out t htm) (fun n hn => by rw [HSk2.out.1]; exact HLT.out n hn) (by have := HSk2.out.2.1; omega))
      have HTK : Hid ((stp.map CL.l).take (k2 + 1) = (stp.map CL.l).take k2 ++ [t.l]) := take_next _ k2 t.l HTI.out
      obtain ⟨tlen, HTL⟩ : ∃ n, Hid (n = t.l.length) := ⟨_, rfl⟩
      rw [← HTL.out] at ct FW
      have e3 : IntKind.i64.wrap ((k2 : Int) + 1) = (k2 : Int) + 1 := wrapI _ (by omega) (by omega)
      clear ht htm
      go_wp2_with fail
      go_at_call 18
      refine FW.out.mono ?_
      rintro e w4 ⟨b, st4, rfl, hiff, hb4, hg4, hV4, hl4, hs4, hr4, hbb4⟩
      have HBB4 : Hid (Below C w2 w4) := HBBk2.out.trans hbb4
      cases b
      ·have HNO : Hid (¬ RefP (V : Int) (cls.map CL.l) (stp.map CL.l)) := fun hh => by
        have := hiff.2 ((hh.2.2 k2 t.l HTI.out).2)
        cases this
       have HBF : Hid (Below w.heap.size w w4) := HWW.out w4 HBB4.out
       clear hb4 hg4 hV4 hl4 hs4 hr4 hbb4 hiff FW
       go_wp2
       go_ret
       exact ⟨false, rfl, ⟨fun h => (by cases h), fun h => absurd h HNO.out⟩, HBF.out⟩
      ·have HFOL := hidden (hiff.1 rfl)
       have AD := hidden (add_any (cls.map CL.l ++ (stp.map CL.l).take k2) C w4 bb st4 hb4 hg4 t.a t.c t.l (HROWS.out t HTM.out w4 HBB4.out) (HSLN.out t HTM.out) (fun n hn => by rw [hV4, HSk2.out.1]; exact HLT.out n hn) (by have := HSk2.out.2.1; omega))
       rw [← HTL.out] at AD
       have HS4 : Hid (st4.V = V ∧ st4.cls.length ≤ cl + k2 ∧ st4.steps ≤ k2 ∧ st4.round ≤ k2) := ⟨hV4.trans HSk2.out.1, by rw [hl4]; exact HSk2.out.2.1, by rw [hs4]; exact HSk2.out.2.2.1, by rw [hr4]; exact HSk2.out.2.2.2⟩
       clear hb4 hg4 hV4 hl4 hs4 hr4 hbb4 hiff FW ct
       go_wp2_with fail
       go_at_call 17
       refine AD.out.mono ?_
       rintro e w5 ⟨rfl, st5, hb5, hg5, hV5, hl5, hs5, hr5, hbb5⟩
       have HS5 : Hid (st5.V = V ∧ st5.cls.length ≤ cl + k2 + 1 ∧ st5.steps ≤ k2 ∧ st5.round ≤ k2) := ⟨hV5.trans HS4.out.1, by have := HS4.out.2.1; omega, by rw [hs5]; exact HS4.out.2.2.1, by rw [hr5]; exact HS4.out.2.2.2⟩
       have EN := hidden (endStep_any (cls.map CL.l ++ (stp.map CL.l).take k2 ++ [t.l]) C w5 bb st5 hb5 hg5 (by have := HS5.out.2.1; omega) (by have := HS5.out.2.2.1; omega) (by have := HS5.out.2.2.2; omega))
       have HBB5 : Hid (Below C w2 w5) := HBB4.out.trans hbb5
       clear hb5 hg5 hV5 hl5 hs5 hr5 hbb5 AD
       go_wp2_with fail
       go_at_call 19
       refine EN.out.mono ?_
       rintro e w6 ⟨rfl, st6, hb6, hg6, hV6, hl6, hd6, hs6, hr6, hbb6⟩
       have HB6 := hidden hb6
       have HG6 : Hid (Good (cls.map CL.l ++ (stp.map CL.l).take (k2 + 1)) st6) := by rw [HTK.out, ← List.append_assoc]; exact hg6
       have HS6 : Hid (st6.V = V ∧ st6.cls.length ≤ cl + (k2 + 1) ∧ st6.steps ≤ k2 + 1 ∧ st6.round ≤ k2 + 1) := ⟨hV6.trans HS5.out.1, by have := HS5.out.2.1; omega, by have := HS5.out.2.2.1; omega, by have := HS5.out.2.2.2; omega⟩
       have HBB6 : Hid (Below C w2 w6) := HBB5.out.trans hbb6
       have HF6 : Hid (∀ i c, i < k2 + 1 → (stp.map CL.l)[i]? = some c → Fol (cls.map CL.l ++ (stp.map CL.l).take i) c) := fun i c hi hc => by
        by_cases e : i < k2
        ·exact HFk2.out i c e hc
        ·obtain rfl : i = k2 := by omega
         rw [HTI.out] at hc; cases hc
         exact HFOL.out
       clear hb6 hg6 hV6 hl6 hd6 hs6 hr6 hbb6 EN
       go_wp2
       go_roundw
       case measure => simp [intOf]; omega
       case rel => exact ⟨k2 + 1, _, by omega, by simp, HB6.out, HG6.out, HS6.out, HF6.out, HBB6.out⟩
     ·have hge2 : ¬ ((k2 : Int) < (sn : Int)) := by omega
      have HYES : Hid (RefP (V : Int) (cls.map CL.l) (stp.map CL.l)) := ⟨⟨by omega, by omega, HL1.out⟩, HGL.out, fun i c hc => ⟨HL2.out c (List.mem_of_getElem? hc), HFk2.out i c (by have := (List.getElem?_eq_some_iff.1 hc).1; rw [List.length_map] at this; have := HSN.out; omega) hc⟩⟩
      have HBF : Hid (Below w.heap.size w wr) := HWW.out wr HBBk2.out
      go_wp2
      go_ret
      exact ⟨true, rfl, ⟨fun _ => HYES.out, fun _ => rfl⟩, HBF.out⟩
 ·have ht0I : (tn : Int) > 0 := by omega
  have HNO : Hid (¬ RefP v (cls.map CL.l) (stp.map CL.l)) := fun hh => by
   have h2 := hh.2.1
   rw [HLAST.out] at h2
   have h3 := Option.some.inj h2
   have h4 := HTN.out
   rw [h3] at h4
   exact ht0 h4
  clear ht0
  go_wp2
  go_ret
  exact ⟨false, rfl, ⟨fun h => (by cases h), fun h => absurd h HNO.out⟩, HB1.out⟩
end Go.Proofs.Ytefjicdhccfieaa
