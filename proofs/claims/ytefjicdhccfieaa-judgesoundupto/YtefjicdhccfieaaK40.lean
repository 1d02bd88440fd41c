import Derived.Test.YtefjicdhccfieaaK01
import Derived.Test.YtefjicdhccfieaaK39
set_option maxRecDepth 100000
set_option maxHeartbeats 16000000
namespace Go.Proofs.Ytefjicdhccfieaa
open Go.RowKit
def EndP (F : List (List Int)) (B : Nat) (w : World) (bb : Nat) (st : St) (w' : World) : Prop := ∃ st', BD B w' bb st' ∧ Good F st' ∧ st'.V = st.V ∧ st'.cls.length = st.cls.length ∧ st'.done = st.done ∧ st'.steps ≤ st.steps + 1 ∧ st'.round ≤ st.round + 1 ∧ Below B w w'
theorem endStep_any (F : List (List Int)) (B : Nat) (w : World) (bb : Nat) (st : St) (h : BD B w bb st) (g : Good F st) (hncl : st.cls.length ≤ 16777216) (hst : st.steps ≤ 16777216) (hrd : st.round ≤ 16777216) :
  Calls Try.prog 19 #[.pointer (some ⟨bb, 0, none⟩)] w fun e w' => e = .returned (.tuple #[]) ∧ EndP F B w bb st w' := by
 have hV := h.hV
 obtain ⟨-, f10, f11, fz⟩ := h.fld
 obtain ⟨sn, HSN⟩ : ∃ n, Hid (n = st.steps) := ⟨_, rfl⟩
 obtain ⟨rn, HRN⟩ : ∃ n, Hid (n = st.round) := ⟨_, rfl⟩
 obtain ⟨N, HN⟩ : ∃ n, Hid (n = 2 * st.V) := ⟨_, rfl⟩
 obtain ⟨cn, HCN⟩ : ∃ n, Hid (n = st.cls.length) := ⟨_, rfl⟩
 rw [← HSN.out] at f11 hst
 rw [← HRN.out] at f10 hrd
 rw [← HCN.out] at hncl
 have z11 := fz 11
 have e1 : IntKind.i64.wrap ((sn : Int) + 1) = (sn : Int) + 1 := wrapI _ (by omega) (by omega)
 have HS1 := hidden (h.steps (st.steps + 1) ((sn : Int) + 1) (by rw [HSN.out]; rfl))
 have HG := hidden g
 have HBW := hidden h.size
 clear f10 fz h g
 go_enter Try.func19, Try.ntmps19
 go_upto_region 1 with fail
 generalize hW1 : World.setCell w _ _ = w1
 rw [hW1] at HS1
 have HBD1 := hidden HS1.out.1
 have HBB1 := hidden HS1.out.2
 clear hW1 HS1 f11 z11
 obtain ⟨-, f10, f11, -⟩ := HBD1.out.fld
 have f11' : w1.cell? ⟨bb, 11, none⟩ = some (.int .i64 ((sn : Int) + 1)) := by rw [f11, HSN.out]; rfl
 obtain ⟨⟨ha, hc, f3⟩, ca, cc, f0⟩ := HBD1.out.lens
 have f3' : w1.cell? ⟨bb, 3, none⟩ = some (.slice ha N hc) := by rw [f3, HN.out]
 have f0' : w1.cell? ⟨bb, 0, none⟩ = some (.slice ca cn cc) := by rw [f0, HCN.out]
 have KB : Hid ((fun w' => w'.cell? ⟨bb, 11, none⟩ = some (.int .i64 ((sn : Int) + 1)) ∧ w'.cell? ⟨bb, 3, none⟩ = some (.slice ha N hc) ∧ w'.cell? ⟨bb, 0, none⟩ = some (.slice ca cn cc)) w1) := ⟨f11', f3', f0'⟩
 have hNl : N ≤ 200000 := by have := HN.out; omega
 have e2 : IntKind.i64.wrap ((N : Int) + (cn : Int)) = (N : Int) + (cn : Int) := wrapI _ (by omega) (by omega)
 obtain ⟨q, HQ⟩ : ∃ q, Hid (q = (N + cn) / 100) := ⟨_, rfl⟩
 have hq : q ≤ 16977216 := by have := HQ.out; omega
 have e3 : Int.tdiv ((N : Int) + (cn : Int)) 100 = (q : Int) := by rw [Int.tdiv_eq_ediv_of_nonneg (by omega), HQ.out]; omega
 have e4 : IntKind.i64.wrap (q : Int) = (q : Int) := wrapI _ (by omega) (by omega)
 have e5 : IntKind.i64.wrap (1000 + (q : Int)) = 1000 + (q : Int) := wrapI _ (by omega) (by omega)
 clear f10 f11 f3 f0 f11' f3' f0'
 refine wp_region_noPanic ?_
 refine wp_region_held_drew (S := (fun w' => w'.cell? ⟨bb, 11, none⟩ = some (.int .i64 ((sn : Int) + 1)) ∧ w'.cell? ⟨bb, 3, none⟩ = some (.slice ha N hc) ∧ w'.cell? ⟨bb, 0, none⟩ = some (.slice ca cn cc))) (by kernel_rfl) (by first | assumption | exact KB.out) (fun hHeld => ?_)
 refine tk 0 ?_
 refine tk 1 ?_
 refine tk 2 ?_
 refine tk 3 ?_
 refine tk 4 ?_
 refine tk 5 ?_
 refine tk 6 ?_
 refine tk 7 ?_
 refine tk 8 ?_
 refine tk 9 ?_
 refine tk 10 ?_
 refine tk 11 ?_
 refine tk 12 ?_
 refine tk 13 ?_
 refine tk 14 ?_
 refine tk 15 ?_
 refine tk 16 ?_
 refine tk 17 ?_
 refine wpAnyH_done (by kernel_rfl) ?_ _
 refine NoPanic.normal ?_
 try clear hHeld
 clear KB
 have HBD2 : Hid (BD B w1.drew bb { st with steps := st.steps + 1 }) := HBD1.out.drew
 have HBB2 : Hid (Below B w w1.drew) := HBB1.out.trans (Below.drew (Below.refl _ _))
 clear HBD1 HBB1
 generalize hW2 : w1.drew = w2 at HBD2 HBB2 ⊢
 clear hW2
 by_cases hsm : ((sn : Int) + 1) < 1000 + (q : Int)
 ·have HX : Hid (EndP F B w bb st w2) := ⟨_, HBD2.out, HG.out.count _, rfl, rfl, rfl, Nat.le_refl _, Nat.le_succ _, HBB2.out⟩
  go_wp2
  (try simp only [Exit.inBlock, Exit.then])
  refine bodyPost_ret (results_none rfl _ _ _) rfl ?_
  exact ⟨rfl, HX.out⟩
 ·have HS2 := hidden (HBD2.out.steps 0 0 rfl)
  obtain ⟨-, -, f11, fz⟩ := HBD2.out.fld
  have z11 := fz 11
  clear fz
  go_upto_region 3 with fail
  generalize hW3 : World.setCell w2 _ _ = w3
  rw [hW3] at HS2
  have HBD3 := hidden HS2.out.1
  have HBB3 : Hid (Below B w w3) := HBB2.out.trans HS2.out.2
  clear hW3 HS2 f11 z11 HBD2 HBB2
  obtain ⟨-, f10, -, fz⟩ := HBD3.out.fld
  have z10 := fz 10
  have f10' : w3.cell? ⟨bb, 10, none⟩ = some (.int .i64 (rn : Int)) := by rw [f10, HRN.out]
  clear fz f10
  have e6 : IntKind.i64.wrap ((rn : Int) + 1) = (rn : Int) + 1 := wrapI _ (by omega) (by omega)
  have HS3 := hidden (HBD3.out.rounds (st.round + 1) ((rn : Int) + 1) (by rw [HRN.out]; rfl))
  go_upto_region 4 with fail
  generalize hW4 : World.setCell w3 _ _ = w4
  rw [hW4] at HS3
  obtain ⟨st1, HST1⟩ : ∃ s : St, Hid (s = { st with steps := 0, round := st.round + 1 }) := ⟨_, rfl⟩
  have HBD4 : Hid (BD B w4 bb { st1 with W := cutUp st.W 0 0 }) := by
   show BD _ _ _ _
   rw [HST1.out, cutUp_zero]; exact HS3.out.1
  have HBB4 : Hid (Below B w w4) := HBB3.out.trans HS3.out.2
  have HV1 : Hid (N = 2 * st1.V) := by rw [HST1.out]; exact HN.out
  clear hW4 HS3 f10' z10 HBD3 HBB3
  go_wp2_with fail
  go_loopw [43] (fun i' w' => ∃ (t : Nat), t ≤ 2 ∧ i' = .int .i64 t ∧ Hid (BD B w' bb { st1 with W := cutUp st.W t 0 }) ∧ Hid (Below B w w')) (fun i' _ => 2 - (intOf i').toNat)
  case atStart => exact ⟨0, Nat.zero_le _, rfl, HBD4.out, HBB4.out⟩
  case round =>
   obtain ⟨t, ht, rfl, HBt, HBBt⟩ := hrel
   by_cases htl : t < 2
   ·have htI : (t : Int) < 2 := by omega
    obtain ⟨ra, rcap, hbr, f1⟩ := HBt.out.row htl
    have HBR : Hid (BDR B wr bb { st1 with W := cutUp st.W t 0 } t (.slice ra N rcap)) := by rw [HV1.out]; exact hbr
    have f1' : wr.cell? ⟨bb, 1 + t, none⟩ = some (.slice ra N rcap) := by rw [HV1.out]; exact f1
    have e7 : IntKind.i64.wrap ((t : Int) + 1) = (t : Int) + 1 := wrapI _ (by omega) (by omega)
    clear hbr f1
    go_wp2_with fail
    clear f1'
    go_loopw [53] (fun i' w' => ∃ (l : Nat), l ≤ N ∧ i' = .int .i64 l ∧ Hid (BDR B w' bb { st1 with W := cutUp st.W t l } t (.slice ra N rcap)) ∧ Hid (Below B w w')) (fun i' _ => N - (intOf i').toNat)
    case atStart => exact ⟨0, Nat.zero_le _, rfl, HBR.out, HBBt.out⟩
    case round =>
     obtain ⟨l, hl, rfl, HBl, HBBl⟩ := hrel
     by_cases hll : l < N
     ·have hlI : (l : Int) < (N : Int) := by omega
      obtain ⟨rb, rfl, hrbb⟩ := HBl.out.addr htl (by have := HV1.out; show 0 < st1.V; omega)
      obtain ⟨v, cv, zv, hcase⟩ := HBl.out.cut htl (l := l) (by have := HV1.out; show l < 2 * st1.V; omega)
      have f1 := HBl.out.rowF htl
      have e8 : IntKind.i64.wrap ((l : Int) + 1) = (l : Int) + 1 := wrapI _ (by omega) (by omega)
      have EW : Hid (({ st1 with W := cutUp st.W t l } : St).putW t l [] = { st1 with W := cutUp st.W t (l + 1) }) := by
       show ({ st1 with W := Go.Proofs.Ytefjicdhccfieaa.putW (cutUp st.W t l) t l [] } : St) = _
       rw [cutUp_next]
      have KB : Hid ((fun w' => w'.cell? ⟨bb, 1 + t, none⟩ = some (.slice (some ⟨rb, 0, none⟩) N rcap)) wr) := f1
      have KS : Hid (∀ (w' : World) (j : Nat) (u : Value), (fun w' => w'.cell? ⟨bb, 1 + t, none⟩ = some (.slice (some ⟨rb, 0, none⟩) N rcap)) w' → (fun w' => w'.cell? ⟨bb, 1 + t, none⟩ = some (.slice (some ⟨rb, 0, none⟩) N rcap)) (w'.setCell ⟨rb, j, none⟩ u)) := fun w' j u hh => (World.cell?_setCell_other (h := fun e => hrbb (by first | exact (congrArg Addr.block e).symm | exact congrArg Addr.block e)) ..).trans hh
      rcases hcase with ⟨rfl, hP⟩ | ⟨gb, m, cap, rfl, hm, hP⟩
      ·have HP := hidden (hP wr (Below.refl _ _))
       rw [EW.out] at HP
       clear hP
       go_upto_region 10 with fail
       refine wp_region_noPanic ?_
       refine wp_region_held_drew (S := (fun w' => w'.cell? ⟨bb, 1 + t, none⟩ = some (.slice (some ⟨rb, 0, none⟩) N rcap))) (by kernel_rfl) (by first | assumption | exact KB.out | exact KS.out _ _ _ (by first | assumption | exact KB.out)) (fun hHeld => ?_)
       refine tk 0 ?_
       refine tk 1 ?_
       refine tk 2 ?_
       refine tk 3 ?_
       refine tk 4 ?_
       refine tk 5 ?_
       refine tk 6 ?_
       refine tk 7 ?_
       refine tk 8 ?_
       refine tk 9 ?_
       refine wpAnyH_ready (rs := [10]) (by kernel_rfl) (by simp) ?_
       refine AllReadyH.cons (o := _) rfl (fun K hK => ?_) AllReadyH.nil
       (try simp only [gA, gB, gC])
       go_simp
       refine hK.out _ _ (by first | assumption | exact KB.out | exact KS.out _ _ _ (by first | assumption | exact KB.out)) (fun hHeld10 => ?_)
       clear hK K
       (try simp only [Act.put]); (try simp only [sA]); (try simp only [sB, sC])
       refine wpAnyH_done (by kernel_rfl) ?_ _
       refine NoPanic.normal ?_
       try clear hHeld
       have HP1 := hidden (HP.out.1.rest (Below.drew (Below.refl _ _)))
       have HP2 := hidden ((HBBl.out.trans HP.out.2).trans (Below.drew (Below.refl _ _)))
       generalize hW6 : (World.setCell wr _ _).drew = w6
       rw [hW6] at HP1 HP2
       clear hW6 HP KB KS cv zv f1
       go_wp2
       go_roundw
       case measure => simp [intOf]; omega
       case rel => exact ⟨l + 1, by omega, by simp, HP1.out, HP2.out⟩
      ·have HP := hidden (hP wr (Below.refl _ _))
       rw [EW.out] at HP
       clear hP
       go_upto_region 10 with fail
       refine wp_region_noPanic ?_
       refine wp_region_held_drew (S := (fun w' => w'.cell? ⟨bb, 1 + t, none⟩ = some (.slice (some ⟨rb, 0, none⟩) N rcap))) (by kernel_rfl) (by first | assumption | exact KB.out | exact KS.out _ _ _ (by first | assumption | exact KB.out)) (fun hHeld => ?_)
       refine tk 0 ?_
       refine tk 1 ?_
       refine tk 2 ?_
       refine tk 3 ?_
       refine tk 4 ?_
       refine tk 5 ?_
       refine tk 6 ?_
       refine tk 7 ?_
       refine tk 8 ?_
       refine tk 9 ?_
       refine wpAnyH_ready (rs := [10]) (by kernel_rfl) (by simp) ?_
       refine AllReadyH.cons (o := _) rfl (fun K hK => ?_) AllReadyH.nil
       (try simp only [gA, gB, gC])
       go_simp
       refine hK.out _ _ (by first | assumption | exact KB.out | exact KS.out _ _ _ (by first | assumption | exact KB.out)) (fun hHeld10 => ?_)
       clear hK K
       (try simp only [Act.put]); (try simp only [sA]); (try simp only [sB, sC])
       refine wpAnyH_done (by kernel_rfl) ?_ _
       refine NoPanic.normal ?_
       try clear hHeld
       have HP1 := hidden (HP.out.1.rest (Below.drew (Below.refl _ _)))
       have HP2 := hidden ((HBBl.out.trans HP.out.2).trans (Below.drew (Below.refl _ _)))
       generalize hW6 : (World.setCell wr _ _).drew = w6
       rw [hW6] at HP1 HP2
       clear hW6 HP KB KS cv zv f1
       go_wp2
       go_roundw
       case measure => simp [intOf]; omega
       case rel => exact ⟨l + 1, by omega, by simp, HP1.out, HP2.out⟩
     ·have hge : ¬ ((l : Int) < (N : Int)) := by omega
      have HNX : Hid (BD B wr bb { st1 with W := cutUp st.W (t + 1) 0 }) := by
       have h5 := HBl.out.bd
       obtain rfl : l = N := by omega
       exact h5.reW _ (fun t' l' h6 h7 => cutUp_row _ _ _ _ _ (by rw [HV1.out]; exact h7))
      clear HBl
      go_wp2
      go_roundw
      case measure => simp [intOf]; omega
      case rel => exact ⟨t + 1, by omega, by simp, HNX.out, HBBl.out⟩
   ·have hge : ¬ ((t : Int) < 2) := by omega
    have HBE : Hid (BD B wr bb { st1 with W := fun _ _ => [] }) := by
     obtain rfl : t = 2 := by omega
     exact HBt.out.reW _ (fun t' l' h6 h7 => cutUp_all _ _ _ h6)
    obtain ⟨st2, HST2⟩ : ∃ s : St, Hid (s = { st1 with W := fun _ _ => [] }) := ⟨_, rfl⟩
    rw [← HST2.out] at HBE
    have HE2 : Hid (EndI st 0 st2) := by
     rw [HST2.out, HST1.out]; exact EndI.first HG.out _ _
    have HR2 : Hid (st2.round = rn + 1 ∧ st2.steps = 0) := by
     rw [HST2.out, HST1.out]; exact ⟨by rw [HRN.out], rfl⟩
    obtain ⟨X, CV, hbd⟩ := HBE.out.bd
    have HBd2 := hidden hbd
    obtain ⟨ca3, cc3, hCV, f0⟩ := hbd.cv
    rw [HE2.out.len, ← HCN.out] at hCV
    subst hCV
    clear hbd HBt
    go_wp2_with fail
    clear f0
    go_loopw [75] (fun i' w' => ∃ (i : Nat) (sti : St), i ≤ cn ∧ i' = .int .i64 i ∧ Hid (Bd B w' bb sti X (.slice ca3 cn cc3)) ∧ Hid (EndI st i sti) ∧ Hid (sti.round = rn + 1 ∧ sti.steps = 0) ∧ Hid (Below B w w')) (fun i' _ => cn - (intOf i').toNat)
    case atStart => exact ⟨0, st2, Nat.zero_le _, rfl, HBd2.out, HE2.out, HR2.out, HBBt.out⟩
    case round =>
     obtain ⟨i, sti, hi, rfl, HBi, HEi, HRi, HBBi⟩ := hrel
     by_cases hil : i < cn
     ·have hiI : (i : Int) < (cn : Int) := by omega
      obtain ⟨c, hc⟩ := getElem_lt (show i < sti.cls.length by rw [HEi.out.len, ← HCN.out]; exact hil)
      obtain ⟨q1, q2, q3, q4, q5, q6⟩ := HEi.out.two i c hc
      obtain ⟨l0, hl0⟩ := getElem_lt (show 0 < c.l.length by omega)
      obtain ⟨l1, hl1⟩ := getElem_lt (show 1 < c.l.length by omega)
      have hne : l0 ≠ l1 := fun e => by subst e; have := nodup_get q2 hl0 hl1; omega
      obtain ⟨cb, ccap, la, lln, lc, hCV2, c0, c1, c2, c3⟩ := HBi.out.clause4 hc
      obtain ⟨rfl, -, rfl⟩ : ca3 = some ⟨cb, 0, none⟩ ∧ cn = sti.cls.length ∧ cc3 = ccap := by simpa using hCV2
      obtain ⟨cr, HCR⟩ : ∃ n, Hid (n = c.round) := ⟨_, rfl⟩
      rw [← HCR.out] at c3
      have hcr : cr ≤ rn := by
       rw [HCR.out, HRN.out]
       have : c.round ∈ sti.cls.map BC.round := List.mem_map.2 ⟨c, List.mem_of_getElem? hc, rfl⟩
       rw [HEi.out.rds] at this
       obtain ⟨d, hd, e⟩ := List.mem_map.1 this
       rw [← e]; exact HG.out.rd d hd
      have WC : Hid (∀ (t : Nat) (w' : World), t < 2 → Below wr.heap.size wr w' → Calls Try.prog 41 #[.pointer (some ⟨bb, 0, none⟩), .int .i32 (i : Int), .int .i64 (t : Int)] w' fun e w'' => e = .returned (.tuple #[]) ∧ Bd B w'' bb (((sti.tierAt i t).addW t l0 (i, l1)).addW t l1 (i, l0)) X (.slice (some ⟨cb, 0, none⟩) cn cc3) ∧ Below B w' w'') := fun t w' ht hb' =>
       watch_any B w' bb sti X _ (HBi.out.rest hb') i t c hc ht l0 l1 hl0 hl1 (by have := q3 l0 (List.mem_of_getElem? hl0); rw [HEi.out.V]; exact this) (by have := q3 l1 (List.mem_of_getElem? hl1); rw [HEi.out.V]; exact this) hne (by rw [HEi.out.len, ← HCN.out]; omega) (by have := HEi.out.wlen t l0; rw [← HCN.out] at this; omega) (by have := HEi.out.wlen t l1; rw [← HCN.out] at this; omega)
      have HNX : Hid (∀ (t : Nat), t < 2 → EndI st (i + 1) (((sti.tierAt i t).addW t l0 (i, l1)).addW t l1 (i, l0))) := fun t ht => HEi.out.next hc ht hl0 hl1
      obtain ⟨-, f10, -, -⟩ := HBi.out.bd.fld
      have f10' : wr.cell? ⟨bb, 10, none⟩ = some (.int .i64 ((rn : Int) + 1)) := by rw [f10, HRi.out.1]; rfl
      have hbbl : bb < wr.heap.size := by obtain ⟨sl, R, _⟩ := HBi.out; exact R.lt
      have hBl := HBi.out.lt
      have e9 : IntKind.i64.wrap ((i : Int) + 1) = (i : Int) + 1 := wrapI _ (by omega) (by omega)
      have e10 : IntKind.i64.wrap ((cr : Int) + 2) = (cr : Int) + 2 := wrapI _ (by omega) (by omega)
      have e11 : IntKind.i32.wrap (i : Int) = (i : Int) := wrap32 _ (by omega) (by omega)
      clear hc hl0 hl1 q2 q3 q4 q5 q6 f10 hCV2 hne
      go_upto_region 17 with fail
      generalize hW5 : World.alloc wr _ = w5
      have HB5 : Hid (Below wr.heap.size wr w5) := by rw [← hW5]; exact Below.alloc (Below.refl _ _) (Nat.le_refl _) _
      have g3 : w5.cell? ⟨wr.heap.size, 3, none⟩ = some (.int .i64 (cr : Int)) := by rw [← hW5]; exact cell_of_row _ _ 3 _ _ (0, 0) (heap_new _ _)
      have g10 : w5.cell? ⟨bb, 10, none⟩ = some (.int .i64 ((rn : Int) + 1)) := (HB5.out.cell (p := ⟨bb, 10, none⟩) hbbl).trans f10'
      obtain ⟨xb, HXB⟩ : ∃ x, Hid (x = wr.heap.size) := ⟨_, rfl⟩
      rw [← HXB.out] at g3
      have KB : Hid ((fun w' => w'.cell? ⟨xb, 3, none⟩ = some (.int .i64 (cr : Int)) ∧ w'.cell? ⟨bb, 10, none⟩ = some (.int .i64 ((rn : Int) + 1))) w5) := ⟨g3, g10⟩
      clear hW5 c0 c1 c2 c3 f10' g3 g10
      rw [← HXB.out]
      refine wp_region_noPanic ?_
      refine wp_region_held_drew (S := (fun w' => w'.cell? ⟨xb, 3, none⟩ = some (.int .i64 (cr : Int)) ∧ w'.cell? ⟨bb, 10, none⟩ = some (.int .i64 ((rn : Int) + 1)))) (by kernel_rfl) (by first | assumption | exact KB.out) (fun hHeld => ?_)
      refine tk 0 ?_
      refine tk 1 ?_
      refine tk 2 ?_
      refine tk 3 ?_
      refine tk 4 ?_
      refine tk 5 ?_
      refine tk 6 ?_
      refine tk 7 ?_
      refine wpAnyH_done (by kernel_rfl) ?_ _
      refine NoPanic.normal ?_
      try clear hHeld
      have HB6 : Hid (Below wr.heap.size wr w5.drew) := HB5.out.trans (Below.drew (Below.refl _ _))
      have HB6' : Hid (Below B w w5.drew) := HBBi.out.trans (HB6.out.mono hBl)
      clear KB HB5
      generalize hW6 : w5.drew = w6 at HB6 HB6' ⊢
      clear hW6
      by_cases hfar : ((cr : Int) + 2) < (rn : Int) + 1
      ·have WC1 := hidden (WC.out 1 w6 (by decide) HB6.out)
       have HN1 := hidden (HNX.out 1 (by decide))
       clear WC HNX
       go_wp2_with fail
       go_at_call 41
       refine WC1.out.mono ?_
       rintro e w7 ⟨rfl, hb7, hbb7⟩
       have HB7 := hidden hb7
       have HBB7 : Hid (Below B w w7) := HB6'.out.trans hbb7
       have HR7 : Hid ((((sti.tierAt i 1).addW 1 l0 (i, l1)).addW 1 l1 (i, l0)).round = rn + 1 ∧ (((sti.tierAt i 1).addW 1 l0 (i, l1)).addW 1 l1 (i, l0)).steps = 0) := HRi.out
       clear hb7 hbb7 WC1
       go_wp2
       go_roundw
       case measure => simp [intOf]; omega
       case rel => exact ⟨i + 1, _, by omega, by simp, HB7.out, HN1.out, HR7.out, HBB7.out⟩
      ·have WC1 := hidden (WC.out 0 w6 (by decide) HB6.out)
       have HN1 := hidden (HNX.out 0 (by decide))
       clear WC HNX
       go_wp2_with fail
       go_at_call 41
       refine WC1.out.mono ?_
       rintro e w7 ⟨rfl, hb7, hbb7⟩
       have HB7 := hidden hb7
       have HBB7 : Hid (Below B w w7) := HB6'.out.trans hbb7
       have HR7 : Hid ((((sti.tierAt i 0).addW 0 l0 (i, l1)).addW 0 l1 (i, l0)).round = rn + 1 ∧ (((sti.tierAt i 0).addW 0 l0 (i, l1)).addW 0 l1 (i, l0)).steps = 0) := HRi.out
       clear hb7 hbb7 WC1
       go_wp2
       go_roundw
       case measure => simp [intOf]; omega
       case rel => exact ⟨i + 1, _, by omega, by simp, HB7.out, HN1.out, HR7.out, HBB7.out⟩
     ·have hge2 : ¬ ((i : Int) < (cn : Int)) := by omega
      have HX : Hid (EndP F B w bb st wr) := by
       obtain rfl : i = cn := by omega
       have hE := HEi.out
       rw [HCN.out] at hE
       refine ⟨sti, HBi.out.bd, hE.last HG.out (by rw [HRi.out.1, HRN.out]; omega), hE.V, hE.len, hE.done, by rw [HRi.out.2]; omega, by rw [HRi.out.1, HRN.out]; omega, HBBi.out⟩
      go_wp2
      go_end0
      exact ⟨rfl, HX.out⟩
end Go.Proofs.Ytefjicdhccfieaa
