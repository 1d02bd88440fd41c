import Derived.Test.YtimmmlnememjiaaGreatDoorX
import Derived.Test.YtimmmlnememjiaaGreatDoorX32
import Derived.Test.YtimmmlnememjiaaGreatDoorX02
import Derived.Test.YtimmmlnememjiaaGreatDoorX09
import Derived.Test.YtimmmlnememjiaaGreatDoorX14
set_option maxRecDepth 100000
set_option maxHeartbeats 16000000
namespace Go.Proofs.YtimmmlnememjiaaGreatDoor
open Go.RowKit
theorem alloc_setFrom (w : World) (T : TypeId) (vs : List Value) : ∀ (z : Array Value) (o : Nat), setFrom (w.alloc (.cells z T)) w.heap.size o vs = w.alloc (.cells (arrFrom z o vs) T) := by
 induction vs with
 | nil => intro z o; rfl
 | cons v r ih =>
  intro z o
  rw [setFrom, World.setCell_alloc_at z T w.heap.size o v rfl, ih, arrFrom]
theorem alloc_set (w : World) (z cs : Array Value) (T : TypeId) (h : z.size = cs.size) : (w.alloc (.cells z T)).setCells w.heap.size 0 cs.toList = w.alloc (.cells cs T) := by
 rw [setCells_from, alloc_setFrom, arrFrom_full _ _ h]
theorem there_new {w : World} (z : Array Value) (T : TypeId) {n : Nat} (h : z.size = n) : (w.alloc (.cells z T)).there w.heap.size 0 n := by
 obtain ⟨h1, h2, _⟩ := bxN (heap_alloc_self w (.cells z T))
 intro j hj
 refine ⟨?_, h2 _⟩
 rw [h1, Array.getElem?_eq_getElem (by omega)]; rfl
theorem range_of {w : World} {k : Nat} {cs : Array Value} {T : TypeId} (h : w.heap[k]? = some (.cells cs T)) : w.rangeAt k 0 cs.toList := fun j v hv => by
 rw [cell_of h, Nat.zero_add, ← Array.getElem?_toList]; exact hv
theorem one_all {cs : List Value} (h : ∀ v ∈ cs, v.oneCell' = true) : cs.toArray.all (·.oneCell') = true := all_oneCell_toArray h
theorem q_commasE {B bp : Nat} {w0 : World} (es : List (List Value × List UInt8)) (b cap : Nat) (hb : Hid (b < B)) (hlen : es.length ≤ 2000000000000)
  (hce : Hid (∀ (i : Nat) (x : List Value × List UInt8), es[i]? = some x → x.1.length = 7 ∧ (∀ u ∈ x.1, u.oneCell' = true) ∧ ∀ (j : Nat) (u : Value), x.1[j]? = some u → w0.cell? ⟨b, i * 7 + j, none⟩ = some u))
  (ih : Hid (∀ (i : Nat) (x : List Value × List UInt8), es[i]? = some x → Puts B bp w0 62 #[.pointer (some ⟨bp, 0, none⟩), .agg x.1.toArray] x.2)) :
  Puts B bp w0 83 #[.pointer (some ⟨bp, 0, none⟩), .slice (some ⟨b, 0, none⟩) es.length cap, .func (.func 62) #[.pointer (some ⟨bp, 0, none⟩)] #[]] (commaTxt (es.map (·.2))) := by
 intro w tx hb0 hsz hp hl0
 have HL := hidp hl0
 have HB := hidp hb0
 have HP0 := hidp hp
 clear hl0 hb0 hp
 obtain ⟨tt, HT⟩ : ∃ tt, Hid (commaTxt (es.map (·.2)) = tt) := ⟨_, rfl⟩
 show Calls Tryz.prog 83 _ w (PutPost B bp (tx ++ commaTxt (es.map (·.2))) w)
 rw [HT.out]
 go_enter Tryz.func83, Tryz.ntmps83
 go_wp2_with fail
 go_loopw [6, 7, 10] (fun _ _ i w' => ∃ k : Nat, k ≤ es.length ∧ i = .int .i64 k ∧ Hid (PrAt B bp (tx ++ commaTxt ((es.map (·.2)).take k)) w') ∧ Hid (Qp B bp w w')) (fun _ _ i _ => es.length - (intOf i).toNat)
 case atStart => exact ⟨0, Nat.zero_le _, rfl, (by show PrAt B bp (tx ++ commaTxt ((es.map (·.2)).take 0)) w; rw [List.take_zero]; simpa [commaTxt] using HP0.out), Qp.refl _ _ _⟩
 case round =>
  obtain ⟨k, hk, rfl, HR, HQ⟩ := hrel
  by_cases hlt : k < es.length
  ·obtain ⟨x, hx⟩ : ∃ x, es[k]? = some x := ⟨es[k], List.getElem?_eq_getElem hlt⟩
   have hxt : (es.map (·.2))[k]'(by simpa using hlt) = x.2 := by
    have : es[k] = x := by rw [List.getElem?_eq_getElem hlt] at hx; exact Option.some.inj hx
    simp [this]
   have hnx := commaTxt_next (es.map (·.2)) k (by simpa using hlt)
   have hz1 := commaTxt_take (es.map (·.2)) (k + 1)
   rw [hxt] at hnx
   obtain ⟨hcl, hone, hcell⟩ := hce.out k x hx
   have hzr : B ≤ wr.heap.size := Qp.le HQ.out hsz
   have HRA : Hid (wr.rangeAt b (k * 7) x.1) := fun j v hv => by rw [(HB.out.trans HQ.out.1).cell (p := ⟨b, k * 7 + j, none⟩) hb.out]; exact hcell j v hv
   have IH := hidp (ih.out k x hx)
   obtain ⟨cs, t⟩ := x
   simp only at hcl hone HRA IH hnx
   have HSA : Hid (cs.toArray.size = 7) := by show _ = _; simpa using hcl
   have HSL : Hid ((Tryz.prog.info? 55).map (·.size) = some cs.length) := by show _ = _; rw [hcl]; kernel_rfl
   have HTT : Hid ((wr.alloc (.cells #[.int .i64 0, .int .i64 0, .int .i64 0, .int .i64 0, .int .u64 0, .string ⟨#[]⟩, .slice none 0 0] 55)).there wr.heap.size 0 cs.toArray.size) := there_new _ _ HSA.out.symm
   have HTI : Hid ((Tryz.prog.info? 55).map (·.size) = some cs.toArray.size) := by show _ = _; rw [HSA.out]; kernel_rfl
   have HTO : Hid (cs.toArray.all (·.oneCell') = true) := one_all hone
   clear hx hxt hcl hone hcell
   have hk1 : (0 : Int) ≤ (k : Int) := by omega
   have hk2 : (k : Int) < (es.length : Int) := by omega
   go_upto_region 3 with (first | (refine wpList_load_mid rfl 55 (.tmp 13) rfl b (k * 7) rfl cs _ HRA.out Tryz.underlying55 rfl HSL.out ?_) | (refine wpList_store_mid rfl 55 (.tmp 7) (.tmp 14) rfl wr.heap.size 0 cs.toArray rfl rfl HTT.out HTI.out HTO.out ?_))
   generalize hS : World.setCells _ wr.heap.size 0 _ = wb
   replace hS : wr.alloc (.cells cs.toArray 55) = wb := (alloc_set wr #[.int .i64 0, .int .i64 0, .int .i64 0, .int .i64 0, .int .u64 0, .string ⟨#[]⟩, .slice none 0 0] cs.toArray 55 HSA.out.symm).symm.trans hS
   obtain ⟨hpW, hzW, hqW, hkW, hne, hzz⟩ := q_box HR.out hzr hS
   have HP1 := hidp hpW
   have HQ1 := hidp (Qp.trans HQ.out hqW)
   have HK1 := hidp hkW
   have HNE := hidp hne
   have HZZ := hidp hzz
   have HLO : Hid (wb.rangeAt wr.heap.size 0 cs) := range_of hkW
   clear hS hpW hqW hkW hne hzz HTT HTI HTO HRA HSA
   have tok : True := trivial
   by_cases h0 : k = 0
   ·have h0p : ¬ (0 : Int) < (k : Int) := by omega
    rw [if_pos h0] at hnx
    have HE : Hid (commaTxt ((es.map (·.2)).take k) = []) := by show _ = _; rw [h0]; rfl
    have HN : Hid (tx ++ commaTxt ((es.map (·.2)).take k) ++ t = tx ++ commaTxt ((es.map (·.2)).take (k + 1))) := by show _ = _; rw [HE.out, hnx, List.append_nil]
    have HLk := hidp (Nat.le_trans (Nat.add_le_add_left hz1 tx.length) HL.out)
    have HNX := hidp hnx
    clear h0 hnx hz1
    go_wp2_with (have _t := tok; refine wpList_load_mid rfl 55 (.tmp 7) rfl wr.heap.size 0 rfl cs _ HLO.out Tryz.underlying55 rfl HSL.out ?_; clear tok)
    refine (IH.out wb _ (HB.out.trans HQ1.out.1) hzW HP1.out (by have := HLk.out; rw [HNX.out] at this; rw [lnA, HE.out]; simpa using this)).mono ?_
    rintro e v2 ⟨rfl, hp3, hq3⟩
    have HP3 := hidp hp3
    have HQ3 := hidp (Qp.trans HQ1.out hq3)
    clear hp3 hq3
    go_wp2_with fail
    exact ⟨⟨k + 1, by omega, by go_num, by have := HP3.out; rw [HN.out] at this; exact this, HQ3.out⟩, by simp [intOf]; omega⟩
   ·have h0p : (0 : Int) < (k : Int) := by omega
    rw [if_neg h0] at hnx
    have HN : Hid (tx ++ commaTxt ((es.map (·.2)).take k) ++ [44, 32] ++ t = tx ++ commaTxt ((es.map (·.2)).take (k + 1))) := by show _ = _; rw [hnx]; simp only [List.append_assoc]
    have HLk := hidp (Nat.le_trans (Nat.add_le_add_left hz1 tx.length) HL.out)
    have HNX := hidp hnx
    clear h0 hnx hz1
    go_wp2_with fail
    refine (put1 (w := wb) HP1.out hzW rfl ⟨#[44, 32]⟩ [44, 32] rfl (by have := HLk.out; rw [HNX.out] at this; simp only [lnA, lnC, lnN] at this ⊢; omega)).mono ?_
    rintro e v1 ⟨rfl, hp2, hq2⟩
    have HP2 := hidp hp2
    have HQ2 := hidp (Qp.trans HQ1.out hq2)
    have z2 : B ≤ v1.heap.size := Qp.le hq2 hzW
    have HK2 := hidp (hq2.heap HK1.out HNE.out (by decide))
    have HLO2 : Hid (v1.rangeAt wr.heap.size 0 cs) := range_of HK2.out
    clear hp2 hq2 HLO
    have HLO := HLO2
    clear HLO2
    go_wp2_with (have _t := tok; refine wpList_load_mid rfl 55 (.tmp 7) rfl wr.heap.size 0 rfl cs _ HLO.out Tryz.underlying55 rfl HSL.out ?_; clear tok)
    refine (IH.out v1 _ (HB.out.trans HQ2.out.1) z2 HP2.out (by have := HLk.out; rw [HNX.out] at this; simp only [lnA, lnC, lnN] at this ⊢; omega)).mono ?_
    rintro e v2 ⟨rfl, hp3, hq3⟩
    have HP3 := hidp hp3
    have HQ3 := hidp (Qp.trans HQ2.out hq3)
    clear hp3 hq3
    go_wp2_with fail
    exact ⟨⟨k + 1, by omega, by go_num, by have := HP3.out; rw [HN.out] at this; exact this, HQ3.out⟩, by simp [intOf]; omega⟩
  ·go_wp2_with fail
   go_end0
   refine ⟨rfl, ?_, HQ.out⟩
   have := HR.out
   rw [List.take_of_length_le (by simp; omega), HT.out] at this
   exact this
theorem q_commasE_nil {B bp : Nat} {w0 : World} (f : Value) : Puts B bp w0 83 #[.pointer (some ⟨bp, 0, none⟩), .slice none 0 0, f] [] := by
 intro w tx hb0 hsz hp hl0
 have HP0 := hidp hp
 clear hl0 hb0 hp
 go_enter Tryz.func83, Tryz.ntmps83
 go_wp2_with fail
 go_loopw [6, 7, 10] (fun _ _ i w' => i = .int .i64 0 ∧ w' = w) (fun _ _ _ _ => 0)
 case atStart => exact ⟨rfl, rfl⟩
 case round =>
  obtain ⟨rfl, rfl⟩ := hrel
  go_wp2_with fail
  go_end0
  exact ⟨rfl, by rw [List.append_nil]; exact HP0.out, Qp.refl _ _ _⟩
end Go.Proofs.YtimmmlnememjiaaGreatDoor
