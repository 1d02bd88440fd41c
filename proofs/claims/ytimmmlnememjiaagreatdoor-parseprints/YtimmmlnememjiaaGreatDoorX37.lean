import Derived.Test.YtimmmlnememjiaaGreatDoorX
import Derived.Test.YtimmmlnememjiaaGreatDoorX34
import Derived.Test.YtimmmlnememjiaaGreatDoorX32
set_option maxRecDepth 100000
set_option maxHeartbeats 16000000
namespace Go.Proofs.YtimmmlnememjiaaGreatDoor
open Go.RowKit
theorem q_flat_next (l : List (List UInt8)) (k : Nat) (h : k < l.length) : (l.take (k + 1)).flatten = (l.take k).flatten ++ l[k] := by
 rw [List.take_succ_eq_append_getElem h, List.flatten_append]; simp
theorem q_flat_take (l : List (List UInt8)) (k : Nat) : (l.take k).flatten.length ≤ l.flatten.length := by
 conv => rhs; rw [← List.take_append_drop k l, List.flatten_append, lnA]
 omega
theorem q_block {B bp : Nat} {w0 : World} (a lt nm vx va : Value) (es : List (List Value × List UInt8)) (pa : Option Addr) (b cap : Nat) (hpa : Hid (es ≠ [] → pa = some ⟨b, 0, none⟩ ∧ b < B)) (hle : es.length ≤ 2000000000000)  
  (hce : Hid (∀ (i : Nat) (x : List Value × List UInt8), es[i]? = some x → x.1.length = 7 ∧ (∀ u ∈ x.1, u.oneCell' = true) ∧ ∀ (j : Nat) (u : Value), x.1[j]? = some u → w0.cell? ⟨b, i * 7 + j, none⟩ = some u))
  (ih : Hid (∀ (i : Nat) (x : List Value × List UInt8), es[i]? = some x → Puts B bp w0 84 #[.pointer (some ⟨bp, 0, none⟩), .agg x.1.toArray] x.2)) :
  Puts B bp w0 84 #[.pointer (some ⟨bp, 0, none⟩), .agg #[.int .i64 2, a, lt, nm, vx, .slice pa es.length cap, va]] ([98, 101, 103, 105, 110, 32] ++ (es.map (fun x => x.2 ++ [32])).flatten ++ [101, 110, 100]) := by
 intro w tx hb hsz hp hlen
 have HL := hidp hlen
 have HB := hidp hb
 have HP0 := hidp hp
 clear hlen hb hp
 generalize hTT : [98, 101, 103, 105, 110, 32] ++ (es.map (fun x => x.2 ++ [32])).flatten ++ [101, 110, 100] = tt
 have HT := hidp hTT
 clear hTT
 go_enter Tryz.func84, Tryz.ntmps84
 go_wp2_with fail
 generalize hW : w.alloc (.cells #[.int .i64 2, a, lt, nm, vx, .slice pa es.length cap, va] 93) = W at *
 obtain ⟨hpW, hzW, hqW, hkW, hne, hzz⟩ := q_box HP0.out hsz hW
 have HP1 := hidp hpW
 have HQ1 := hidp hqW
 have HK1 := hidp hkW
 have HNE := hidp hne
 have HZZ := hidp hzz
 clear hW hpW hqW hkW hne hzz
 refine (put1 (w := W) HP1.out hzW HZZ.out ⟨#[98, 101, 103, 105, 110, 32]⟩ [98, 101, 103, 105, 110, 32] rfl (by have := HL.out; simp only [lnA, lnC, lnN] at this ⊢; omega)).mono ?_
 rintro e w1 ⟨rfl, hp2, hq2⟩
 have HP2 := hidp hp2
 have HQ2 := hidp (Qp.trans HQ1.out hq2)
 have z2 : B ≤ w1.heap.size := Qp.le hq2 hzW
 have HK2 := hidp (hq2.heap HK1.out HNE.out (by decide))
 have c2_5 : w1.cell? ⟨w.heap.size, 5, none⟩ = some (.slice pa es.length cap) := (cell_of HK2.out 5).trans rfl
 clear hp2 hq2
 go_wp2_with fail
 have HPc := HP2
 have HQc := HQ2
 clear c2_5
 go_loopw [5, 23] (fun _ i w' => ∃ k : Nat, k ≤ es.length ∧ i = .int .i64 k ∧ Hid (PrAt B bp (tx ++ [98, 101, 103, 105, 110, 32] ++ ((es.map (fun x => x.2 ++ [32])).take k).flatten) w') ∧ Hid (Qp B bp w w')) (fun _ i _ => es.length - (intOf i).toNat)
 case atStart => exact ⟨0, Nat.zero_le _, rfl, (by show PrAt B bp (tx ++ [98, 101, 103, 105, 110, 32] ++ ((es.map (fun x => x.2 ++ [32])).take 0).flatten) _; rw [List.take_zero, List.flatten_nil, List.append_nil]; exact HPc.out), HQc.out⟩
 case round =>
  obtain ⟨k, hk, rfl, HR, HQ⟩ := hrel
  by_cases hlt : k < es.length
  ·obtain ⟨hpe, hbB⟩ := hpa.out (by intro e; rw [e] at hlt; simp at hlt)
   subst hpe
   have HBB := hidp hbB
   clear hbB
   obtain ⟨x, hx⟩ : ∃ x, es[k]? = some x := ⟨es[k], List.getElem?_eq_getElem hlt⟩
   have hnx := q_flat_next (es.map (fun x => x.2 ++ [32])) k (by simpa using hlt)
   have hz1 := q_flat_take (es.map (fun x => x.2 ++ [32])) (k + 1)
   have hxt : (es.map (fun x => x.2 ++ [32]))[k]'(by simpa using hlt) = x.2 ++ [32] := by
    have : es[k] = x := by rw [List.getElem?_eq_getElem hlt] at hx; exact Option.some.inj hx
    simp [this]
   rw [hxt] at hnx
   obtain ⟨hcl, hone, hcell⟩ := hce.out k x hx
   have hzr : B ≤ wr.heap.size := Qp.le HQ.out hsz
   have HRA : Hid (wr.rangeAt b (k * 7) x.1) := fun j v hv => by rw [(HB.out.trans HQ.out.1).cell (p := ⟨b, k * 7 + j, none⟩) HBB.out]; exact hcell j v hv
   have IH := hidp (ih.out k x hx)
   obtain ⟨cs2, t⟩ := x
   simp only at hcl hone HRA IH hnx
   have HSA : Hid (cs2.toArray.size = 7) := by show _ = _; simpa using hcl
   have HSL : Hid ((Tryz.prog.info? 93).map (·.size) = some cs2.length) := by show _ = _; rw [hcl]; kernel_rfl
   have HTT : Hid ((wr.alloc (.cells #[.int .i64 0, .int .i64 0, .bool false, .string ⟨#[]⟩, .slice none 0 0, .slice none 0 0, .slice none 0 0] 93)).there wr.heap.size 0 cs2.toArray.size) := there_new _ _ (HSA.out.symm)
   have HTI : Hid ((Tryz.prog.info? 93).map (·.size) = some cs2.toArray.size) := by show _ = _; rw [HSA.out]; kernel_rfl
   have HTO : Hid (cs2.toArray.all (·.oneCell') = true) := one_all hone
   clear hx hxt hcl hone hcell
   have hk1 : (0 : Int) ≤ (k : Int) := by omega
   have hk2 : (k : Int) < (es.length : Int) := by omega
   have HLk := hidp hz1
   have HNX := hidp hnx
   clear hz1 hnx
   go_upto_region 9 with (first | (refine wpList_load_mid rfl 93 (.tmp 25) rfl b (k * 7) rfl cs2 _ HRA.out Tryz.underlying93 rfl HSL.out ?_) | (refine wpList_store_mid rfl 93 (.tmp 5) (.tmp 26) rfl wr.heap.size 0 cs2.toArray rfl rfl HTT.out HTI.out HTO.out ?_))
   generalize hS : World.setCells _ wr.heap.size 0 _ = wb
   replace hS : wr.alloc (.cells cs2.toArray 93) = wb := (alloc_set wr #[.int .i64 0, .int .i64 0, .bool false, .string ⟨#[]⟩, .slice none 0 0, .slice none 0 0, .slice none 0 0] cs2.toArray 93 (HSA.out.symm)).symm.trans hS
   obtain ⟨hpW, hzW, hqW, hkW, hne, hzz⟩ := q_box HR.out hzr hS
   have HP1 := hidp hpW
   have HQ1 := hidp (Qp.trans HQ.out hqW)
   have HLO : Hid (wb.rangeAt wr.heap.size 0 cs2) := range_of hkW
   clear hS hpW hqW hkW hne hzz HTT HTI HTO HRA HSA
   have tok : True := trivial
   go_wp2_with (have _t := tok; refine wpList_load_mid rfl 93 (.tmp 5) rfl wr.heap.size 0 rfl cs2 _ HLO.out Tryz.underlying93 rfl HSL.out ?_; clear tok)
   refine (IH.out wb _ (HB.out.trans HQ1.out.1) hzW HP1.out (by have := HL.out; have h2 := HLk.out; rw [HNX.out] at h2; simp only [lnA, lnC, lnN] at this h2 ⊢; omega)).mono ?_
   rintro e v1 ⟨rfl, hp2, hq2⟩
   have HP2 := hidp hp2
   have HQ2 := hidp (Qp.trans HQ1.out hq2)
   have z2 : B ≤ v1.heap.size := Qp.le hq2 hzW
   clear hp2 hq2
   go_wp2_with fail
   refine (put1 (w := v1) HP2.out z2 rfl ⟨#[32]⟩ [32] rfl (by have := HL.out; have h2 := HLk.out; rw [HNX.out] at h2; simp only [lnA, lnC, lnN] at this h2 ⊢; omega)).mono ?_
   rintro e v2 ⟨rfl, hp3, hq3⟩
   have HP3 := hidp hp3
   have HQ3 := hidp (Qp.trans HQ2.out hq3)
   clear hp3 hq3
   go_wp2_with fail
   exact ⟨⟨k + 1, by omega, by go_num, hidp (by have := HP3.out; rw [HNX.out]; simpa only [List.append_assoc] using this), HQ3.out⟩, by simp [intOf]; omega⟩
  ·have HE : Hid (PrAt B bp (tx ++ [98, 101, 103, 105, 110, 32] ++ (es.map (fun x => x.2 ++ [32])).flatten) wr) := by have := HR.out; rw [List.take_of_length_le (by simp; omega)] at this; exact this
   have hzr : B ≤ wr.heap.size := Qp.le HQ.out hsz
   clear HR
   go_wp2_with fail
   refine (put1 (w := wr) HE.out hzr rfl ⟨#[101, 110, 100]⟩ [101, 110, 100] rfl (by have := HL.out; simp only [lnA, lnC, lnN] at this ⊢; omega)).mono ?_
   rintro e v9 ⟨rfl, hp9, hq9⟩
   have HP9 := hidp hp9
   have HQ9 := hidp (Qp.trans HQ.out hq9)
   clear hp9 hq9
   go_wp2_with fail
   go_end0
   exact ⟨rfl, by rw [← HT.out]; have := HP9.out; simpa only [List.append_assoc] using this, HQ9.out⟩
theorem q_case {B bp : Nat} {w0 : World} (a lt nm vs : Value) (bx capx : Nat) (h0 h1 h2 h3 h4 h5 h6 : Value) (t1 : List UInt8) (es : List (List Value × List UInt8)) (pa : Option Addr) (b cap : Nat) (hpa : Hid (es ≠ [] → pa = some ⟨b, 0, none⟩ ∧ b < B)) (hle : es.length ≤ 2000000000000) (b_bx : Hid (bx < B)) (m0 : Hid (w0.cell? ⟨bx, 0, none⟩ = some (h0))) (m1 : Hid (w0.cell? ⟨bx, 1, none⟩ = some (h1))) (m2 : Hid (w0.cell? ⟨bx, 2, none⟩ = some (h2))) (m3 : Hid (w0.cell? ⟨bx, 3, none⟩ = some (h3))) (m4 : Hid (w0.cell? ⟨bx, 4, none⟩ = some (h4))) (m5 : Hid (w0.cell? ⟨bx, 5, none⟩ = some (h5))) (m6 : Hid (w0.cell? ⟨bx, 6, none⟩ = some (h6)))
  (ihc : Hid (Puts B bp w0 69 #[.pointer (some ⟨bp, 0, none⟩), .string ⟨#[99, 97, 115, 101]⟩, .agg #[h0, h1, h2, h3, h4, h5, h6]] t1)) (hce : Hid (∀ (i : Nat) (x : List Value × List UInt8), es[i]? = some x → x.1.length = 9 ∧ (∀ u ∈ x.1, u.oneCell' = true) ∧ ∀ (j : Nat) (u : Value), x.1[j]? = some u → w0.cell? ⟨b, i * 9 + j, none⟩ = some u))
  (ih : Hid (∀ (i : Nat) (x : List Value × List UInt8), es[i]? = some x → Puts B bp w0 91 #[.pointer (some ⟨bp, 0, none⟩), .agg x.1.toArray] x.2)) :
  Puts B bp w0 84 #[.pointer (some ⟨bp, 0, none⟩), .agg #[.int .i64 4, a, lt, nm, .slice (some ⟨bx, 0, none⟩) 1 capx, vs, .slice pa es.length cap]] (t1 ++ [32] ++ (es.map (fun x => x.2 ++ [32])).flatten ++ [101, 110, 100, 99, 97, 115, 101]) := by
 intro w tx hb hsz hp hlen
 have HL := hidp hlen
 have HB := hidp hb
 have HP0 := hidp hp
 clear hlen hb hp
 generalize hTT : t1 ++ [32] ++ (es.map (fun x => x.2 ++ [32])).flatten ++ [101, 110, 100, 99, 97, 115, 101] = tt
 have HT := hidp hTT
 clear hTT
 have d0_0 : (w.alloc (.cells #[.int .i64 4, a, lt, nm, .slice (some ⟨bx, 0, none⟩) 1 capx, vs, .slice pa es.length cap] 93)).cell? ⟨bx, 0, none⟩ = some (h0) := ((HB.out.trans ((Below.refl _ _).alloc hsz _)).cell (p := ⟨bx, 0, none⟩) b_bx.out).trans m0.out
 have d1_0 : (w.alloc (.cells #[.int .i64 4, a, lt, nm, .slice (some ⟨bx, 0, none⟩) 1 capx, vs, .slice pa es.length cap] 93)).cell? ⟨bx, 1, none⟩ = some (h1) := ((HB.out.trans ((Below.refl _ _).alloc hsz _)).cell (p := ⟨bx, 1, none⟩) b_bx.out).trans m1.out
 have d2_0 : (w.alloc (.cells #[.int .i64 4, a, lt, nm, .slice (some ⟨bx, 0, none⟩) 1 capx, vs, .slice pa es.length cap] 93)).cell? ⟨bx, 2, none⟩ = some (h2) := ((HB.out.trans ((Below.refl _ _).alloc hsz _)).cell (p := ⟨bx, 2, none⟩) b_bx.out).trans m2.out
 have d3_0 : (w.alloc (.cells #[.int .i64 4, a, lt, nm, .slice (some ⟨bx, 0, none⟩) 1 capx, vs, .slice pa es.length cap] 93)).cell? ⟨bx, 3, none⟩ = some (h3) := ((HB.out.trans ((Below.refl _ _).alloc hsz _)).cell (p := ⟨bx, 3, none⟩) b_bx.out).trans m3.out
 have d4_0 : (w.alloc (.cells #[.int .i64 4, a, lt, nm, .slice (some ⟨bx, 0, none⟩) 1 capx, vs, .slice pa es.length cap] 93)).cell? ⟨bx, 4, none⟩ = some (h4) := ((HB.out.trans ((Below.refl _ _).alloc hsz _)).cell (p := ⟨bx, 4, none⟩) b_bx.out).trans m4.out
 have d5_0 : (w.alloc (.cells #[.int .i64 4, a, lt, nm, .slice (some ⟨bx, 0, none⟩) 1 capx, vs, .slice pa es.length cap] 93)).cell? ⟨bx, 5, none⟩ = some (h5) := ((HB.out.trans ((Below.refl _ _).alloc hsz _)).cell (p := ⟨bx, 5, none⟩) b_bx.out).trans m5.out
 have d6_0 : (w.alloc (.cells #[.int .i64 4, a, lt, nm, .slice (some ⟨bx, 0, none⟩) 1 capx, vs, .slice pa es.length cap] 93)).cell? ⟨bx, 6, none⟩ = some (h6) := ((HB.out.trans ((Below.refl _ _).alloc hsz _)).cell (p := ⟨bx, 6, none⟩) b_bx.out).trans m6.out
 go_enter Tryz.func84, Tryz.ntmps84
 go_wp2_with fail
 clear d0_0 d1_0 d2_0 d3_0 d4_0 d5_0 d6_0
 generalize hW : w.alloc (.cells #[.int .i64 4, a, lt, nm, .slice (some ⟨bx, 0, none⟩) 1 capx, vs, .slice pa es.length cap] 93) = W at *
 obtain ⟨hpW, hzW, hqW, hkW, hne, hzz⟩ := q_box HP0.out hsz hW
 have HP1 := hidp hpW
 have HQ1 := hidp hqW
 have HK1 := hidp hkW
 have HNE := hidp hne
 have HZZ := hidp hzz
 clear hW hpW hqW hkW hne hzz
 refine (ihc.out W _ (HB.out.trans HQ1.out.1) hzW HP1.out (by have := HL.out; simp only [lnA, lnC, lnN] at this ⊢; omega)).mono ?_
 rintro e w1 ⟨rfl, hp2, hq2⟩
 have HP2 := hidp hp2
 have HQ2 := hidp (Qp.trans HQ1.out hq2)
 have z2 : B ≤ w1.heap.size := Qp.le hq2 hzW
 have HK2 := hidp (hq2.heap HK1.out HNE.out (by decide))
 have c2_6 : w1.cell? ⟨w.heap.size, 6, none⟩ = some (.slice pa es.length cap) := (cell_of HK2.out 6).trans rfl
 clear hp2 hq2
 go_wp2_with fail
 have c2 := hidp c2_6
 clear c2_6
 refine (put1 (w := w1) HP2.out z2 rfl ⟨#[32]⟩ [32] rfl (by have := HL.out; simp only [lnA, lnC, lnN] at this ⊢; omega)).mono ?_
 rintro e w2 ⟨rfl, hp3, hq3⟩
 have HP3 := hidp hp3
 have HQ3 := hidp (Qp.trans HQ2.out hq3)
 have z3 : B ≤ w2.heap.size := Qp.le hq3 z2
 have HK3 := hidp (hq3.heap HK2.out HNE.out (by decide))
 have c3_6 : w2.cell? ⟨w.heap.size, 6, none⟩ = some (.slice pa es.length cap) := (cell_of HK3.out 6).trans rfl
 clear hp3 hq3
 go_wp2_with fail
 have HPc := HP3
 have HQc := HQ3
 clear c3_6 c2
 go_loopw [7, 56] (fun _ i w' => ∃ k : Nat, k ≤ es.length ∧ i = .int .i64 k ∧ Hid (PrAt B bp (tx ++ t1 ++ [32] ++ ((es.map (fun x => x.2 ++ [32])).take k).flatten) w') ∧ Hid (Qp B bp w w')) (fun _ i _ => es.length - (intOf i).toNat)
 case atStart => exact ⟨0, Nat.zero_le _, rfl, (by show PrAt B bp (tx ++ t1 ++ [32] ++ ((es.map (fun x => x.2 ++ [32])).take 0).flatten) _; rw [List.take_zero, List.flatten_nil, List.append_nil]; exact HPc.out), HQc.out⟩
 case round =>
  obtain ⟨k, hk, rfl, HR, HQ⟩ := hrel
  by_cases hlt : k < es.length
  ·obtain ⟨hpe, hbB⟩ := hpa.out (by intro e; rw [e] at hlt; simp at hlt)
   subst hpe
   have HBB := hidp hbB
   clear hbB
   obtain ⟨x, hx⟩ : ∃ x, es[k]? = some x := ⟨es[k], List.getElem?_eq_getElem hlt⟩
   have hnx := q_flat_next (es.map (fun x => x.2 ++ [32])) k (by simpa using hlt)
   have hz1 := q_flat_take (es.map (fun x => x.2 ++ [32])) (k + 1)
   have hxt : (es.map (fun x => x.2 ++ [32]))[k]'(by simpa using hlt) = x.2 ++ [32] := by
    have : es[k] = x := by rw [List.getElem?_eq_getElem hlt] at hx; exact Option.some.inj hx
    simp [this]
   rw [hxt] at hnx
   obtain ⟨hcl, hone, hcell⟩ := hce.out k x hx
   have hzr : B ≤ wr.heap.size := Qp.le HQ.out hsz
   have HRA : Hid (wr.rangeAt b (k * 9) x.1) := fun j v hv => by rw [(HB.out.trans HQ.out.1).cell (p := ⟨b, k * 9 + j, none⟩) HBB.out]; exact hcell j v hv
   have IH := hidp (ih.out k x hx)
   obtain ⟨cs2, t⟩ := x
   simp only at hcl hone HRA IH hnx
   have HSA : Hid (cs2.toArray.size = 9) := by show _ = _; simpa using hcl
   have HSL : Hid ((Tryz.prog.info? 127).map (·.size) = some cs2.length) := by show _ = _; rw [hcl]; kernel_rfl
   have HTT : Hid ((wr.alloc (.cells #[.bool false, .slice none 0 0, .int .i64 0, .int .i64 0, .bool false, .string ⟨#[]⟩, .slice none 0 0, .slice none 0 0, .slice none 0 0] 127)).there wr.heap.size 0 cs2.toArray.size) := there_new _ _ (HSA.out.symm)
   have HTI : Hid ((Tryz.prog.info? 127).map (·.size) = some cs2.toArray.size) := by show _ = _; rw [HSA.out]; kernel_rfl
   have HTO : Hid (cs2.toArray.all (·.oneCell') = true) := one_all hone
   clear hx hxt hcl hone hcell
   have hk1 : (0 : Int) ≤ (k : Int) := by omega
   have hk2 : (k : Int) < (es.length : Int) := by omega
   have HLk := hidp hz1
   have HNX := hidp hnx
   clear hz1 hnx
   go_upto_region 21 with (first | (refine wpList_load_mid rfl 127 (.tmp 58) rfl b (k * 9) rfl cs2 _ HRA.out Tryz.underlying127 rfl HSL.out ?_) | (refine wpList_store_mid rfl 127 (.tmp 7) (.tmp 59) rfl wr.heap.size 0 cs2.toArray rfl rfl HTT.out HTI.out HTO.out ?_))
   generalize hS : World.setCells _ wr.heap.size 0 _ = wb
   replace hS : wr.alloc (.cells cs2.toArray 127) = wb := (alloc_set wr #[.bool false, .slice none 0 0, .int .i64 0, .int .i64 0, .bool false, .string ⟨#[]⟩, .slice none 0 0, .slice none 0 0, .slice none 0 0] cs2.toArray 127 (HSA.out.symm)).symm.trans hS
   obtain ⟨hpW, hzW, hqW, hkW, hne, hzz⟩ := q_box HR.out hzr hS
   have HP1 := hidp hpW
   have HQ1 := hidp (Qp.trans HQ.out hqW)
   have HLO : Hid (wb.rangeAt wr.heap.size 0 cs2) := range_of hkW
   clear hS hpW hqW hkW hne hzz HTT HTI HTO HRA HSA
   have tok : True := trivial
   go_wp2_with (have _t := tok; refine wpList_load_mid rfl 127 (.tmp 7) rfl wr.heap.size 0 rfl cs2 _ HLO.out Tryz.underlying127 rfl HSL.out ?_; clear tok)
   refine (IH.out wb _ (HB.out.trans HQ1.out.1) hzW HP1.out (by have := HL.out; have h2 := HLk.out; rw [HNX.out] at h2; simp only [lnA, lnC, lnN] at this h2 ⊢; omega)).mono ?_
   rintro e v1 ⟨rfl, hp2, hq2⟩
   have HP2 := hidp hp2
   have HQ2 := hidp (Qp.trans HQ1.out hq2)
   have z2 : B ≤ v1.heap.size := Qp.le hq2 hzW
   clear hp2 hq2
   go_wp2_with fail
   refine (put1 (w := v1) HP2.out z2 rfl ⟨#[32]⟩ [32] rfl (by have := HL.out; have h2 := HLk.out; rw [HNX.out] at h2; simp only [lnA, lnC, lnN] at this h2 ⊢; omega)).mono ?_
   rintro e v2 ⟨rfl, hp3, hq3⟩
   have HP3 := hidp hp3
   have HQ3 := hidp (Qp.trans HQ2.out hq3)
   clear hp3 hq3
   go_wp2_with fail
   exact ⟨⟨k + 1, by omega, by go_num, hidp (by have := HP3.out; rw [HNX.out]; simpa only [List.append_assoc] using this), HQ3.out⟩, by simp [intOf]; omega⟩
  ·have HE : Hid (PrAt B bp (tx ++ t1 ++ [32] ++ (es.map (fun x => x.2 ++ [32])).flatten) wr) := by have := HR.out; rw [List.take_of_length_le (by simp; omega)] at this; exact this
   have hzr : B ≤ wr.heap.size := Qp.le HQ.out hsz
   clear HR
   go_wp2_with fail
   refine (put1 (w := wr) HE.out hzr rfl ⟨#[101, 110, 100, 99, 97, 115, 101]⟩ [101, 110, 100, 99, 97, 115, 101] rfl (by have := HL.out; simp only [lnA, lnC, lnN] at this ⊢; omega)).mono ?_
   rintro e v9 ⟨rfl, hp9, hq9⟩
   have HP9 := hidp hp9
   have HQ9 := hidp (Qp.trans HQ.out hq9)
   clear hp9 hq9
   go_wp2_with fail
   go_end0
   exact ⟨rfl, by rw [← HT.out]; have := HP9.out; simpa only [List.append_assoc] using this, HQ9.out⟩
theorem q_s1 {B bp : Nat} {w0 : World} (a lt nm vx vs va : Value)     :
 Puts B bp w0 84 #[.pointer (some ⟨bp, 0, none⟩), .agg #[.int .i64 1, a, lt, nm, vx, vs, va]] ([59]) := by
 intro w tx hb hsz hp hlen
 have HL := hidp hlen
 have HB := hidp hb
 have HP0 := hidp hp
 clear hlen hb hp
 generalize hTT : ([59] : List UInt8) = tt
 have HT := hidp hTT
 clear hTT
 go_enter Tryz.func84, Tryz.ntmps84
 go_wp2_with fail
 generalize hW : w.alloc (.cells #[.int .i64 1, a, lt, nm, vx, vs, va] 93) = W at *
 obtain ⟨HP1, hzW, HQ1, HK1, HNE, HZZ⟩ := q_boxH HP0 hsz hW
 clear hW
 refine nx HQ1 hzW (put1 (w := W) HP1.out hzW HZZ.out ⟨#[59]⟩ [59] rfl (by have := HL.out; simp at this ⊢; omega)) fun w1 HP2 HQ2 z2 => ?_
 go_wp2_with fail
 go_end0
 exact ⟨rfl, by rw [← HT.out]; exact HP2.out, HQ2.out⟩
theorem q_s3 {B bp : Nat} {w0 : World} (a lt nm vx vs va : Value)(t1 : List UInt8)    (ih1 : Hid (Puts B bp w0 90 #[.pointer (some ⟨bp, 0, none⟩), .agg #[.int .i64 3, a, lt, nm, vx, vs, va]] t1)) :
 Puts B bp w0 84 #[.pointer (some ⟨bp, 0, none⟩), .agg #[.int .i64 3, a, lt, nm, vx, vs, va]] (t1) := by
 intro w tx hb hsz hp hlen
 have HL := hidp hlen
 have HB := hidp hb
 have HP0 := hidp hp
 clear hlen hb hp
 go_enter Tryz.func84, Tryz.ntmps84
 go_wp2_with fail
 generalize hW : w.alloc (.cells #[.int .i64 3, a, lt, nm, vx, vs, va] 93) = W at *
 obtain ⟨HP1, hzW, HQ1, HK1, HNE, HZZ⟩ := q_boxH HP0 hsz hW
 clear hW
 refine nx HQ1 hzW (ih1.out W _ (HB.out.trans HQ1.out.1) hzW HP1.out (HL.out)) fun w1 HP2 HQ2 z2 => ?_
 go_wp2_with fail
 go_end0
 exact ⟨rfl, by exact HP2.out, HQ2.out⟩
theorem q_s5 {B bp : Nat} {w0 : World} (a lt nm vx vs va : Value)(t1 : List UInt8)    (ih1 : Hid (Puts B bp w0 92 #[.pointer (some ⟨bp, 0, none⟩), .agg #[.int .i64 5, a, lt, nm, vx, vs, va]] t1)) :
 Puts B bp w0 84 #[.pointer (some ⟨bp, 0, none⟩), .agg #[.int .i64 5, a, lt, nm, vx, vs, va]] (t1) := by
 intro w tx hb hsz hp hlen
 have HL := hidp hlen
 have HB := hidp hb
 have HP0 := hidp hp
 clear hlen hb hp
 go_enter Tryz.func84, Tryz.ntmps84
 go_wp2_with fail
 generalize hW : w.alloc (.cells #[.int .i64 5, a, lt, nm, vx, vs, va] 93) = W at *
 obtain ⟨HP1, hzW, HQ1, HK1, HNE, HZZ⟩ := q_boxH HP0 hsz hW
 clear hW
 refine nx HQ1 hzW (ih1.out W _ (HB.out.trans HQ1.out.1) hzW HP1.out (HL.out)) fun w1 HP2 HQ2 z2 => ?_
 go_wp2_with fail
 go_end0
 exact ⟨rfl, by exact HP2.out, HQ2.out⟩
theorem q_s6 {B bp : Nat} {w0 : World} (a lt vx va : Value) (nm : ByteArray) (b cap : Nat)(h0 h1 h2 h3 h4 h5 h6 : Value)(t1 t2 : List UInt8)  (b_b : Hid (b < B)) (m0 : Hid (w0.cell? ⟨b, 0, none⟩ = some (h0))) (m1 : Hid (w0.cell? ⟨b, 1, none⟩ = some (h1))) (m2 : Hid (w0.cell? ⟨b, 2, none⟩ = some (h2))) (m3 : Hid (w0.cell? ⟨b, 3, none⟩ = some (h3))) (m4 : Hid (w0.cell? ⟨b, 4, none⟩ = some (h4))) (m5 : Hid (w0.cell? ⟨b, 5, none⟩ = some (h5))) (m6 : Hid (w0.cell? ⟨b, 6, none⟩ = some (h6))) (ihl : Hid (Puts B bp w0 67 #[.pointer (some ⟨bp, 0, none⟩), .string nm, vx] t1)) (ih1 : Hid (Puts B bp w0 84 #[.pointer (some ⟨bp, 0, none⟩), .agg #[h0, h1, h2, h3, h4, h5, h6]] t2)) :
 Puts B bp w0 84 #[.pointer (some ⟨bp, 0, none⟩), .agg #[.int .i64 6, a, lt, .string nm, vx, .slice (some ⟨b, 0, none⟩) 1 cap, va]] (t1 ++ [32] ++ t2) := by
 intro w tx hb hsz hp hlen
 have HL := hidp hlen
 have HB := hidp hb
 have HP0 := hidp hp
 clear hlen hb hp
 generalize hTT : (t1 ++ [32] ++ t2 : List UInt8) = tt
 have HT := hidp hTT
 clear hTT
 go_enter Tryz.func84, Tryz.ntmps84
 go_wp2_with fail
 generalize hW : w.alloc (.cells #[.int .i64 6, a, lt, .string nm, vx, .slice (some ⟨b, 0, none⟩) 1 cap, va] 93) = W at *
 obtain ⟨HP1, hzW, HQ1, HK1, HNE, HZZ⟩ := q_boxH HP0 hsz hW
 clear hW
 refine nxb HQ1 hzW HK1 HNE (by decide) (ihl.out W _ (HB.out.trans HQ1.out.1) hzW HP1.out (by have := HL.out; simp at this ⊢; omega)) fun w1 HP2 HQ2 z2 HK2 => ?_
 have c2_0 := cl HK2 0 (.int .i64 6) rfl
 have c2_3 := cl HK2 3 (.string nm) rfl
 have c2_5 := cl HK2 5 (.slice (some ⟨b, 0, none⟩) 1 cap) rfl
 go_wp2_with fail
 refine nxb HQ2 z2 HK2 HNE (by decide) (put1 (w := w1) HP2.out z2 rfl ⟨#[32]⟩ [32] rfl (by have := HL.out; simp at this ⊢; omega)) fun w2 HP3 HQ3 z3 HK3 => ?_
 have c3_0 := cl HK3 0 (.int .i64 6) rfl
 have c3_3 := cl HK3 3 (.string nm) rfl
 have c3_5 := cl HK3 5 (.slice (some ⟨b, 0, none⟩) 1 cap) rfl
 have d0_2 := dl HB HQ3 b_b m0
 have d1_2 := dl HB HQ3 b_b m1
 have d2_2 := dl HB HQ3 b_b m2
 have d3_2 := dl HB HQ3 b_b m3
 have d4_2 := dl HB HQ3 b_b m4
 have d5_2 := dl HB HQ3 b_b m5
 have d6_2 := dl HB HQ3 b_b m6
 clear c2_0 c2_3 c2_5
 go_wp2_with fail
 refine nx HQ3 z3 (ih1.out w2 _ (HB.out.trans HQ3.out.1) z3 HP3.out (by have := HL.out; simp at this ⊢; omega)) fun w3 HP4 HQ4 z4 => ?_
 clear c3_0 c3_3 c3_5 d0_2 d1_2 d2_2 d3_2 d4_2 d5_2 d6_2
 go_wp2_with fail
 go_end0
 exact ⟨rfl, by rw [← HT.out]; have := HP4.out; simpa only [List.append_assoc] using this, HQ4.out⟩
theorem q_if1 {B bp : Nat} {w0 : World} (kk a lt nm va : Value) (bx capx b cap : Nat)(h0 h1 h2 h3 h4 h5 h6 l0 l1 l2 l3 l4 l5 l6 : Value)(t1 t2 : List UInt8)  (b_bx : Hid (bx < B)) (b_b : Hid (b < B)) (m0 : Hid (w0.cell? ⟨bx, 0, none⟩ = some (h0))) (m1 : Hid (w0.cell? ⟨bx, 1, none⟩ = some (h1))) (m2 : Hid (w0.cell? ⟨bx, 2, none⟩ = some (h2))) (m3 : Hid (w0.cell? ⟨bx, 3, none⟩ = some (h3))) (m4 : Hid (w0.cell? ⟨bx, 4, none⟩ = some (h4))) (m5 : Hid (w0.cell? ⟨bx, 5, none⟩ = some (h5))) (m6 : Hid (w0.cell? ⟨bx, 6, none⟩ = some (h6))) (m7 : Hid (w0.cell? ⟨b, 0, none⟩ = some (l0))) (m8 : Hid (w0.cell? ⟨b, 1, none⟩ = some (l1))) (m9 : Hid (w0.cell? ⟨b, 2, none⟩ = some (l2))) (m10 : Hid (w0.cell? ⟨b, 3, none⟩ = some (l3))) (m11 : Hid (w0.cell? ⟨b, 4, none⟩ = some (l4))) (m12 : Hid (w0.cell? ⟨b, 5, none⟩ = some (l5))) (m13 : Hid (w0.cell? ⟨b, 6, none⟩ = some (l6))) (ihc : Hid (Puts B bp w0 69 #[.pointer (some ⟨bp, 0, none⟩), .string ⟨#[105, 102]⟩, .agg #[h0, h1, h2, h3, h4, h5, h6]] t1)) (ih1 : Hid (Puts B bp w0 84 #[.pointer (some ⟨bp, 0, none⟩), .agg #[l0, l1, l2, l3, l4, l5, l6]] t2)) :
 Puts B bp w0 90 #[.pointer (some ⟨bp, 0, none⟩), .agg #[kk, a, lt, nm, .slice (some ⟨bx, 0, none⟩) 1 capx, .slice (some ⟨b, 0, none⟩) 1 cap, va]] (t1 ++ [32] ++ t2) := by
 intro w tx hb hsz hp hlen
 have HL := hidp hlen
 have HB := hidp hb
 have HP0 := hidp hp
 clear hlen hb hp
 generalize hTT : (t1 ++ [32] ++ t2 : List UInt8) = tt
 have HT := hidp hTT
 clear hTT
 have HQ0 : Hid (Qp B bp w (w.alloc (.cells #[kk, a, lt, nm, .slice (some ⟨bx, 0, none⟩) 1 capx, .slice (some ⟨b, 0, none⟩) 1 cap, va] 93))) := (Qp.refl _ _ _).alloc hsz _
 have d0 := dl HB HQ0 b_bx m0
 have d1 := dl HB HQ0 b_bx m1
 have d2 := dl HB HQ0 b_bx m2
 have d3 := dl HB HQ0 b_bx m3
 have d4 := dl HB HQ0 b_bx m4
 have d5 := dl HB HQ0 b_bx m5
 have d6 := dl HB HQ0 b_bx m6
 go_enter Tryz.func90, Tryz.ntmps90
 go_wp2_with fail
 clear HQ0 d0 d1 d2 d3 d4 d5 d6
 generalize hW : w.alloc (.cells #[kk, a, lt, nm, .slice (some ⟨bx, 0, none⟩) 1 capx, .slice (some ⟨b, 0, none⟩) 1 cap, va] 93) = W at *
 obtain ⟨HP1, hzW, HQ1, HK1, HNE, HZZ⟩ := q_boxH HP0 hsz hW
 clear hW
 refine nxb HQ1 hzW HK1 HNE (by decide) (ihc.out W _ (HB.out.trans HQ1.out.1) hzW HP1.out (by have := HL.out; simp at this ⊢; omega)) fun w1 HP2 HQ2 z2 HK2 => ?_
 have c2_4 := cl HK2 4 (.slice (some ⟨bx, 0, none⟩) 1 capx) rfl
 have c2_5 := cl HK2 5 (.slice (some ⟨b, 0, none⟩) 1 cap) rfl
 go_wp2_with fail
 refine nxb HQ2 z2 HK2 HNE (by decide) (put1 (w := w1) HP2.out z2 rfl ⟨#[32]⟩ [32] rfl (by have := HL.out; simp at this ⊢; omega)) fun w2 HP3 HQ3 z3 HK3 => ?_
 have c3_4 := cl HK3 4 (.slice (some ⟨bx, 0, none⟩) 1 capx) rfl
 have c3_5 := cl HK3 5 (.slice (some ⟨b, 0, none⟩) 1 cap) rfl
 have d7_2 := dl HB HQ3 b_b m7
 have d8_2 := dl HB HQ3 b_b m8
 have d9_2 := dl HB HQ3 b_b m9
 have d10_2 := dl HB HQ3 b_b m10
 have d11_2 := dl HB HQ3 b_b m11
 have d12_2 := dl HB HQ3 b_b m12
 have d13_2 := dl HB HQ3 b_b m13
 clear c2_4 c2_5
 go_wp2_with fail
 refine nxb HQ3 z3 HK3 HNE (by decide) (ih1.out w2 _ (HB.out.trans HQ3.out.1) z3 HP3.out (by have := HL.out; simp at this ⊢; omega)) fun w3 HP4 HQ4 z4 HK4 => ?_
 have c4_4 := cl HK4 4 (.slice (some ⟨bx, 0, none⟩) 1 capx) rfl
 have c4_5 := cl HK4 5 (.slice (some ⟨b, 0, none⟩) 1 cap) rfl
 clear c3_4 c3_5 d7_2 d8_2 d9_2 d10_2 d11_2 d12_2 d13_2
 go_wp2_with fail
 go_end0
 exact ⟨rfl, by rw [← HT.out]; have := HP4.out; simpa only [List.append_assoc] using this, HQ4.out⟩
theorem q_if2 {B bp : Nat} {w0 : World} (kk a lt nm va : Value) (bx capx b cap : Nat)(h0 h1 h2 h3 h4 h5 h6 l0 l1 l2 l3 l4 l5 l6 u0 u1 u2 u3 u4 u5 u6 : Value)(t1 t2 t3 : List UInt8)  (b_bx : Hid (bx < B)) (b_b : Hid (b < B)) (m0 : Hid (w0.cell? ⟨bx, 0, none⟩ = some (h0))) (m1 : Hid (w0.cell? ⟨bx, 1, none⟩ = some (h1))) (m2 : Hid (w0.cell? ⟨bx, 2, none⟩ = some (h2))) (m3 : Hid (w0.cell? ⟨bx, 3, none⟩ = some (h3))) (m4 : Hid (w0.cell? ⟨bx, 4, none⟩ = some (h4))) (m5 : Hid (w0.cell? ⟨bx, 5, none⟩ = some (h5))) (m6 : Hid (w0.cell? ⟨bx, 6, none⟩ = some (h6))) (m7 : Hid (w0.cell? ⟨b, 0, none⟩ = some (l0))) (m8 : Hid (w0.cell? ⟨b, 1, none⟩ = some (l1))) (m9 : Hid (w0.cell? ⟨b, 2, none⟩ = some (l2))) (m10 : Hid (w0.cell? ⟨b, 3, none⟩ = some (l3))) (m11 : Hid (w0.cell? ⟨b, 4, none⟩ = some (l4))) (m12 : Hid (w0.cell? ⟨b, 5, none⟩ = some (l5))) (m13 : Hid (w0.cell? ⟨b, 6, none⟩ = some (l6))) (m14 : Hid (w0.cell? ⟨b, 7, none⟩ = some (u0))) (m15 : Hid (w0.cell? ⟨b, 8, none⟩ = some (u1))) (m16 : Hid (w0.cell? ⟨b, 9, none⟩ = some (u2))) (m17 : Hid (w0.cell? ⟨b, 10, none⟩ = some (u3))) (m18 : Hid (w0.cell? ⟨b, 11, none⟩ = some (u4))) (m19 : Hid (w0.cell? ⟨b, 12, none⟩ = some (u5))) (m20 : Hid (w0.cell? ⟨b, 13, none⟩ = some (u6))) (ihc : Hid (Puts B bp w0 69 #[.pointer (some ⟨bp, 0, none⟩), .string ⟨#[105, 102]⟩, .agg #[h0, h1, h2, h3, h4, h5, h6]] t1)) (ih1 : Hid (Puts B bp w0 84 #[.pointer (some ⟨bp, 0, none⟩), .agg #[l0, l1, l2, l3, l4, l5, l6]] t2))(ih2 : Hid (Puts B bp w0 84 #[.pointer (some ⟨bp, 0, none⟩), .agg #[u0, u1, u2, u3, u4, u5, u6]] t3)) :
 Puts B bp w0 90 #[.pointer (some ⟨bp, 0, none⟩), .agg #[kk, a, lt, nm, .slice (some ⟨bx, 0, none⟩) 1 capx, .slice (some ⟨b, 0, none⟩) 2 cap, va]] (t1 ++ [32] ++ t2 ++ [32, 101, 108, 115, 101, 32] ++ t3) := by
 intro w tx hb hsz hp hlen
 have HL := hidp hlen
 have HB := hidp hb
 have HP0 := hidp hp
 clear hlen hb hp
 generalize hTT : (t1 ++ [32] ++ t2 ++ [32, 101, 108, 115, 101, 32] ++ t3 : List UInt8) = tt
 have HT := hidp hTT
 clear hTT
 have HQ0 : Hid (Qp B bp w (w.alloc (.cells #[kk, a, lt, nm, .slice (some ⟨bx, 0, none⟩) 1 capx, .slice (some ⟨b, 0, none⟩) 2 cap, va] 93))) := (Qp.refl _ _ _).alloc hsz _
 have d0 := dl HB HQ0 b_bx m0
 have d1 := dl HB HQ0 b_bx m1
 have d2 := dl HB HQ0 b_bx m2
 have d3 := dl HB HQ0 b_bx m3
 have d4 := dl HB HQ0 b_bx m4
 have d5 := dl HB HQ0 b_bx m5
 have d6 := dl HB HQ0 b_bx m6
 go_enter Tryz.func90, Tryz.ntmps90
 go_wp2_with fail
 clear HQ0 d0 d1 d2 d3 d4 d5 d6
 generalize hW : w.alloc (.cells #[kk, a, lt, nm, .slice (some ⟨bx, 0, none⟩) 1 capx, .slice (some ⟨b, 0, none⟩) 2 cap, va] 93) = W at *
 obtain ⟨HP1, hzW, HQ1, HK1, HNE, HZZ⟩ := q_boxH HP0 hsz hW
 clear hW
 refine nxb HQ1 hzW HK1 HNE (by decide) (ihc.out W _ (HB.out.trans HQ1.out.1) hzW HP1.out (by have := HL.out; simp at this ⊢; omega)) fun w1 HP2 HQ2 z2 HK2 => ?_
 have c2_4 := cl HK2 4 (.slice (some ⟨bx, 0, none⟩) 1 capx) rfl
 have c2_5 := cl HK2 5 (.slice (some ⟨b, 0, none⟩) 2 cap) rfl
 go_wp2_with fail
 refine nxb HQ2 z2 HK2 HNE (by decide) (put1 (w := w1) HP2.out z2 rfl ⟨#[32]⟩ [32] rfl (by have := HL.out; simp at this ⊢; omega)) fun w2 HP3 HQ3 z3 HK3 => ?_
 have c3_4 := cl HK3 4 (.slice (some ⟨bx, 0, none⟩) 1 capx) rfl
 have c3_5 := cl HK3 5 (.slice (some ⟨b, 0, none⟩) 2 cap) rfl
 have d7_2 := dl HB HQ3 b_b m7
 have d8_2 := dl HB HQ3 b_b m8
 have d9_2 := dl HB HQ3 b_b m9
 have d10_2 := dl HB HQ3 b_b m10
 have d11_2 := dl HB HQ3 b_b m11
 have d12_2 := dl HB HQ3 b_b m12
 have d13_2 := dl HB HQ3 b_b m13
 clear c2_4 c2_5
 go_wp2_with fail
 refine nxb HQ3 z3 HK3 HNE (by decide) (ih1.out w2 _ (HB.out.trans HQ3.out.1) z3 HP3.out (by have := HL.out; simp at this ⊢; omega)) fun w3 HP4 HQ4 z4 HK4 => ?_
 have c4_4 := cl HK4 4 (.slice (some ⟨bx, 0, none⟩) 1 capx) rfl
 have c4_5 := cl HK4 5 (.slice (some ⟨b, 0, none⟩) 2 cap) rfl
 clear c3_4 c3_5 d7_2 d8_2 d9_2 d10_2 d11_2 d12_2 d13_2
 go_wp2_with fail
 refine nxb HQ4 z4 HK4 HNE (by decide) (put1 (w := w3) HP4.out z4 rfl (⟨#[32, 101, 108, 115, 101, 32]⟩) [32, 101, 108, 115, 101, 32] rfl (by have := HL.out; simp at this ⊢; omega)) fun w4 HP5 HQ5 z5 HK5 => ?_
 have c5_4 := cl HK5 4 (.slice (some ⟨bx, 0, none⟩) 1 capx) rfl
 have c5_5 := cl HK5 5 (.slice (some ⟨b, 0, none⟩) 2 cap) rfl
 have d14_4 := dl HB HQ5 b_b m14
 have d15_4 := dl HB HQ5 b_b m15
 have d16_4 := dl HB HQ5 b_b m16
 have d17_4 := dl HB HQ5 b_b m17
 have d18_4 := dl HB HQ5 b_b m18
 have d19_4 := dl HB HQ5 b_b m19
 have d20_4 := dl HB HQ5 b_b m20
 clear c4_4 c4_5
 go_wp2_with fail
 refine nx HQ5 z5 (ih2.out w4 _ (HB.out.trans HQ5.out.1) z5 HP5.out (by have := HL.out; simp at this ⊢; omega)) fun w5 HP6 HQ6 z6 => ?_
 clear c5_4 c5_5 d14_4 d15_4 d16_4 d17_4 d18_4 d19_4 d20_4
 go_wp2_with fail
 go_end0
 exact ⟨rfl, by rw [← HT.out]; have := HP6.out; simpa only [List.append_assoc] using this, HQ6.out⟩
theorem q_arm1 {B bp : Nat} {w0 : World} (vl : Value)(h0 h1 h2 h3 h4 h5 h6 : Value)(t2 : List UInt8)    (ih1 : Hid (Puts B bp w0 84 #[.pointer (some ⟨bp, 0, none⟩), .agg #[h0, h1, h2, h3, h4, h5, h6]] t2)) :
 Puts B bp w0 91 #[.pointer (some ⟨bp, 0, none⟩), .agg #[.bool true, vl, h0, h1, h2, h3, h4, h5, h6]] ([100, 101, 102, 97, 117, 108, 116] ++ [58, 32] ++ t2) := by
 intro w tx hb hsz hp hlen
 have HL := hidp hlen
 have HB := hidp hb
 have HP0 := hidp hp
 clear hlen hb hp
 generalize hTT : ([100, 101, 102, 97, 117, 108, 116] ++ [58, 32] ++ t2 : List UInt8) = tt
 have HT := hidp hTT
 clear hTT
 go_enter Tryz.func91, Tryz.ntmps91
 go_wp2_with fail
 generalize hW : w.alloc (.cells #[.bool true, vl, h0, h1, h2, h3, h4, h5, h6] 127) = W at *
 obtain ⟨HP1, hzW, HQ1, HK1, HNE, HZZ⟩ := q_boxH HP0 hsz hW
 clear hW
 refine nxb HQ1 hzW HK1 HNE (by decide) (put1 (w := W) HP1.out hzW HZZ.out (⟨#[100, 101, 102, 97, 117, 108, 116]⟩) [100, 101, 102, 97, 117, 108, 116] rfl (by have := HL.out; simp at this ⊢; omega)) fun w1 HP2 HQ2 z2 HK2 => ?_
 have c2_0 := cl HK2 0 (.bool true) rfl
 go_wp2_with fail
 refine nxb HQ2 z2 HK2 HNE (by decide) (put1 (w := w1) HP2.out z2 rfl (⟨#[58, 32]⟩) [58, 32] rfl (by have := HL.out; simp at this ⊢; omega)) fun w2 HP3 HQ3 z3 HK3 => ?_
 have c3_0 := cl HK3 0 (.bool true) rfl
 have c3_2 := cl HK3 2 (h0) rfl
 have c3_3 := cl HK3 3 (h1) rfl
 have c3_4 := cl HK3 4 (h2) rfl
 have c3_5 := cl HK3 5 (h3) rfl
 have c3_6 := cl HK3 6 (h4) rfl
 have c3_7 := cl HK3 7 (h5) rfl
 have c3_8 := cl HK3 8 (h6) rfl
 clear c2_0
 go_wp2_with fail
 refine nx HQ3 z3 (ih1.out w2 _ (HB.out.trans HQ3.out.1) z3 HP3.out (by have := HL.out; simp at this ⊢; omega)) fun w3 HP4 HQ4 z4 => ?_
 clear c3_0 c3_2 c3_3 c3_4 c3_5 c3_6 c3_7 c3_8
 go_wp2_with fail
 go_end0
 exact ⟨rfl, by rw [← HT.out]; have := HP4.out; simpa only [List.append_assoc] using this, HQ4.out⟩
theorem q_arm0 {B bp : Nat} {w0 : World} (vl : Value)(h0 h1 h2 h3 h4 h5 h6 : Value)(t1 t2 : List UInt8)    (ihc : Hid (Puts B bp w0 83 #[.pointer (some ⟨bp, 0, none⟩), vl, .func (.func 62) #[.pointer (some ⟨bp, 0, none⟩)] #[]] t1)) (ih1 : Hid (Puts B bp w0 84 #[.pointer (some ⟨bp, 0, none⟩), .agg #[h0, h1, h2, h3, h4, h5, h6]] t2)) :
 Puts B bp w0 91 #[.pointer (some ⟨bp, 0, none⟩), .agg #[.bool false, vl, h0, h1, h2, h3, h4, h5, h6]] (t1 ++ [58, 32] ++ t2) := by
 intro w tx hb hsz hp hlen
 have HL := hidp hlen
 have HB := hidp hb
 have HP0 := hidp hp
 clear hlen hb hp
 generalize hTT : (t1 ++ [58, 32] ++ t2 : List UInt8) = tt
 have HT := hidp hTT
 clear hTT
 go_enter Tryz.func91, Tryz.ntmps91
 go_wp2_with fail
 generalize hW : w.alloc (.cells #[.bool false, vl, h0, h1, h2, h3, h4, h5, h6] 127) = W at *
 obtain ⟨HP1, hzW, HQ1, HK1, HNE, HZZ⟩ := q_boxH HP0 hsz hW
 clear hW
 refine nxb HQ1 hzW HK1 HNE (by decide) (ihc.out W _ (HB.out.trans HQ1.out.1) hzW HP1.out (by have := HL.out; simp at this ⊢; omega)) fun w1 HP2 HQ2 z2 HK2 => ?_
 have c2_0 := cl HK2 0 (.bool false) rfl
 go_wp2_with fail
 refine nxb HQ2 z2 HK2 HNE (by decide) (put1 (w := w1) HP2.out z2 rfl (⟨#[58, 32]⟩) [58, 32] rfl (by have := HL.out; simp at this ⊢; omega)) fun w2 HP3 HQ3 z3 HK3 => ?_
 have c3_0 := cl HK3 0 (.bool false) rfl
 have c3_2 := cl HK3 2 (h0) rfl
 have c3_3 := cl HK3 3 (h1) rfl
 have c3_4 := cl HK3 4 (h2) rfl
 have c3_5 := cl HK3 5 (h3) rfl
 have c3_6 := cl HK3 6 (h4) rfl
 have c3_7 := cl HK3 7 (h5) rfl
 have c3_8 := cl HK3 8 (h6) rfl
 clear c2_0
 go_wp2_with fail
 refine nx HQ3 z3 (ih1.out w2 _ (HB.out.trans HQ3.out.1) z3 HP3.out (by have := HL.out; simp at this ⊢; omega)) fun w3 HP4 HQ4 z4 => ?_
 clear c3_0 c3_2 c3_3 c3_4 c3_5 c3_6 c3_7 c3_8
 go_wp2_with fail
 go_end0
 exact ⟨rfl, by rw [← HT.out]; have := HP4.out; simpa only [List.append_assoc] using this, HQ4.out⟩
end Go.Proofs.YtimmmlnememjiaaGreatDoor
