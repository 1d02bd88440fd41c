import Derived.Test.YtimmmlnememjiaaGreatDoorX
import Derived.Test.YtimmmlnememjiaaGreatDoorX37
import Derived.Test.YtimmmlnememjiaaGreatDoorX33
import Derived.Test.YtimmmlnememjiaaGreatDoorX34
import Derived.Test.YtimmmlnememjiaaGreatDoorX39
import Derived.Test.YtimmmlnememjiaaGreatDoorX02
import Derived.Test.YtimmmlnememjiaaGreatDoorX38
import Derived.Test.YtimmmlnememjiaaGreatDoorX36
import Derived.Test.YtimmmlnememjiaaGreatDoorX11
import Derived.Test.YtimmmlnememjiaaGreatDoorX35
import Derived.Test.YtimmmlnememjiaaGreatDoorX28
set_option maxRecDepth 100000
set_option maxHeartbeats 16000000
namespace Go.Proofs.YtimmmlnememjiaaGreatDoor
open Go.RowKit
theorem q_items {B bp : Nat} {w0 : World} (es : List (List Value × List UInt8)) (pa : Option Addr) (b cap : Nat) (hpa : Hid (es ≠ [] → pa = some ⟨b, 0, none⟩ ∧ b < B)) (hle : es.length ≤ 2000000000000)  
  (hce : Hid (∀ (i : Nat) (x : List Value × List UInt8), es[i]? = some x → x.1.length = 65 ∧ (∀ u ∈ x.1, u.oneCell' = true) ∧ ∀ (j : Nat) (u : Value), x.1[j]? = some u → w0.cell? ⟨b, i * 65 + j, none⟩ = some u))
  (ih : Hid (∀ (i : Nat) (x : List Value × List UInt8), es[i]? = some x → Puts B bp w0 46 #[.pointer (some ⟨bp, 0, none⟩), .agg x.1.toArray] x.2)) :
  Puts B bp w0 28 #[.pointer (some ⟨bp, 0, none⟩), .slice pa es.length cap] ((es.map (fun x => x.2 ++ [10])).flatten) := by
 intro w tx hb hsz hp hlen
 have HL := hidp hlen
 have HB := hidp hb
 have HP0 := hidp hp
 clear hlen hb hp
 generalize hTT : (es.map (fun x => x.2 ++ [10])).flatten = tt
 have HT := hidp hTT
 clear hTT
 go_enter Tryz.func28, Tryz.ntmps28
 go_wp2_with fail
 have HPc : Hid (PrAt B bp tx w) := HP0
 have HQc := hidp (Qp.refl B bp w)
 go_loopw [5, 8] (fun _ i w' => ∃ k : Nat, k ≤ es.length ∧ i = .int .i64 k ∧ Hid (PrAt B bp (tx ++ ((es.map (fun x => x.2 ++ [10])).take k).flatten) w') ∧ Hid (Qp B bp w w')) (fun _ i _ => es.length - (intOf i).toNat)
 case atStart => exact ⟨0, Nat.zero_le _, rfl, (by show PrAt B bp (tx ++ ((es.map (fun x => x.2 ++ [10])).take 0).flatten) _; rw [List.take_zero, List.flatten_nil, List.append_nil]; exact HPc.out), HQc.out⟩
 case round =>
  obtain ⟨k, hk, rfl, HR, HQ⟩ := hrel
  by_cases hlt : k < es.length
  ·obtain ⟨hpe, hbB⟩ := hpa.out (by intro e; rw [e] at hlt; simp at hlt)
   subst hpe
   have HBB := hidp hbB
   clear hbB
   obtain ⟨x, hx⟩ : ∃ x, es[k]? = some x := ⟨es[k], List.getElem?_eq_getElem hlt⟩
   have hnx := q_flat_next (es.map (fun x => x.2 ++ [10])) k (by simpa using hlt)
   have hz1 := q_flat_take (es.map (fun x => x.2 ++ [10])) (k + 1)
   have hxt : (es.map (fun x => x.2 ++ [10]))[k]'(by simpa using hlt) = x.2 ++ [10] := by
    have : es[k] = x := by rw [List.getElem?_eq_getElem hlt] at hx; exact Option.some.inj hx
    simp [this]
   rw [hxt] at hnx
   obtain ⟨hcl, hone, hcell⟩ := hce.out k x hx
   have hzr : B ≤ wr.heap.size := Qp.le HQ.out hsz
   have HRA : Hid (wr.rangeAt b (k * 65) x.1) := fun j v hv => by rw [(HB.out.trans HQ.out.1).cell (p := ⟨b, k * 65 + j, none⟩) HBB.out]; exact hcell j v hv
   have IH := hidp (ih.out k x hx)
   obtain ⟨cs2, t⟩ := x
   simp only at hcl hone HRA IH hnx
   have HSA : Hid (cs2.toArray.size = 65) := by show _ = _; simpa using hcl
   have HSL : Hid ((Tryz.prog.info? 95).map (·.size) = some cs2.length) := by show _ = _; rw [hcl]; kernel_rfl
   have HTT : Hid ((wr.alloc (.cells Tryz.zeroCells95 95)).there wr.heap.size 0 cs2.toArray.size) := there_new _ _ (zero95_size.trans HSA.out.symm)
   have HTI : Hid ((Tryz.prog.info? 95).map (·.size) = some cs2.toArray.size) := by show _ = _; rw [HSA.out]; kernel_rfl
   have HTO : Hid (cs2.toArray.all (·.oneCell') = true) := one_all hone
   clear hx hxt hcl hone hcell
   have hk1 : (0 : Int) ≤ (k : Int) := by omega
   have hk2 : (k : Int) < (es.length : Int) := by omega
   have HLk := hidp hz1
   have HNX := hidp hnx
   clear hz1 hnx
   go_upto_region 3 with (first | (refine wpList_load_mid rfl 95 (.tmp 10) rfl b (k * 65) rfl cs2 _ HRA.out Tryz.underlying95 rfl HSL.out ?_) | (refine wpList_store_mid rfl 95 (.tmp 5) (.tmp 11) rfl wr.heap.size 0 cs2.toArray rfl rfl HTT.out HTI.out HTO.out ?_))
   generalize hS : World.setCells _ wr.heap.size 0 _ = wb
   replace hS : wr.alloc (.cells cs2.toArray 95) = wb := (alloc_set wr Tryz.zeroCells95 cs2.toArray 95 (zero95_size.trans HSA.out.symm)).symm.trans hS
   obtain ⟨hpW, hzW, hqW, hkW, hne, hzz⟩ := q_box HR.out hzr hS
   have HP1 := hidp hpW
   have HQ1 := hidp (Qp.trans HQ.out hqW)
   have HLO : Hid (wb.rangeAt wr.heap.size 0 cs2) := range_of hkW
   clear hS hpW hqW hkW hne hzz HTT HTI HTO HRA HSA
   have tok : True := trivial
   go_wp2_with (have _t := tok; refine wpList_load_mid rfl 95 (.tmp 5) rfl wr.heap.size 0 rfl cs2 _ HLO.out Tryz.underlying95 rfl HSL.out ?_; clear tok)
   refine (IH.out wb _ (HB.out.trans HQ1.out.1) hzW HP1.out (by have := HL.out; have h2 := HLk.out; rw [HNX.out] at h2; simp only [lnA, lnC, lnN] at h2 ⊢; omega)).mono ?_
   rintro e v1 ⟨rfl, hp2, hq2⟩
   have HP2 := hidp hp2
   have HQ2 := hidp (Qp.trans HQ1.out hq2)
   have z2 : B ≤ v1.heap.size := Qp.le hq2 hzW
   clear hp2 hq2
   go_wp2_with fail
   refine (put1 (w := v1) HP2.out z2 rfl ⟨#[10]⟩ [10] rfl (by have := HL.out; have h2 := HLk.out; rw [HNX.out] at h2; simp only [lnA, lnC, lnN] at h2 ⊢; omega)).mono ?_
   rintro e v2 ⟨rfl, hp3, hq3⟩
   have HP3 := hidp hp3
   have HQ3 := hidp (Qp.trans HQ2.out hq3)
   clear hp3 hq3
   go_wp2_with fail
   exact ⟨⟨k + 1, by omega, by go_num, hidp (by have := HP3.out; rw [HNX.out]; simpa only [List.append_assoc] using this), HQ3.out⟩, by simp [intOf]; omega⟩
  ·have HE : Hid (PrAt B bp (tx ++ (es.map (fun x => x.2 ++ [10])).flatten) wr) := by have := HR.out; rw [List.take_of_length_le (by simp; omega)] at this; exact this
   have hzr : B ≤ wr.heap.size := Qp.le HQ.out hsz
   clear HR
   go_wp2_with fail
   go_end0
   exact ⟨rfl, by rw [← HT.out]; exact HE.out, HQ.out⟩
structure PEnv (S : Nat → Prop) (B bp : Nat) (w0 : World) : Prop where
 lt : ∀ b, S b → b < B
 two : 2 ≤ B
 tabs : Tabs w0
 itoa : ∀ wd : Int, 1 ≤ wd → wd ≤ 32 → Vals B bp w0 88 #[.int .i64 wd] (decTxt wd.toNat)
 fmt : ∀ n : Int, 0 ≤ n → n < 4294967296 → Vals B bp w0 89 #[.int .u64 n, .int .i64 10] (decTxt n.toNat)
theorem qOperand {B bp : Nat} {w0 : World} (k : Int) (a op wd n nmv sl : Value) (t : List UInt8) (ih : Puts B bp w0 62 #[.pointer (some ⟨bp, 0, none⟩), .agg #[.int .i64 k, a, op, wd, n, nmv, sl]] t) :
  Puts B bp w0 82 #[.pointer (some ⟨bp, 0, none⟩), .agg #[.int .i64 k, a, op, wd, n, nmv, sl]] (inTxt k t) := by
 by_cases h5 : k = 5
 ·subst h5; exact q_op5 a op wd n nmv sl t ih
 ·by_cases h6 : k = 6
  ·subst h6; exact q_op6 a op wd n nmv sl t ih
  ·by_cases h7 : k = 7
   ·subst h7; exact q_op7 a op wd n nmv sl t ih
   ·have e : inTxt k t = t := by unfold inTxt; rw [if_neg (by omega)]
    rw [e]
    exact q_op0 k (beq_eq_false_iff_ne.2 h5) (beq_eq_false_iff_ne.2 h6) (beq_eq_false_iff_ne.2 h7) a op wd n nmv sl t ih
theorem PE.one {S : Nat → Prop} {w : World} {k : Int} {cs : List Value} {t : List UInt8} (h : PE S w k cs t) : cs.length = 7 ∧ ∀ v ∈ cs, v.oneCell' = true := by
 obtain ⟨a, op, wd, n, nm, sa, sl, sc, rfl⟩ := h.seven_slice
 exact ⟨rfl, fun v hv => (List.all_eq_true.1 (by rfl : List.all [Value.int .i64 k, .int .i64 a, .int .i64 op, .int .i64 wd, .int .u64 n, .string nm, .slice sa sl sc] (·.oneCell') = true)) v hv⟩
theorem qExpr {S : Nat → Prop} {B bp : Nat} {w0 : World} (en : PEnv S B bp w0) {k : Int} {cs : List Value} {t : List UInt8} (h : PE S w0 k cs t) (ht : t.length ≤ 500000000000) :
  Puts B bp w0 62 #[.pointer (some ⟨bp, 0, none⟩), .agg cs.toArray] t := by
 induction h with
 | num a op wd n nm sa sl sc h1 h2 h3 h4 =>
  refine q_e1 _ _ _ _ _ _ _ ?_
  by_cases hw : wd = 0
  ·subst hw
   exact (q_n0 _ _ _ _ n (decTxt n.toNat) (en.fmt n h3 h4)).to rfl
  ·exact (q_n1 _ _ _ _ wd n (by omega) (decTxt wd.toNat) (decTxt n.toNat) (en.itoa wd (by omega) h2) (en.fmt n h3 h4)).to (by unfold numTxt; rw [if_neg (by omega)])
 | name a op wd n nm sa sl sc => exact q_e2 _ _ _ _ _ nm
 | node k a op wd n nm b cap es hk hSb hcap hel hce ih =>
  have hb := en.lt b hSb
  rcases hk with ⟨rfl, hl⟩ | ⟨rfl, hl⟩ | ⟨rfl, hl, o1, o2⟩ | ⟨rfl, hl, o1, o2⟩ | ⟨rfl, hl⟩ | ⟨rfl, hl⟩ | ⟨rfl, hl⟩
  ·obtain ⟨x, rfl⟩ := List.length_eq_one_iff.1 hl
   have e : nodeTxt 3 op nm [x] = nm ++ [91] ++ x.2.2 ++ [93] := rfl
   rw [e] at ht ⊢
   simp only [lnA] at ht
   obtain ⟨a0, op0, wd0, n0, nm0, sl0, hx0⟩ := (hel 0 x rfl).seven
   have ih0 := ih 0 x rfl (by omega)
   have M0 := hce 0 x rfl
   rw [hx0] at ih0 M0
   exact q_e3 _ _ _ _ _ _ _ (q_pl3 _ _ _ _ b cap nm (.int .i64 x.1) (.int .i64 a0) (.int .i64 op0) (.int .i64 wd0) (.int .u64 n0) (.string nm0) sl0 x.2.2 hb (M0 0 _ rfl) (M0 1 _ rfl) (M0 2 _ rfl) (M0 3 _ rfl) (M0 4 _ rfl) (M0 5 _ rfl) (M0 6 _ rfl) ih0)
  ·obtain ⟨x, y, rfl⟩ := len_two hl
   have e : nodeTxt 4 op nm [x, y] = nm ++ [91] ++ x.2.2 ++ [58] ++ y.2.2 ++ [93] := rfl
   rw [e] at ht ⊢
   simp only [lnA] at ht
   obtain ⟨a0, op0, wd0, n0, nm0, sl0, hx0⟩ := (hel 0 x rfl).seven
   have ih0 := ih 0 x rfl (by omega)
   have M0 := hce 0 x rfl
   rw [hx0] at ih0 M0
   obtain ⟨a1, op1, wd1, n1, nm1, sl1, hx1⟩ := (hel 1 y rfl).seven
   have ih1 := ih 1 y rfl (by omega)
   have M1 := hce 1 y rfl
   rw [hx1] at ih1 M1
   exact q_e4 _ _ _ _ _ _ _ (q_pl4 _ _ _ _ b cap nm (.int .i64 x.1) (.int .i64 a0) (.int .i64 op0) (.int .i64 wd0) (.int .u64 n0) (.string nm0) sl0 (.int .i64 y.1) (.int .i64 a1) (.int .i64 op1) (.int .i64 wd1) (.int .u64 n1) (.string nm1) sl1 x.2.2 y.2.2 hb (M0 0 _ rfl) (M0 1 _ rfl) (M0 2 _ rfl) (M0 3 _ rfl) (M0 4 _ rfl) (M0 5 _ rfl) (M0 6 _ rfl) (M1 0 _ rfl) (M1 1 _ rfl) (M1 2 _ rfl) (M1 3 _ rfl) (M1 4 _ rfl) (M1 5 _ rfl) (M1 6 _ rfl) ih0 ih1)
  ·obtain ⟨x, rfl⟩ := List.length_eq_one_iff.1 hl
   have e : nodeTxt 5 op nm [x] = signTxt op ++ inTxt x.1 x.2.2 := rfl
   rw [e] at ht ⊢
   simp only [lnA] at ht
   have lix := inTxt_len x.1 x.2.2
   obtain ⟨a0, op0, wd0, n0, nm0, sl0, hx0⟩ := (hel 0 x rfl).seven
   have ih0 := ih 0 x rfl (by omega)
   have M0 := hce 0 x rfl
   rw [hx0] at ih0 M0
   exact q_e5 _ _ _ _ op b cap (.int .i64 x.1) (.int .i64 a0) (.int .i64 op0) (.int .i64 wd0) (.int .u64 n0) (.string nm0) sl0 (signTxt op) (inTxt x.1 x.2.2) hb (M0 0 _ rfl) (M0 1 _ rfl) (M0 2 _ rfl) (M0 3 _ rfl) (M0 4 _ rfl) (M0 5 _ rfl) (M0 6 _ rfl) (sign_vals en.two en.tabs op (by omega) (by omega)) (qOperand x.1 _ _ _ _ _ _ _ ih0)
  ·obtain ⟨x, y, rfl⟩ := len_two hl
   have e : nodeTxt 6 op nm [x, y] = inTxt x.1 x.2.2 ++ [32] ++ signTxt op ++ [32] ++ inTxt y.1 y.2.2 := rfl
   rw [e] at ht ⊢
   simp only [lnA] at ht
   have lix := inTxt_len x.1 x.2.2
   have liy := inTxt_len y.1 y.2.2
   obtain ⟨a0, op0, wd0, n0, nm0, sl0, hx0⟩ := (hel 0 x rfl).seven
   have ih0 := ih 0 x rfl (by omega)
   have M0 := hce 0 x rfl
   rw [hx0] at ih0 M0
   obtain ⟨a1, op1, wd1, n1, nm1, sl1, hx1⟩ := (hel 1 y rfl).seven
   have ih1 := ih 1 y rfl (by omega)
   have M1 := hce 1 y rfl
   rw [hx1] at ih1 M1
   exact q_e6 _ _ _ _ op b cap (.int .i64 x.1) (.int .i64 a0) (.int .i64 op0) (.int .i64 wd0) (.int .u64 n0) (.string nm0) sl0 (.int .i64 y.1) (.int .i64 a1) (.int .i64 op1) (.int .i64 wd1) (.int .u64 n1) (.string nm1) sl1 (signTxt op) (inTxt x.1 x.2.2) (inTxt y.1 y.2.2) hb (M0 0 _ rfl) (M0 1 _ rfl) (M0 2 _ rfl) (M0 3 _ rfl) (M0 4 _ rfl) (M0 5 _ rfl) (M0 6 _ rfl) (M1 0 _ rfl) (M1 1 _ rfl) (M1 2 _ rfl) (M1 3 _ rfl) (M1 4 _ rfl) (M1 5 _ rfl) (M1 6 _ rfl) (sign_vals en.two en.tabs op (by omega) (by omega)) (qOperand x.1 _ _ _ _ _ _ _ ih0) (qOperand y.1 _ _ _ _ _ _ _ ih1)
  ·obtain ⟨x, y, z, rfl⟩ := len_three hl
   have e : nodeTxt 7 op nm [x, y, z] = inTxt x.1 x.2.2 ++ [32, 63, 32] ++ inTxt y.1 y.2.2 ++ [32, 58, 32] ++ inTxt z.1 z.2.2 := rfl
   rw [e] at ht ⊢
   simp only [lnA] at ht
   have lix := inTxt_len x.1 x.2.2
   have liy := inTxt_len y.1 y.2.2
   have liz := inTxt_len z.1 z.2.2
   obtain ⟨a0, op0, wd0, n0, nm0, sl0, hx0⟩ := (hel 0 x rfl).seven
   have ih0 := ih 0 x rfl (by omega)
   have M0 := hce 0 x rfl
   rw [hx0] at ih0 M0
   obtain ⟨a1, op1, wd1, n1, nm1, sl1, hx1⟩ := (hel 1 y rfl).seven
   have ih1 := ih 1 y rfl (by omega)
   have M1 := hce 1 y rfl
   rw [hx1] at ih1 M1
   obtain ⟨a2, op2, wd2, n2, nm2, sl2, hx2⟩ := (hel 2 z rfl).seven
   have ih2 := ih 2 z rfl (by omega)
   have M2 := hce 2 z rfl
   rw [hx2] at ih2 M2
   exact q_e7 _ _ _ _ op b cap (.int .i64 x.1) (.int .i64 a0) (.int .i64 op0) (.int .i64 wd0) (.int .u64 n0) (.string nm0) sl0 (.int .i64 y.1) (.int .i64 a1) (.int .i64 op1) (.int .i64 wd1) (.int .u64 n1) (.string nm1) sl1 (.int .i64 z.1) (.int .i64 a2) (.int .i64 op2) (.int .i64 wd2) (.int .u64 n2) (.string nm2) sl2 (inTxt x.1 x.2.2) (inTxt y.1 y.2.2) (inTxt z.1 z.2.2) hb (M0 0 _ rfl) (M0 1 _ rfl) (M0 2 _ rfl) (M0 3 _ rfl) (M0 4 _ rfl) (M0 5 _ rfl) (M0 6 _ rfl) (M1 0 _ rfl) (M1 1 _ rfl) (M1 2 _ rfl) (M1 3 _ rfl) (M1 4 _ rfl) (M1 5 _ rfl) (M1 6 _ rfl) (M2 0 _ rfl) (M2 1 _ rfl) (M2 2 _ rfl) (M2 3 _ rfl) (M2 4 _ rfl) (M2 5 _ rfl) (M2 6 _ rfl) (qOperand x.1 _ _ _ _ _ _ _ ih0) (qOperand y.1 _ _ _ _ _ _ _ ih1) (qOperand z.1 _ _ _ _ _ _ _ ih2)
  ·skip
   have e : nodeTxt 8 op nm es = [123] ++ commaTxt (es.map (·.2.2)) ++ [125] := rfl
   rw [e] at ht ⊢
   simp only [lnA] at ht
   have hcnt := commaTxt_count (es.map (·.2.2))
   rw [List.length_map] at hcnt
   have hlm : (es.map (fun x : Int × List Value × List UInt8 => x.2)).length = es.length := List.length_map _
   have hmm : (es.map (fun x : Int × List Value × List UInt8 => x.2)).map (·.2) = es.map (·.2.2) := by rw [List.map_map]; rfl
   have hq := q_commasE (B := B) (bp := bp) (w0 := w0) (es.map (fun x : Int × List Value × List UInt8 => x.2)) b cap hb (by omega) (fun i x hx => ?_) (fun i x hx => ?_)
   ·rw [hlm, hmm] at hq
    exact q_e8 _ _ _ _ _ _ _ hq
   ·rw [List.getElem?_map] at hx
    obtain ⟨y, hy, rfl⟩ := Option.map_eq_some_iff.1 hx
    obtain ⟨h7, h1⟩ := (hel i y hy).one
    exact ⟨h7, h1, fun j u hu => hce i y hy j u hu⟩
   ·rw [List.getElem?_map] at hx
    obtain ⟨y, hy, rfl⟩ := Option.map_eq_some_iff.1 hx
    have hm : y.2.2 ∈ es.map (·.2.2) := List.mem_map_of_mem (List.mem_of_getElem? hy)
    have := commaTxt_mem _ _ hm
    exact ih i y hy (by omega)
  ·obtain ⟨x, y, rfl⟩ := len_two hl
   have e : nodeTxt 9 op nm [x, y] = [123] ++ x.2.2 ++ y.2.2 ++ [125] := rfl
   rw [e] at ht ⊢
   simp only [lnA] at ht
   obtain ⟨a0, op0, wd0, n0, nm0, sl0, hx0⟩ := (hel 0 x rfl).seven
   have ih0 := ih 0 x rfl (by omega)
   have M0 := hce 0 x rfl
   rw [hx0] at ih0 M0
   obtain ⟨a1, op1, wd1, n1, nm1, sl1, hx1⟩ := (hel 1 y rfl).seven
   have ih1 := ih 1 y rfl (by omega)
   have M1 := hce 1 y rfl
   rw [hx1] at ih1 M1
   exact q_e9 _ _ _ _ op b cap (.int .i64 x.1) (.int .i64 a0) (.int .i64 op0) (.int .i64 wd0) (.int .u64 n0) (.string nm0) sl0 (.int .i64 y.1) (.int .i64 a1) (.int .i64 op1) (.int .i64 wd1) (.int .u64 n1) (.string nm1) sl1 x.2.2 y.2.2 hb (M0 0 _ rfl) (M0 1 _ rfl) (M0 2 _ rfl) (M0 3 _ rfl) (M0 4 _ rfl) (M0 5 _ rfl) (M0 6 _ rfl) (M1 0 _ rfl) (M1 1 _ rfl) (M1 2 _ rfl) (M1 3 _ rfl) (M1 4 _ rfl) (M1 5 _ rfl) (M1 6 _ rfl) ih0 ih1
theorem len7 {l : List Value} (h : l.length = 7) : ∃ h0 h1 h2 h3 h4 h5 h6, l = [h0, h1, h2, h3, h4, h5, h6] := by
 match l, h with
 | [h0, h1, h2, h3, h4, h5, h6], _ => exact ⟨h0, h1, h2, h3, h4, h5, h6, rfl⟩
theorem RowOf.slice {S : Nat → Prop} {B : Nat} {w : World} {sz : Nat} {v : Value} {xs : List (List Value)} (hS : ∀ b, S b → b < B) (h : RowOf S w sz v xs) :
  ∃ (pa : Option Addr) (b cap : Nat), v = .slice pa xs.length cap ∧ (xs ≠ [] → pa = some ⟨b, 0, none⟩ ∧ b < B) ∧ ∀ i x, xs[i]? = some x → x.length = sz ∧ ∀ j u, x[j]? = some u → w.cell? ⟨b, i * sz + j, none⟩ = some u := by
 rcases h with ⟨rfl, rfl⟩ | ⟨b, cap, rfl, hb, _, _, hx⟩
 ·exact ⟨none, 0, 0, rfl, fun h => absurd rfl h, fun i x hi => by simp at hi⟩
 ·exact ⟨some ⟨b, 0, none⟩, b, cap, rfl, fun _ => ⟨rfl, hS b hb⟩, hx⟩
theorem RowOf.some {S : Nat → Prop} {B : Nat} {w : World} {sz : Nat} {v : Value} {xs : List (List Value)} (hS : ∀ b, S b → b < B) (h : RowOf S w sz v xs) (hn : xs ≠ []) :
  ∃ (b cap : Nat), v = .slice (some ⟨b, 0, none⟩) xs.length cap ∧ b < B ∧ ∀ i x, xs[i]? = some x → x.length = sz ∧ ∀ j u, x[j]? = some u → w.cell? ⟨b, i * sz + j, none⟩ = some u := by
 obtain ⟨pa, b, cap, rfl, h1, h2⟩ := h.slice hS
 obtain ⟨rfl, hb⟩ := h1 hn
 exact ⟨b, cap, rfl, hb, h2⟩
theorem RowOf.isOne {S : Nat → Prop} {w : World} {sz : Nat} {v : Value} {xs : List (List Value)} (h : RowOf S w sz v xs) : v.oneCell' = true := by
 obtain ⟨_, _, _, rfl⟩ := h.sl; rfl
theorem PS.one {S : Nat → Prop} {w : World} {cs : List Value} {t : List UInt8} (h : PS S w cs t) : cs.length = 7 ∧ ∀ v ∈ cs, v.oneCell' = true := by
 obtain ⟨k, a, lt, nm, xa, xl, xc, sa, sl, sc, aa, al, ac, rfl⟩ := h.form
 exact ⟨rfl, fun v hv => (List.all_eq_true.1 (by rfl : List.all [Value.int .i64 k, .int .i64 a, .bool lt, .string nm, .slice xa xl xc, .slice sa sl sc, .slice aa al ac] (·.oneCell') = true)) v hv⟩
theorem spaced_flat {α : Type} (es : List α) (f : α → List UInt8) : (es.map (fun x => f x ++ [32])).flatten = spaced (es.map f) := by
 unfold spaced; rw [List.map_map]; rfl
theorem qCommasE {S : Nat → Prop} {B bp : Nat} {w0 : World} (en : PEnv S B bp w0) {v : Value} {es : List Ele} (hr : RowOf S w0 7 v (es.map (·.2.1))) (he : ∀ x ∈ es, PE S w0 x.1 x.2.1 x.2.2) (hl : (commaTxt (es.map (·.2.2))).length ≤ 400000000000) :
  Puts B bp w0 83 #[.pointer (some ⟨bp, 0, none⟩), v, .func (.func 62) #[.pointer (some ⟨bp, 0, none⟩)] #[]] (commaTxt (es.map (·.2.2))) := by
 by_cases hn : es = []
 ·subst hn
  rcases hr with ⟨rfl, _⟩ | ⟨b, cap, _, _, _, hne, _⟩
  ·exact q_commasE_nil _
  ·exact absurd rfl hne
 ·obtain ⟨b, cap, rfl, hb, hx⟩ := hr.some en.lt (by simpa using hn)
  have hcnt := commaTxt_count (es.map (·.2.2))
  rw [List.length_map] at hcnt
  have hlm : (es.map (fun x : Ele => x.2)).length = es.length := List.length_map _
  have hlm1 : (es.map (fun x : Ele => x.2.1)).length = es.length := List.length_map _
  have hmm : (es.map (fun x : Ele => x.2)).map (·.2) = es.map (·.2.2) := by rw [List.map_map]; rfl
  have hq := q_commasE (B := B) (bp := bp) (w0 := w0) (es.map (fun x : Ele => x.2)) b cap hb (by omega) (fun i x hi => ?_) (fun i x hi => ?_)
  ·rw [hlm, hmm] at hq
   rw [hlm1]; exact hq
  ·rw [List.getElem?_map] at hi
   obtain ⟨y, hy, rfl⟩ := Option.map_eq_some_iff.1 hi
   obtain ⟨h7, h1⟩ := (he y (List.mem_of_getElem? hy)).one
   exact ⟨h7, h1, (hx i y.2.1 (by rw [List.getElem?_map, hy]; rfl)).2⟩
  ·rw [List.getElem?_map] at hi
   obtain ⟨y, hy, rfl⟩ := Option.map_eq_some_iff.1 hi
   have hm : y.2.2 ∈ es.map (·.2.2) := List.mem_map_of_mem (List.mem_of_getElem? hy)
   have := commaTxt_mem _ _ hm
   exact qExpr en (he y (List.mem_of_getElem? hy)) (by omega)
theorem qLoop {S : Nat → Prop} {B bp : Nat} {w0 : World} (en : PEnv S B bp w0) {vx : Value} {x y z : Ele} (hx : RowOf S w0 7 vx ([x, y, z].map (·.2.1))) (px : PE S w0 x.1 x.2.1 x.2.2) (py : PE S w0 y.1 y.2.1 y.2.2) (pz : PE S w0 z.1 z.2.1 z.2.2) (nm : List UInt8) (ht : x.2.2.length + y.2.2.length + z.2.2.length ≤ 500000000000) :
  Puts B bp w0 67 #[.pointer (some ⟨bp, 0, none⟩), .string (bs nm), vx] ([102, 111, 114, 32, 40] ++ nm ++ ([32, 61, 32] ++ x.2.2) ++ [59, 32] ++ y.2.2 ++ [59, 32] ++ nm ++ ([32, 61, 32] ++ z.2.2) ++ [41]) := by
 obtain ⟨b, cap, rfl, hb, hc⟩ := hx.some en.lt (by simp)
 obtain ⟨h0, h1, h2, h3, h4, h5, h6, hx0⟩ := len7 px.one.1
 obtain ⟨l0, l1, l2, l3, l4, l5, l6, hx1⟩ := len7 py.one.1
 obtain ⟨u0, u1, u2, u3, u4, u5, u6, hx2⟩ := len7 pz.one.1
 have M0 := (hc 0 x.2.1 rfl).2
 have M1 := (hc 1 y.2.1 rfl).2
 have M2 := (hc 2 z.2.1 rfl).2
 have i0 := qExpr en px (by omega)
 have i1 := qExpr en py (by omega)
 have i2 := qExpr en pz (by omega)
 rw [hx0] at M0 i0
 rw [hx1] at M1 i1
 rw [hx2] at M2 i2
 exact q_loop nm _ y.2.2 _ b cap h0 h1 h2 h3 h4 h5 h6 l0 l1 l2 l3 l4 l5 l6 u0 u1 u2 u3 u4 u5 u6 hb (M0 0 _ rfl) (M0 1 _ rfl) (M0 2 _ rfl) (M0 3 _ rfl) (M0 4 _ rfl) (M0 5 _ rfl) (M0 6 _ rfl) (M1 0 _ rfl) (M1 1 _ rfl) (M1 2 _ rfl) (M1 3 _ rfl) (M1 4 _ rfl) (M1 5 _ rfl) (M1 6 _ rfl) (M2 0 _ rfl) (M2 1 _ rfl) (M2 2 _ rfl) (M2 3 _ rfl) (M2 4 _ rfl) (M2 5 _ rfl) (M2 6 _ rfl) (q_value h0 h1 h2 h3 h4 h5 h6 x.2.2 i0) i1 (q_value u0 u1 u2 u3 u4 u5 u6 z.2.2 i2)
theorem qStmt {S : Nat → Prop} {B bp : Nat} {w0 : World} (en : PEnv S B bp w0) {cs : List Value} {t : List UInt8} (h : PS S w0 cs t) (ht : t.length ≤ 400000000000) :
  Puts B bp w0 84 #[.pointer (some ⟨bp, 0, none⟩), .agg cs.toArray] t := by
 induction h with
 | node k a later nm xs vx ss vs ar va hk hx hxe hs hse ha hal hab ihs iha =>
  rcases hk with ⟨rfl, hl, hn, har⟩ | ⟨rfl, hl, har⟩ | ⟨rfl, hl, hn, har⟩ | ⟨rfl, hl, hn, har⟩ | ⟨rfl, hl, hn, har⟩ | ⟨rfl, hl, hn, har⟩
  ·exact q_s1 _ _ _ _ _ _
  ·obtain ⟨pa, b, cap, rfl, hpa, hc⟩ := hs.slice en.lt
   have e : stTxt 2 later nm (xs.map (fun x => x.2.2)) (ss.map (fun x => x.2)) (ar.map armTxt) = [98, 101, 103, 105, 110, 32] ++ spaced (ss.map (fun x => x.2)) ++ [101, 110, 100] := rfl
   rw [e] at ht ⊢
   simp only [lnA] at ht
   have hcn := spaced_count (ss.map (fun x => x.2))
   rw [List.length_map] at hcn
   have hlm : (ss.map (fun x => x.1)).length = ss.length := List.length_map _
   rw [hlm]
   refine (q_block _ _ _ _ _ ss pa b cap (fun h => hpa (by simpa using h)) (by omega) (fun i x hi => ?_) (fun i x hi => ?_)).to (by rw [spaced_flat])
   ·obtain ⟨h7, h1⟩ := (hse i x hi).one
    exact ⟨h7, h1, (hc i x.1 (by rw [List.getElem?_map, hi]; rfl)).2⟩
   ·exact ihs i x hi (by have := spaced_mem (l := ss.map (fun x => x.2)) (i := i) (t := x.2) (by rw [List.getElem?_map, hi]; rfl); omega)
  ·obtain ⟨x, rfl⟩ := List.length_eq_one_iff.1 hl
   obtain ⟨bx, capx, rfl, hbx, hcx⟩ := hx.some en.lt (by simp)
   obtain ⟨h0, h1, h2, h3, h4, h5, h6, hx0⟩ := len7 (hxe x (by simp)).one.1
   have M0 := (hcx 0 x.2.1 rfl).2
   have i0 := fun (z : x.2.2.length ≤ 500000000000) => qExpr en (hxe x (by simp)) z
   rw [hx0] at M0 i0
   rcases hn with hn | hn
   ·obtain ⟨s1, rfl⟩ := List.length_eq_one_iff.1 hn
    obtain ⟨b, cap, rfl, hb, hc⟩ := hs.some en.lt (by simp)
    obtain ⟨l0, l1, l2, l3, l4, l5, l6, hs1⟩ := len7 (hse 0 s1 rfl).one.1
    have M1 := (hc 0 s1.1 rfl).2
    have i1 := ihs 0 s1 rfl
    rw [hs1] at M1 i1
    have e : stTxt 3 later nm ([x].map (fun x => x.2.2)) ([s1].map (fun x => x.2)) (ar.map armTxt) = [105, 102, 32, 40] ++ x.2.2 ++ [41, 32] ++ s1.2 := by simp [stTxt]
    rw [e] at ht ⊢
    simp only [lnA] at ht
    refine q_s3 _ _ _ _ _ _ _ ?_
    exact (q_if1 _ _ _ _ _ bx capx b cap h0 h1 h2 h3 h4 h5 h6 l0 l1 l2 l3 l4 l5 l6 _ s1.2 hbx hb (M0 0 _ rfl) (M0 1 _ rfl) (M0 2 _ rfl) (M0 3 _ rfl) (M0 4 _ rfl) (M0 5 _ rfl) (M0 6 _ rfl) (M1 0 _ rfl) (M1 1 _ rfl) (M1 2 _ rfl) (M1 3 _ rfl) (M1 4 _ rfl) (M1 5 _ rfl) (M1 6 _ rfl) (q_cond [105, 102] x.2.2 h0 h1 h2 h3 h4 h5 h6 (i0 (by omega))) (i1 (by omega))).to (by simp only [List.append_assoc, List.cons_append, List.nil_append])
   ·obtain ⟨s1, s2, rfl⟩ := len_two hn
    obtain ⟨b, cap, rfl, hb, hc⟩ := hs.some en.lt (by simp)
    obtain ⟨l0, l1, l2, l3, l4, l5, l6, hs1⟩ := len7 (hse 0 s1 rfl).one.1
    obtain ⟨u0, u1, u2, u3, u4, u5, u6, hs2⟩ := len7 (hse 1 s2 rfl).one.1
    have M1 := (hc 0 s1.1 rfl).2
    have M2 := (hc 1 s2.1 rfl).2
    have i1 := ihs 0 s1 rfl
    have i2 := ihs 1 s2 rfl
    rw [hs1] at M1 i1
    rw [hs2] at M2 i2
    have e : stTxt 3 later nm ([x].map (fun x => x.2.2)) ([s1, s2].map (fun x => x.2)) (ar.map armTxt) = [105, 102, 32, 40] ++ x.2.2 ++ [41, 32] ++ s1.2 ++ [32, 101, 108, 115, 101, 32] ++ s2.2 := by simp [stTxt]
    rw [e] at ht ⊢
    simp only [lnA] at ht
    refine q_s3 _ _ _ _ _ _ _ ?_
    exact (q_if2 _ _ _ _ _ bx capx b cap h0 h1 h2 h3 h4 h5 h6 l0 l1 l2 l3 l4 l5 l6 u0 u1 u2 u3 u4 u5 u6 _ s1.2 s2.2 hbx hb (M0 0 _ rfl) (M0 1 _ rfl) (M0 2 _ rfl) (M0 3 _ rfl) (M0 4 _ rfl) (M0 5 _ rfl) (M0 6 _ rfl) (M1 0 _ rfl) (M1 1 _ rfl) (M1 2 _ rfl) (M1 3 _ rfl) (M1 4 _ rfl) (M1 5 _ rfl) (M1 6 _ rfl) (M2 0 _ rfl) (M2 1 _ rfl) (M2 2 _ rfl) (M2 3 _ rfl) (M2 4 _ rfl) (M2 5 _ rfl) (M2 6 _ rfl) (q_cond [105, 102] x.2.2 h0 h1 h2 h3 h4 h5 h6 (i0 (by omega))) (i1 (by omega)) (i2 (by omega))).to (by simp only [List.append_assoc, List.cons_append, List.nil_append])
  ·obtain ⟨x, rfl⟩ := List.length_eq_one_iff.1 hl
   obtain ⟨bx, capx, rfl, hbx, hcx⟩ := hx.some en.lt (by simp)
   obtain ⟨h0, h1, h2, h3, h4, h5, h6, hx0⟩ := len7 (hxe x (by simp)).one.1
   have M0 := (hcx 0 x.2.1 rfl).2
   have i0 := fun (z : x.2.2.length ≤ 500000000000) => qExpr en (hxe x (by simp)) z
   rw [hx0] at M0 i0
   have e : stTxt 4 later nm ([x].map (fun x => x.2.2)) (ss.map (fun x => x.2)) (ar.map armTxt) = [99, 97, 115, 101, 32, 40] ++ x.2.2 ++ [41, 32] ++ spaced (ar.map armTxt) ++ [101, 110, 100, 99, 97, 115, 101] := rfl
   rw [e] at ht ⊢
   simp only [lnA] at ht
   obtain ⟨pa, b, cap, rfl, hpa, hc⟩ := ha.slice en.lt
   have hcn := spaced_count (ar.map armTxt)
   rw [List.length_map] at hcn
   have hlm : (ar.map fun d : ArmD => (Value.bool d.dflt :: d.vl :: d.body)).length = ar.length := List.length_map _
   have hlm2 : (ar.map fun d : ArmD => ((Value.bool d.dflt :: d.vl :: d.body), armTxt d)).length = ar.length := List.length_map _
   have hq := q_case (B := B) (bp := bp) (w0 := w0) (.int .i64 a) (.bool later) (.string (bs nm)) vs bx capx h0 h1 h2 h3 h4 h5 h6 _ (ar.map fun d : ArmD => ((Value.bool d.dflt :: d.vl :: d.body), armTxt d)) pa b cap (fun h => hpa (by simpa using h)) (by omega) hbx (M0 0 _ rfl) (M0 1 _ rfl) (M0 2 _ rfl) (M0 3 _ rfl) (M0 4 _ rfl) (M0 5 _ rfl) (M0 6 _ rfl) (q_cond [99, 97, 115, 101] x.2.2 h0 h1 h2 h3 h4 h5 h6 (i0 (by omega))) (fun i y hi => ?_) (fun i y hi => ?_)
   ·rw [hlm2] at hq
    rw [hlm]
    refine hq.to ?_
    rw [List.map_map]
    have : (fun x : List Value × List UInt8 => x.2 ++ [32]) ∘ (fun d : ArmD => ((Value.bool d.dflt :: d.vl :: d.body), armTxt d)) = fun d => armTxt d ++ [32] := rfl
    rw [this, spaced_flat]
    simp only [List.append_assoc, List.cons_append, List.nil_append]
   ·rw [List.getElem?_map] at hi
    obtain ⟨d, hd, rfl⟩ := Option.map_eq_some_iff.1 hi
    obtain ⟨h7, h1⟩ := (hab i d hd).one
    refine ⟨by simp [h7], ?_, (hc i _ (by rw [List.getElem?_map, hd]; rfl)).2⟩
    intro u hu
    rcases List.mem_cons.1 hu with rfl | hu
    ·rfl
    ·rcases List.mem_cons.1 hu with rfl | hu
     ·exact (hal d (List.mem_of_getElem? hd)).1.isOne
     ·exact h1 u hu
   ·rw [List.getElem?_map] at hi
    obtain ⟨d, hd, rfl⟩ := Option.map_eq_some_iff.1 hi
    have hz : (armTxt d).length ≤ (spaced (ar.map armTxt)).length := spaced_mem (i := i) (by rw [List.getElem?_map, hd]; rfl)
    have ib := iha i d hd
    obtain ⟨l0, l1, l2, l3, l4, l5, l6, hb7⟩ := len7 (hab i d hd).one.1
    obtain ⟨hal1, hal2⟩ := hal d (List.mem_of_getElem? hd)
    have hdf := har d (List.mem_of_getElem? hd)
    obtain ⟨df, labels, vl, body, tb⟩ := d
    simp only at hb7 ib hal1 hal2 hdf
    subst hb7
    cases df
    case true =>
     have e : armTxt ⟨true, labels, vl, [l0, l1, l2, l3, l4, l5, l6], tb⟩ = [100, 101, 102, 97, 117, 108, 116] ++ [58, 32] ++ tb := rfl
     rw [e] at hz
     simp only [lnA] at hz
     exact (q_arm1 vl l0 l1 l2 l3 l4 l5 l6 tb (ib (by omega))).to rfl
    case false =>
     have e : armTxt ⟨false, labels, vl, [l0, l1, l2, l3, l4, l5, l6], tb⟩ = commaTxt (labels.map (·.2.2)) ++ [58, 32] ++ tb := rfl
     rw [e] at hz
     simp only [lnA] at hz
     exact (q_arm0 vl l0 l1 l2 l3 l4 l5 l6 _ tb (qCommasE en hal1 hal2 (by omega)) (ib (by omega))).to rfl
  ·obtain ⟨x, y, rfl⟩ := len_two hl
   obtain ⟨b, cap, rfl, hb, hc⟩ := hx.some en.lt (by simp)
   obtain ⟨h0, h1, h2, h3, h4, h5, h6, hx0⟩ := len7 (hxe x (by simp)).one.1
   obtain ⟨l0, l1, l2, l3, l4, l5, l6, hx1⟩ := len7 (hxe y (by simp)).one.1
   have M0 := (hc 0 x.2.1 rfl).2
   have M1 := (hc 1 y.2.1 rfl).2
   have i0 := fun (z : x.2.2.length ≤ 500000000000) => qExpr en (hxe x (by simp)) z
   have i1 := fun (z : y.2.2.length ≤ 500000000000) => qExpr en (hxe y (by simp)) z
   rw [hx0] at M0 i0
   rw [hx1] at M1 i1
   refine q_s5 _ _ _ _ _ _ _ ?_
   cases later
   case false =>
    have e : stTxt 5 false nm ([x, y].map (fun x => x.2.2)) (ss.map (fun x => x.2)) (ar.map armTxt) = x.2.2 ++ [32, 61, 32] ++ y.2.2 ++ [59] := rfl
    rw [e] at ht ⊢
    simp only [lnA] at ht
    exact q_set0 _ _ _ _ _ b cap h0 h1 h2 h3 h4 h5 h6 l0 l1 l2 l3 l4 l5 l6 x.2.2 y.2.2 hb (M0 0 _ rfl) (M0 1 _ rfl) (M0 2 _ rfl) (M0 3 _ rfl) (M0 4 _ rfl) (M0 5 _ rfl) (M0 6 _ rfl) (M1 0 _ rfl) (M1 1 _ rfl) (M1 2 _ rfl) (M1 3 _ rfl) (M1 4 _ rfl) (M1 5 _ rfl) (M1 6 _ rfl) (i0 (by omega)) (i1 (by omega))
   case true =>
    have e : stTxt 5 true nm ([x, y].map (fun x => x.2.2)) (ss.map (fun x => x.2)) (ar.map armTxt) = x.2.2 ++ [32, 60, 61, 32] ++ y.2.2 ++ [59] := rfl
    rw [e] at ht ⊢
    simp only [lnA] at ht
    exact q_set1 _ _ _ _ _ b cap h0 h1 h2 h3 h4 h5 h6 l0 l1 l2 l3 l4 l5 l6 x.2.2 y.2.2 hb (M0 0 _ rfl) (M0 1 _ rfl) (M0 2 _ rfl) (M0 3 _ rfl) (M0 4 _ rfl) (M0 5 _ rfl) (M0 6 _ rfl) (M1 0 _ rfl) (M1 1 _ rfl) (M1 2 _ rfl) (M1 3 _ rfl) (M1 4 _ rfl) (M1 5 _ rfl) (M1 6 _ rfl) (i0 (by omega)) (i1 (by omega))
  ·obtain ⟨x, y, z, rfl⟩ := len_three hl
   obtain ⟨s1, rfl⟩ := List.length_eq_one_iff.1 hn
   obtain ⟨bs1, caps, rfl, hbs, hcs⟩ := hs.some en.lt (by simp)
   obtain ⟨r0, r1, r2, r3, r4, r5, r6, hs1⟩ := len7 (hse 0 s1 rfl).one.1
   have M3 := (hcs 0 s1.1 rfl).2
   have i3 := ihs 0 s1 rfl
   rw [hs1] at M3 i3
   have e : stTxt 6 later nm ([x, y, z].map (fun x => x.2.2)) ([s1].map (fun x => x.2)) (ar.map armTxt) = loopTxt nm x.2.2 y.2.2 z.2.2 ++ s1.2 := rfl
   rw [e] at ht ⊢
   simp only [loopTxt, lnA] at ht
   refine (q_s6 _ _ _ _ (bs nm) bs1 caps r0 r1 r2 r3 r4 r5 r6 _ s1.2 hbs (M3 0 _ rfl) (M3 1 _ rfl) (M3 2 _ rfl) (M3 3 _ rfl) (M3 4 _ rfl) (M3 5 _ rfl) (M3 6 _ rfl) (qLoop en hx (hxe x (by simp)) (hxe y (by simp)) (hxe z (by simp)) nm (by omega)) (i3 (by omega))).to ?_
   simp only [loopTxt, List.append_assoc, List.cons_append, List.nil_append]
theorem len15' {l : List Value} (h : l.length = 15) : ∃ r0 r1 r2 r3 r4 r5 r6 r7 r8 r9 r10 r11 r12 r13 r14, l = [r0, r1, r2, r3, r4, r5, r6, r7, r8, r9, r10, r11, r12, r13, r14] := by
 match l, h with
 | [r0, r1, r2, r3, r4, r5, r6, r7, r8, r9, r10, r11, r12, r13, r14], _ => exact ⟨r0, r1, r2, r3, r4, r5, r6, r7, r8, r9, r10, r11, r12, r13, r14, rfl⟩
theorem PRg.one {S : Nat → Prop} {w : World} {cs : List Value} {t : List UInt8} (h : PRg S w cs t) : cs.length = 15 ∧ ∀ v ∈ cs, v.oneCell' = true := by
 refine ⟨h.len, ?_⟩
 rcases h with ⟨rfl, _⟩ | ⟨k1, k2, c1, c2, t1, t2, rfl, p1, p2, _⟩
 ·exact one_list rfl
 ·intro v hv
  rcases List.mem_cons.1 hv with rfl | hv
  ·rfl
  ·rcases List.mem_append.1 hv with hv | hv
   ·exact p1.one.2 v hv
   ·exact p2.one.2 v hv
theorem qRange {S : Nat → Prop} {B bp : Nat} {w0 : World} (en : PEnv S B bp w0) {k1 k2 : Int} {c1 c2 : List Value} {t1 t2 : List UInt8} (p1 : PE S w0 k1 c1 t1) (p2 : PE S w0 k2 c2 t2) (ht : t1.length + t2.length ≤ 400000000000) (on : Value) :
  Puts B bp w0 63 #[.pointer (some ⟨bp, 0, none⟩), .agg (on :: (c1 ++ c2)).toArray] ([91] ++ t1 ++ [58] ++ t2 ++ [93]) := by
 obtain ⟨h0, h1, h2, h3, h4, h5, h6, e1⟩ := len7 p1.one.1
 obtain ⟨l0, l1, l2, l3, l4, l5, l6, e2⟩ := len7 p2.one.1
 have i1 := qExpr (bp := bp) en p1 (by omega)
 have i2 := qExpr (bp := bp) en p2 (by omega)
 rw [e1] at i1
 rw [e2] at i2
 rw [e1, e2]
 exact q_range on h0 h1 h2 h3 h4 h5 h6 l0 l1 l2 l3 l4 l5 l6 t1 t2 i1 i2
theorem qWidth {S : Nat → Prop} {B bp : Nat} {w0 : World} (en : PEnv S B bp w0) {cs : List Value} {t : List UInt8} (h : PRg S w0 cs t) (ht : t.length ≤ 400000000000) :
  Puts B bp w0 45 #[.pointer (some ⟨bp, 0, none⟩), .agg cs.toArray] t := by
 rcases h with ⟨rfl, rfl⟩ | ⟨k1, k2, c1, c2, t1, t2, rfl, p1, p2, rfl⟩
 ·exact q_width0 _ _ _ _ _ _ _ _ _ _ _ _ _ _
 ·simp only [lnA] at ht
  have hq := qRange (bp := bp) en p1 p2 (by omega) (.bool true)
  obtain ⟨h0, h1, h2, h3, h4, h5, h6, e1⟩ := len7 p1.one.1
  obtain ⟨l0, l1, l2, l3, l4, l5, l6, e2⟩ := len7 p2.one.1
  rw [e1, e2] at hq ⊢
  exact (q_width1 h0 h1 h2 h3 h4 h5 h6 l0 l1 l2 l3 l4 l5 l6 _ hq).to (by simp only [List.append_assoc, List.cons_append, List.nil_append])
theorem PB.one {S : Nat → Prop} {w : World} {d : BindD} (h : PB S w d) : d.cs.length = 10 ∧ ∀ v ∈ d.cs, v.oneCell' = true := by
 obtain ⟨a, k, vl, e, ⟨hl, h1⟩, _⟩ := h
 refine ⟨by rw [e]; simp [hl], ?_⟩
 rw [e]
 intro v hv
 rcases List.mem_cons.1 hv with rfl | hv
 ·rfl
 ·rcases List.mem_cons.1 hv with rfl | hv
  ·rfl
  ·rcases List.mem_cons.1 hv with rfl | hv
   ·rfl
   ·exact (List.all_eq_true.1 h1) v hv
theorem PP.one {S : Nat → Prop} {w : World} {d : PortD} (h : PP S w d) : d.cs.length = 19 ∧ ∀ v ∈ d.cs, v.oneCell' = true := by
 obtain ⟨a, rg, e, hp⟩ := h
 obtain ⟨hl, h1⟩ := hp.one
 refine ⟨by rw [e]; simp [hl], ?_⟩
 rw [e]
 intro v hv
 rcases List.mem_cons.1 hv with rfl | hv
 ·rfl
 ·rcases List.mem_cons.1 hv with rfl | hv
  ·rfl
  ·rcases List.mem_cons.1 hv with rfl | hv
   ·rfl
   ·rcases List.mem_cons.1 hv with rfl | hv
    ·rfl
    ·exact h1 v hv
theorem qBind {S : Nat → Prop} {B bp : Nat} {w0 : World} (en : PEnv S B bp w0) {d : BindD} (h : PB S w0 d) (ht : (bindTxt d).length ≤ 400000000000) :
  Puts B bp w0 85 #[.pointer (some ⟨bp, 0, none⟩), .agg d.cs.toArray] (bindTxt d) := by
 obtain ⟨cs, nm, gv, te⟩ := d
 obtain ⟨a, k, vl, e, ⟨hl, _⟩, hp⟩ := h
 obtain ⟨h0, h1, h2, h3, h4, h5, h6, e1⟩ := len7 hl
 simp only at e hp
 subst e
 cases gv
 case false =>
  subst e1
  exact (q_bind0 nm _ h0 h1 h2 h3 h4 h5 h6).to (by simp [bindTxt])
 case true =>
  simp only [bindTxt, if_true, lnA] at ht
  have i1 := qExpr (bp := bp) en (hp rfl) (by omega)
  subst e1
  exact (q_bind1 nm te _ h0 h1 h2 h3 h4 h5 h6 i1).to rfl
theorem qParam {S : Nat → Prop} {B bp : Nat} {w0 : World} (en : PEnv S B bp w0) {d : BindD} (h : PB S w0 d ∧ d.gv = true) (ht : (paramTxt d).length ≤ 400000000000) :
  Puts B bp w0 25 #[.pointer (some ⟨bp, 0, none⟩), .agg d.cs.toArray] (paramTxt d) := by
 obtain ⟨h, hg⟩ := h
 obtain ⟨cs, nm, gv, te⟩ := d
 obtain ⟨a, k, vl, e, ⟨hl, _⟩, hp⟩ := h
 obtain ⟨h0, h1, h2, h3, h4, h5, h6, e1⟩ := len7 hl
 simp only at e hp hg
 subst e
 simp only [paramTxt, lnA] at ht
 have i1 := qExpr (bp := bp) en (hp hg) (by omega)
 subst e1
 exact (q_param nm _ _ _ h0 h1 h2 h3 h4 h5 h6 (q_value h0 h1 h2 h3 h4 h5 h6 te i1)).to (by simp only [paramTxt, List.append_assoc])
theorem qPort {S : Nat → Prop} {B bp : Nat} {w0 : World} (en : PEnv S B bp w0) {d : PortD} (h : PP S w0 d) (ht : (portTxt d).length ≤ 400000000000) :
  Puts B bp w0 27 #[.pointer (some ⟨bp, 0, none⟩), .agg d.cs.toArray] (portTxt d) := by
 obtain ⟨cs, nm, ou, rg, tr⟩ := d
 obtain ⟨a, rl, e, hp⟩ := h
 obtain ⟨r0, r1, r2, r3, r4, r5, r6, r7, r8, r9, r10, r11, r12, r13, r14, e1⟩ := len15' hp.len
 simp only at e hp
 subst e
 simp only [portTxt, lnA] at ht
 have i1 := qWidth (bp := bp) en hp (by omega)
 subst e1
 cases ou
 case false => exact (q_port_in nm tr _ rg r0 r1 r2 r3 r4 r5 r6 r7 r8 r9 r10 r11 r12 r13 r14 i1).to rfl
 case true =>
  cases rg
  case false => exact (q_port_out nm tr _ r0 r1 r2 r3 r4 r5 r6 r7 r8 r9 r10 r11 r12 r13 r14 i1).to rfl
  case true => exact (q_port_reg nm tr _ r0 r1 r2 r3 r4 r5 r6 r7 r8 r9 r10 r11 r12 r13 r14 i1).to rfl
theorem qCommasB {S : Nat → Prop} {B bp : Nat} {w0 : World} (en : PEnv S B bp w0) {v : Value} {ps : List BindD} (hr : RowOf S w0 10 v (ps.map (fun d : BindD => d.cs))) (hp : ∀ d ∈ ps, PB S w0 d) (hl : (commaTxt (ps.map bindTxt)).length ≤ 400000000000) :
  Puts B bp w0 43 #[.pointer (some ⟨bp, 0, none⟩), v, .func (.func 85) #[.pointer (some ⟨bp, 0, none⟩)] #[]] (commaTxt (ps.map bindTxt)) := by
 by_cases hn : ps = []
 ·subst hn
  rcases hr with ⟨rfl, _⟩ | ⟨b, cap, _, _, _, hne, _⟩
  ·exact q_commasB_nil _
  ·exact absurd rfl hne
 ·obtain ⟨b, cap, rfl, hb, hx⟩ := hr.some en.lt (by simpa using hn)
  have hcnt := commaTxt_count (ps.map bindTxt)
  rw [List.length_map] at hcnt
  have hlm : (ps.map (fun d : BindD => (d.cs, bindTxt d))).length = ps.length := List.length_map _
  have hlm1 : (ps.map (fun d : BindD => d.cs)).length = ps.length := List.length_map _
  have hmm : (ps.map (fun d : BindD => (d.cs, bindTxt d))).map (·.2) = ps.map bindTxt := by rw [List.map_map]; rfl
  have hq := q_commasB (B := B) (bp := bp) (w0 := w0) (ps.map (fun d : BindD => (d.cs, bindTxt d))) b cap hb (by omega) (fun i x hi => ?_) (fun i x hi => ?_)
  ·rw [hlm, hmm] at hq
   rw [hlm1]; exact hq
  ·rw [List.getElem?_map] at hi
   obtain ⟨y, hy, rfl⟩ := Option.map_eq_some_iff.1 hi
   obtain ⟨h7, h1⟩ := (hp y (List.mem_of_getElem? hy)).one
   exact ⟨h7, h1, (hx i y.cs (by rw [List.getElem?_map, hy]; rfl)).2⟩
  ·rw [List.getElem?_map] at hi
   obtain ⟨y, hy, rfl⟩ := Option.map_eq_some_iff.1 hi
   have hm : bindTxt y ∈ ps.map bindTxt := List.mem_map_of_mem (List.mem_of_getElem? hy)
   have := commaTxt_mem _ _ hm
   have hy2 := hp y (List.mem_of_getElem? hy)
   exact qBind en hy2 (by omega)
theorem qCommasA {S : Nat → Prop} {B bp : Nat} {w0 : World} (en : PEnv S B bp w0) {v : Value} {ps : List BindD} (hr : RowOf S w0 10 v (ps.map (fun d : BindD => d.cs))) (hp : ∀ d ∈ ps, PB S w0 d ∧ d.gv = true) (hl : (commaTxt (ps.map paramTxt)).length ≤ 400000000000) :
  Puts B bp w0 43 #[.pointer (some ⟨bp, 0, none⟩), v, .func (.func 25) #[.pointer (some ⟨bp, 0, none⟩)] #[]] (commaTxt (ps.map paramTxt)) := by
 by_cases hn : ps = []
 ·subst hn
  rcases hr with ⟨rfl, _⟩ | ⟨b, cap, _, _, _, hne, _⟩
  ·exact q_commasA_nil _
  ·exact absurd rfl hne
 ·obtain ⟨b, cap, rfl, hb, hx⟩ := hr.some en.lt (by simpa using hn)
  have hcnt := commaTxt_count (ps.map paramTxt)
  rw [List.length_map] at hcnt
  have hlm : (ps.map (fun d : BindD => (d.cs, paramTxt d))).length = ps.length := List.length_map _
  have hlm1 : (ps.map (fun d : BindD => d.cs)).length = ps.length := List.length_map _
  have hmm : (ps.map (fun d : BindD => (d.cs, paramTxt d))).map (·.2) = ps.map paramTxt := by rw [List.map_map]; rfl
  have hq := q_commasA (B := B) (bp := bp) (w0 := w0) (ps.map (fun d : BindD => (d.cs, paramTxt d))) b cap hb (by omega) (fun i x hi => ?_) (fun i x hi => ?_)
  ·rw [hlm, hmm] at hq
   rw [hlm1]; exact hq
  ·rw [List.getElem?_map] at hi
   obtain ⟨y, hy, rfl⟩ := Option.map_eq_some_iff.1 hi
   obtain ⟨h7, h1⟩ := (hp y (List.mem_of_getElem? hy)).1.one
   exact ⟨h7, h1, (hx i y.cs (by rw [List.getElem?_map, hy]; rfl)).2⟩
  ·rw [List.getElem?_map] at hi
   obtain ⟨y, hy, rfl⟩ := Option.map_eq_some_iff.1 hi
   have hm : paramTxt y ∈ ps.map paramTxt := List.mem_map_of_mem (List.mem_of_getElem? hy)
   have := commaTxt_mem _ _ hm
   have hy2 := hp y (List.mem_of_getElem? hy)
   exact qParam en hy2 (by omega)
theorem qCommasP {S : Nat → Prop} {B bp : Nat} {w0 : World} (en : PEnv S B bp w0) {v : Value} {ps : List PortD} (hr : RowOf S w0 19 v (ps.map (fun d : PortD => d.cs))) (hp : ∀ d ∈ ps, PP S w0 d) (hl : (commaTxt (ps.map portTxt)).length ≤ 400000000000) :
  Puts B bp w0 26 #[.pointer (some ⟨bp, 0, none⟩), v, .func (.func 27) #[.pointer (some ⟨bp, 0, none⟩)] #[]] (commaTxt (ps.map portTxt)) := by
 by_cases hn : ps = []
 ·subst hn
  rcases hr with ⟨rfl, _⟩ | ⟨b, cap, _, _, _, hne, _⟩
  ·exact q_commasP_nil _
  ·exact absurd rfl hne
 ·obtain ⟨b, cap, rfl, hb, hx⟩ := hr.some en.lt (by simpa using hn)
  have hcnt := commaTxt_count (ps.map portTxt)
  rw [List.length_map] at hcnt
  have hlm : (ps.map (fun d : PortD => (d.cs, portTxt d))).length = ps.length := List.length_map _
  have hlm1 : (ps.map (fun d : PortD => d.cs)).length = ps.length := List.length_map _
  have hmm : (ps.map (fun d : PortD => (d.cs, portTxt d))).map (·.2) = ps.map portTxt := by rw [List.map_map]; rfl
  have hq := q_commasP (B := B) (bp := bp) (w0 := w0) (ps.map (fun d : PortD => (d.cs, portTxt d))) b cap hb (by omega) (fun i x hi => ?_) (fun i x hi => ?_)
  ·rw [hlm, hmm] at hq
   rw [hlm1]; exact hq
  ·rw [List.getElem?_map] at hi
   obtain ⟨y, hy, rfl⟩ := Option.map_eq_some_iff.1 hi
   obtain ⟨h7, h1⟩ := (hp y (List.mem_of_getElem? hy)).one
   exact ⟨h7, h1, (hx i y.cs (by rw [List.getElem?_map, hy]; rfl)).2⟩
  ·rw [List.getElem?_map] at hi
   obtain ⟨y, hy, rfl⟩ := Option.map_eq_some_iff.1 hi
   have hm : portTxt y ∈ ps.map portTxt := List.mem_map_of_mem (List.mem_of_getElem? hy)
   have := commaTxt_mem _ _ hm
   have hy2 := hp y (List.mem_of_getElem? hy)
   exact qPort en hy2 (by omega)
theorem qHashB {S : Nat → Prop} {B bp : Nat} {w0 : World} (en : PEnv S B bp w0) {v : Value} {ps : List BindD} (hr : RowOf S w0 10 v (ps.map (fun d : BindD => d.cs))) (hp : ∀ d ∈ ps, PB S w0 d) (hl : (commaTxt (ps.map bindTxt)).length ≤ 400000000000) :
  Puts B bp w0 24 #[.pointer (some ⟨bp, 0, none⟩), v, .func (.func 85) #[.pointer (some ⟨bp, 0, none⟩)] #[]] (hashTxt (ps.map bindTxt)) := by
 have hq := qCommasB (bp := bp) en hr hp hl
 by_cases hn : ps = []
 ·subst hn
  rcases hr with ⟨rfl, _⟩ | ⟨b, cap, _, _, _, hne, _⟩
  ·exact q_hash_nil _
  ·exact absurd rfl hne
 ·obtain ⟨b, cap, rfl, hb, hx⟩ := hr.some en.lt (by simpa using hn)
  have hpos : 0 < ps.length := List.length_pos_iff.2 hn
  have hlm1 : (ps.map (fun d : BindD => d.cs)).length = ps.length := List.length_map _
  rw [hlm1] at hq ⊢
  refine (q_hash _ _ _ ps.length cap (beq_eq_false_iff_ne.2 (by omega)) hq).to ?_
  unfold hashTxt; rw [if_neg (by simpa using hn)]
theorem qHashA {S : Nat → Prop} {B bp : Nat} {w0 : World} (en : PEnv S B bp w0) {v : Value} {ps : List BindD} (hr : RowOf S w0 10 v (ps.map (fun d : BindD => d.cs))) (hp : ∀ d ∈ ps, PB S w0 d ∧ d.gv = true) (hl : (commaTxt (ps.map paramTxt)).length ≤ 400000000000) :
  Puts B bp w0 24 #[.pointer (some ⟨bp, 0, none⟩), v, .func (.func 25) #[.pointer (some ⟨bp, 0, none⟩)] #[]] (hashTxt (ps.map paramTxt)) := by
 have hq := qCommasA (bp := bp) en hr hp hl
 by_cases hn : ps = []
 ·subst hn
  rcases hr with ⟨rfl, _⟩ | ⟨b, cap, _, _, _, hne, _⟩
  ·exact q_hash_nil _
  ·exact absurd rfl hne
 ·obtain ⟨b, cap, rfl, hb, hx⟩ := hr.some en.lt (by simpa using hn)
  have hpos : 0 < ps.length := List.length_pos_iff.2 hn
  have hlm1 : (ps.map (fun d : BindD => d.cs)).length = ps.length := List.length_map _
  rw [hlm1] at hq ⊢
  refine (q_hash _ _ _ ps.length cap (beq_eq_false_iff_ne.2 (by omega)) hq).to ?_
  unfold hashTxt; rw [if_neg (by simpa using hn)]
theorem flat_pos (l : List (List UInt8)) (h : ∀ t ∈ l, 1 ≤ t.length) : l.length ≤ l.flatten.length := by
 induction l with
 | nil => simp
 | cons x r ih =>
  have h1 := h x (by simp)
  have h2 := ih (fun t ht => h t (List.mem_cons_of_mem _ ht))
  rw [List.flatten_cons, lnA, lnC]; omega
theorem qItems {B bp : Nat} {w0 : World} {S : Nat → Prop} (en : PEnv S B bp w0) {v : Value} {its : List ItemD} (hr : RowOf S w0 65 v (its.map (fun x : ItemD => x.1))) (hb : ∀ x ∈ its, Big x.1) (hl : (its.map (fun x : ItemD => x.2)).flatten.length ≤ 400000000000)
  (hp : ∀ (i : Nat) (d : ItemD), its[i]? = some d → ∃ t', d.2 = t' ++ [10] ∧ Puts B bp w0 46 #[.pointer (some ⟨bp, 0, none⟩), .agg d.1.toArray] t') :
  Puts B bp w0 28 #[.pointer (some ⟨bp, 0, none⟩), v] (its.map (fun x : ItemD => x.2)).flatten := by
 obtain ⟨pa, b, cap, rfl, hpa, hc⟩ := hr.slice en.lt
 have hlm : (its.map (fun x : ItemD => x.1)).length = its.length := List.length_map _
 have hlm2 : (its.map (fun d : ItemD => (d.1, d.2.dropLast))).length = its.length := List.length_map _
 have hlast : ∀ (i : Nat) (d : ItemD), its[i]? = some d → d.2.dropLast ++ [10] = d.2 := fun i d hd => by
  obtain ⟨t', e, _⟩ := hp i d hd
  rw [e, List.dropLast_concat]
 have htx : ((its.map (fun d : ItemD => (d.1, d.2.dropLast))).map (fun x => x.2 ++ [10])) = its.map (fun x : ItemD => x.2) := by
  rw [List.map_map]
  refine List.map_congr_left (fun d hd => ?_)
  obtain ⟨i, hi, rfl⟩ := List.mem_iff_getElem.1 hd
  exact hlast i _ (List.getElem?_eq_getElem hi)
 have hcnt : its.length ≤ (its.map (fun x : ItemD => x.2)).flatten.length := by
  have := flat_pos (its.map (fun x : ItemD => x.2)) (fun t ht => by
   obtain ⟨d, hd, rfl⟩ := List.mem_map.1 ht
   obtain ⟨i, hi, rfl⟩ := List.mem_iff_getElem.1 hd
   have e := hlast i _ (List.getElem?_eq_getElem hi)
   rw [← e]; simp)
  rw [List.length_map] at this; exact this
 have hq := q_items (B := B) (bp := bp) (w0 := w0) (its.map (fun d : ItemD => (d.1, d.2.dropLast))) pa b cap (fun h => hpa (by simpa using h)) (by omega) (fun i x hi => ?_) (fun i x hi => ?_)
 ·rw [hlm2, htx] at hq
  rw [hlm]; exact hq
 ·rw [List.getElem?_map] at hi
  obtain ⟨d, hd, rfl⟩ := Option.map_eq_some_iff.1 hi
  have hbg := hb d (List.mem_of_getElem? hd)
  exact ⟨hbg.1, hbg.2, (hc i d.1 (by rw [List.getElem?_map, hd]; rfl)).2⟩
 ·rw [List.getElem?_map] at hi
  obtain ⟨d, hd, rfl⟩ := Option.map_eq_some_iff.1 hi
  obtain ⟨t', e, hP⟩ := hp i d hd
  have : d.2.dropLast = t' := by rw [e, List.dropLast_concat]
  show Puts B bp w0 46 _ d.2.dropLast
  rw [this]; exact hP
theorem qflat_mem {l : List (List UInt8)} {t : List UInt8} (h : t ∈ l) : t.length ≤ l.flatten.length := by
 induction l with
 | nil => cases h
 | cons x r ih =>
  rw [List.flatten_cons, lnA]
  rcases List.mem_cons.1 h with rfl | h
  ·omega
  ·have := ih h; omega
theorem qItem {S : Nat → Prop} {B bp : Nat} {w0 : World} (en : PEnv S B bp w0) {cs : List Value} {t : List UInt8} (h : PI S w0 cs t) (ht : t.length ≤ 400000000000) :
  ∃ t', t = t' ++ [10] ∧ Puts B bp w0 46 #[.pointer (some ⟨bp, 0, none⟩), .agg cs.toArray] t' := by
 induction h with
 | wire cs hb nm rg tr h0 h2 h4 hr hg =>
  simp only [lnA] at ht
  have i1 := qWidth (bp := bp) en hr (by omega)
  obtain ⟨r0, r1, r2, r3, r4, r5, r6, r7, r8, r9, r10, r11, r12, r13, r14, e1⟩ := len15' hr.len
  subst e1
  refine ⟨[119, 105, 114, 101, 32] ++ tr ++ nm ++ [59], by simp, q_i1 cs hb.1 _ (h0 0 _ rfl) ?_⟩
  exact q_net1 cs nm tr r0 r1 r2 r3 r4 r5 r6 r7 r8 r9 r10 r11 r12 r13 r14 (h0 0 _ rfl) (h2 0 _ rfl) (h4 0 _ rfl) (h4 1 _ rfl) (h4 2 _ rfl) (h4 3 _ rfl) (h4 4 _ rfl) (h4 5 _ rfl) (h4 6 _ rfl) (h4 7 _ rfl) (h4 8 _ rfl) (h4 9 _ rfl) (h4 10 _ rfl) (h4 11 _ rfl) (h4 12 _ rfl) (h4 13 _ rfl) (h4 14 _ rfl) (hg 0 _ rfl) i1
 | reg cs hb nm rg tr gv k vl te h0 h2 h4 hr hg hv =>
  cases gv
  case false =>
   simp only [lnA] at ht
   have i1 := qWidth (bp := bp) en hr (by omega)
   obtain ⟨r0, r1, r2, r3, r4, r5, r6, r7, r8, r9, r10, r11, r12, r13, r14, e1⟩ := len15' hr.len
   subst e1
   refine ⟨[114, 101, 103, 32] ++ tr ++ nm ++ [59], by simp, q_i2 cs hb.1 _ (h0 0 _ rfl) ?_⟩
   exact q_net2a cs nm tr r0 r1 r2 r3 r4 r5 r6 r7 r8 r9 r10 r11 r12 r13 r14 (h0 0 _ rfl) (h2 0 _ rfl) (h4 0 _ rfl) (h4 1 _ rfl) (h4 2 _ rfl) (h4 3 _ rfl) (h4 4 _ rfl) (h4 5 _ rfl) (h4 6 _ rfl) (h4 7 _ rfl) (h4 8 _ rfl) (h4 9 _ rfl) (h4 10 _ rfl) (h4 11 _ rfl) (h4 12 _ rfl) (h4 13 _ rfl) (h4 14 _ rfl) (hg 0 _ rfl) i1
  case true =>
   simp only [lnA, if_true] at ht
   obtain ⟨hv1, p⟩ := hv rfl
   have i1 := qWidth (bp := bp) en hr (by omega)
   obtain ⟨r0, r1, r2, r3, r4, r5, r6, r7, r8, r9, r10, r11, r12, r13, r14, e1⟩ := len15' hr.len
   subst e1
   have i2 := qExpr (bp := bp) en p (by omega)
   obtain ⟨eh0, eh1, eh2, eh3, eh4, eh5, eh6, e2⟩ := len7 p.one.1
   subst e2
   refine ⟨[114, 101, 103, 32] ++ tr ++ nm ++ ([32, 61, 32] ++ te) ++ [59], by simp, q_i2 cs hb.1 _ (h0 0 _ rfl) ?_⟩
   exact q_net2b cs nm tr _ r0 r1 r2 r3 r4 r5 r6 r7 r8 r9 r10 r11 r12 r13 r14 eh0 eh1 eh2 eh3 eh4 eh5 eh6 (h0 0 _ rfl) (h2 0 _ rfl) (h4 0 _ rfl) (h4 1 _ rfl) (h4 2 _ rfl) (h4 3 _ rfl) (h4 4 _ rfl) (h4 5 _ rfl) (h4 6 _ rfl) (h4 7 _ rfl) (h4 8 _ rfl) (h4 9 _ rfl) (h4 10 _ rfl) (h4 11 _ rfl) (h4 12 _ rfl) (h4 13 _ rfl) (h4 14 _ rfl) (hg 0 _ rfl) (hv1 0 _ rfl) (hv1 1 _ rfl) (hv1 2 _ rfl) (hv1 3 _ rfl) (hv1 4 _ rfl) (hv1 5 _ rfl) (hv1 6 _ rfl) i1 (q_value eh0 eh1 eh2 eh3 eh4 eh5 eh6 te i2)
 | mem cs hb nm rg tr k1 k2 c1 c2 t1 t2 h0 h2 h4 hr hw p1 p2 =>
  simp only [lnA] at ht
  have i1 := qWidth (bp := bp) en hr (by omega)
  obtain ⟨r0, r1, r2, r3, r4, r5, r6, r7, r8, r9, r10, r11, r12, r13, r14, e1⟩ := len15' hr.len
  subst e1
  have i2 := qRange (bp := bp) en p1 p2 (by omega) (.bool true)
  obtain ⟨eh0, eh1, eh2, eh3, eh4, eh5, eh6, e2⟩ := len7 p1.one.1
  obtain ⟨el0, el1, el2, el3, el4, el5, el6, e3⟩ := len7 p2.one.1
  subst e2 e3
  refine ⟨[114, 101, 103, 32] ++ tr ++ nm ++ [32] ++ ([91] ++ t1 ++ [58] ++ t2 ++ [93]) ++ [59], by simp, q_i3 cs hb.1 _ (h0 0 _ rfl) ?_⟩
  exact q_net3 cs nm tr _ r0 r1 r2 r3 r4 r5 r6 r7 r8 r9 r10 r11 r12 r13 r14 (.bool true) eh0 eh1 eh2 eh3 eh4 eh5 eh6 el0 el1 el2 el3 el4 el5 el6 (h0 0 _ rfl) (h2 0 _ rfl) (h4 0 _ rfl) (h4 1 _ rfl) (h4 2 _ rfl) (h4 3 _ rfl) (h4 4 _ rfl) (h4 5 _ rfl) (h4 6 _ rfl) (h4 7 _ rfl) (h4 8 _ rfl) (h4 9 _ rfl) (h4 10 _ rfl) (h4 11 _ rfl) (h4 12 _ rfl) (h4 13 _ rfl) (h4 14 _ rfl) (hw 0 _ rfl) (hw 1 _ rfl) (hw 2 _ rfl) (hw 3 _ rfl) (hw 4 _ rfl) (hw 5 _ rfl) (hw 6 _ rfl) (hw 7 _ rfl) (hw 8 _ rfl) (hw 9 _ rfl) (hw 10 _ rfl) (hw 11 _ rfl) (hw 12 _ rfl) (hw 13 _ rfl) (hw 14 _ rfl) i1 i2
 | param cs hb nm k vl te h0 h2 hv p =>
  simp only [lnA] at ht
  have i1 := qExpr (bp := bp) en p (by omega)
  obtain ⟨eh0, eh1, eh2, eh3, eh4, eh5, eh6, e2⟩ := len7 p.one.1
  subst e2
  exact ⟨[108, 111, 99, 97, 108, 112, 97, 114, 97, 109, 32] ++ nm ++ ([32, 61, 32] ++ te) ++ [59], by simp, q_i4 cs nm _ eh0 eh1 eh2 eh3 eh4 eh5 eh6 (h0 0 _ rfl) (h2 0 _ rfl) (hv 0 _ rfl) (hv 1 _ rfl) (hv 2 _ rfl) (hv 3 _ rfl) (hv 4 _ rfl) (hv 5 _ rfl) (hv 6 _ rfl) (q_value eh0 eh1 eh2 eh3 eh4 eh5 eh6 te i1)⟩
 | assign cs hb k1 k2 tg vl tt te h0 htg pt hv p =>
  simp only [lnA] at ht
  have i1 := qExpr (bp := bp) en pt (by omega)
  have i2 := qExpr (bp := bp) en p (by omega)
  obtain ⟨eh0, eh1, eh2, eh3, eh4, eh5, eh6, e1⟩ := len7 pt.one.1
  obtain ⟨el0, el1, el2, el3, el4, el5, el6, e2⟩ := len7 p.one.1
  subst e1 e2
  exact ⟨[97, 115, 115, 105, 103, 110, 32] ++ tt ++ ([32, 61, 32] ++ te) ++ [59], by simp, q_i5 cs tt _ eh0 eh1 eh2 eh3 eh4 eh5 eh6 el0 el1 el2 el3 el4 el5 el6 (h0 0 _ rfl) (hv 0 _ rfl) (hv 1 _ rfl) (hv 2 _ rfl) (hv 3 _ rfl) (hv 4 _ rfl) (hv 5 _ rfl) (hv 6 _ rfl) (htg 0 _ rfl) (htg 1 _ rfl) (htg 2 _ rfl) (htg 3 _ rfl) (htg 4 _ rfl) (htg 5 _ rfl) (htg 6 _ rfl) i1 (q_value el0 el1 el2 el3 el4 el5 el6 te i2)⟩
 | always cs hb ck bd tb h0 hc hd p =>
  simp only [lnA] at ht
  have i1 := qStmt (bp := bp) en p (by omega)
  obtain ⟨eh0, eh1, eh2, eh3, eh4, eh5, eh6, e1⟩ := len7 p.one.1
  subst e1
  cases ck
  case false => exact ⟨[97, 108, 119, 97, 121, 115, 32, 64, 42, 32] ++ tb, by simp, q_i6 cs hb.1 _ (h0 0 _ rfl) (q_alw_false cs tb eh0 eh1 eh2 eh3 eh4 eh5 eh6 (hc 0 _ rfl) (hd 0 _ rfl) (hd 1 _ rfl) (hd 2 _ rfl) (hd 3 _ rfl) (hd 4 _ rfl) (hd 5 _ rfl) (hd 6 _ rfl) i1)⟩
  case true => exact ⟨[97, 108, 119, 97, 121, 115, 32, 64, 99, 108, 107, 32] ++ tb, by simp, q_i6 cs hb.1 _ (h0 0 _ rfl) (q_alw_true cs tb eh0 eh1 eh2 eh3 eh4 eh5 eh6 (hc 0 _ rfl) (hd 0 _ rfl) (hd 1 _ rfl) (hd 2 _ rfl) (hd 3 _ rfl) (hd 4 _ rfl) (hd 5 _ rfl) (hd 6 _ rfl) i1)⟩
 | use cs hb md nm vp vq ps qs h0 h2 h3 hp hq rp pp rq pq =>
  simp only [useTxt, lnA] at ht
  have hhp : (commaTxt (ps.map bindTxt)).length ≤ (hashTxt (ps.map bindTxt)).length := by
   unfold hashTxt; split
   ·rename_i h; rw [h]; simp [commaTxt]
   ·simp only [lnA]; omega
  refine ⟨md ++ [32] ++ hashTxt (ps.map bindTxt) ++ nm ++ [32, 40] ++ commaTxt (qs.map bindTxt) ++ [41, 59], by simp [useTxt], q_i7 cs hb.1 _ (h0 0 _ rfl) ?_⟩
  exact q_use cs nm md _ _ vp vq (h2 0 _ rfl) (h3 0 _ rfl) (hp 0 _ rfl) (hq 0 _ rfl) (qHashB en rp pp (by omega)) (qCommasB en rq pq (by omega))
 | loop cs hb nm lb vx vi x y z its h0 h2 hx hlb hi rx px py pz ri pi ih =>
  simp only [loopTxt, partTxt, lnA] at ht
  have hit : ∀ (i : Nat) (d : ItemD), its[i]? = some d → d.2.length ≤ (its.map (fun x : ItemD => x.2)).flatten.length := fun i d hd => qflat_mem (List.mem_map_of_mem (List.mem_of_getElem? hd))
  have q1 := qItems (bp := bp) en ri (fun x hx => by obtain ⟨i, hi, rfl⟩ := List.mem_iff_getElem.1 hx; exact (pi i _ (List.getElem?_eq_getElem hi)).big) (by omega) (fun i d hd => ih i d hd (by have := hit i d hd; omega))
  refine ⟨_, ?_, q_i8 cs _ _ (bs nm) (bs lb) vx vi (h0 0 _ rfl) (h2 0 _ rfl) (hx 0 _ rfl) (hlb 0 _ rfl) (hi 0 _ rfl) (qLoop en rx px py pz nm (by omega)) (q_part lb _ vi q1)⟩
  simp only [loopTxt, partTxt, List.append_assoc, List.cons_append, List.nil_append]
 | cond cs hb lb vi k vl te its he le ve els h0 hv p hlb hi ri pi hh hel pe ih ihe =>
  simp only [partTxt, lnA] at ht
  have hit : ∀ (i : Nat) (d : ItemD), its[i]? = some d → d.2.length ≤ (its.map (fun x : ItemD => x.2)).flatten.length := fun i d hd => qflat_mem (List.mem_map_of_mem (List.mem_of_getElem? hd))
  have q1 := qItems (bp := bp) en ri (fun x hx => by obtain ⟨i, hi, rfl⟩ := List.mem_iff_getElem.1 hx; exact (pi i _ (List.getElem?_eq_getElem hi)).big) (by omega) (fun i d hd => ih i d hd (by have := hit i d hd; omega))
  have i1 := qExpr (bp := bp) en p (by omega)
  obtain ⟨eh0, eh1, eh2, eh3, eh4, eh5, eh6, e1⟩ := len7 p.one.1
  subst e1
  cases he
  case false =>
   refine ⟨_, ?_, q_i9a cs _ _ (bs lb) vi eh0 eh1 eh2 eh3 eh4 eh5 eh6 (h0 0 _ rfl) (hv 0 _ rfl) (hv 1 _ rfl) (hv 2 _ rfl) (hv 3 _ rfl) (hv 4 _ rfl) (hv 5 _ rfl) (hv 6 _ rfl) (hlb 0 _ rfl) (hi 0 _ rfl) (hh 0 _ rfl) (q_cond [105, 102] te eh0 eh1 eh2 eh3 eh4 eh5 eh6 i1) (q_part lb _ vi q1)⟩
   simp [partTxt]
  case true =>
   obtain ⟨g63, g64, re⟩ := hel rfl
   have het : ∀ (i : Nat) (d : ItemD), els[i]? = some d → d.2.length ≤ (els.map (fun x : ItemD => x.2)).flatten.length := fun i d hd => qflat_mem (List.mem_map_of_mem (List.mem_of_getElem? hd))
   simp only [if_true, lnA] at ht
   have q2 := qItems (bp := bp) en re (fun x hx => by obtain ⟨i, hi, rfl⟩ := List.mem_iff_getElem.1 hx; exact (pe i _ rfl (List.getElem?_eq_getElem hi)).big) (by omega) (fun i d hd => ihe i d rfl hd (by have := het i d hd; omega))
   refine ⟨_, ?_, q_i9b cs _ _ _ (bs lb) (bs le) vi ve eh0 eh1 eh2 eh3 eh4 eh5 eh6 (h0 0 _ rfl) (hv 0 _ rfl) (hv 1 _ rfl) (hv 2 _ rfl) (hv 3 _ rfl) (hv 4 _ rfl) (hv 5 _ rfl) (hv 6 _ rfl) (hlb 0 _ rfl) (hi 0 _ rfl) (hh 0 _ rfl) (g63 0 _ rfl) (g64 0 _ rfl) (q_cond [105, 102] te eh0 eh1 eh2 eh3 eh4 eh5 eh6 i1) (q_part lb _ vi q1) (q_part le _ ve q2)⟩
   simp [partTxt]
theorem PM.one {S : Nat → Prop} {w : World} {cs : List Value} {t : List UInt8} (h : PM S w cs t) : cs.length = 5 ∧ ∀ v ∈ cs, v.oneCell' = true := by
 obtain ⟨nm, a, vp, vq, vi, ps, qs, es, rfl, r1, _, r2, _, r3, _, _⟩ := h
 refine ⟨rfl, ?_⟩
 obtain ⟨_, _, _, rfl⟩ := r1.sl
 obtain ⟨_, _, _, rfl⟩ := r2.sl
 obtain ⟨_, _, _, rfl⟩ := r3.sl
 exact one_list rfl
theorem qModule {S : Nat → Prop} {B bp : Nat} {w0 : World} (en : PEnv S B bp w0) {cs : List Value} {t : List UInt8} (h : PM S w0 cs t) (ht : t.length ≤ 400000000000) :
  Puts B bp w0 12 #[.pointer (some ⟨bp, 0, none⟩), .agg cs.toArray] t := by
 obtain ⟨nm, a, vp, vq, vi, ps, qs, es, rfl, r1, p1, r2, p2, r3, p3, rfl⟩ := h
 simp only [modTxt, lnA] at ht
 have hhp : (commaTxt (ps.map paramTxt)).length ≤ (hashTxt (ps.map paramTxt)).length := by
  unfold hashTxt; split
  ·rename_i h; rw [h]; simp [commaTxt]
  ·simp only [lnA]; omega
 have hit : ∀ (i : Nat) (d : ItemD), es[i]? = some d → d.2.length ≤ (es.map (fun x : ItemD => x.2)).flatten.length := fun i d hd => qflat_mem (List.mem_map_of_mem (List.mem_of_getElem? hd))
 have q1 := qItems (bp := bp) en r3 (fun x hx => (p3 x hx).big) (by omega) (fun i d hd => qItem en (p3 d (List.mem_of_getElem? hd)) (by have := hit i d hd; omega))
 exact (q_mod nm _ _ _ _ vp vq vi (qHashA en r1 p1 (by omega)) (qCommasP en r2 p2 (by omega)) q1).to rfl
end Go.Proofs.YtimmmlnememjiaaGreatDoor
