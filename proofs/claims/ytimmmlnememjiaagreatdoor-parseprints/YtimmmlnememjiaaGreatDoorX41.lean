import Derived.Test.YtimmmlnememjiaaGreatDoorX
import Derived.Test.YtimmmlnememjiaaGreatDoorX40
import Derived.Test.YtimmmlnememjiaaGreatDoorProg
import Derived.Test.YtimmmlnememjiaaGreatDoorX32
import Derived.Test.YtimmmlnememjiaaGreatDoorX00
import Derived.Lib.UnsafeStr
import Derived.Defers
import Derived.Recover
import Derived.Laws.Pointers
import Derived.Shelf.Strconv.Itoa0
import Derived.Shelf.Strconv.Itoa1
import Derived.Shelf.LaysM
import Derived.Shelf.Strconv.Itoa2
import Derived.Shelf.Strconv.Itoa3
import Derived.Lib.AppendIntMem
set_option maxRecDepth 100000
set_option maxHeartbeats 16000000
namespace Go.Proofs.YtimmmlnememjiaaGreatDoor
open Go.RowKit
theorem cells5 : Tryz.prog.cellsOf 5 = 1 := by kernel_rfl
theorem str_some {B bp : Nat} {l : List UInt8} {w : World} (h : PrAt B bp l w) (h0 : l ≠ []) :
  Calls Tryz.prog 13 #[.pointer (some ⟨bp, 0, none⟩)] w fun e w' => e = .returned (.string (bs l)) ∧ Below B w w' := by
 obtain ⟨hB, p, v, hp, hbk, hown, hne⟩ := h
 have hl0 : l.length ≠ 0 := by simpa using h0
 obtain ⟨g, cap, cur, rfl, hbg, hg, hnc, hcm, hcs, htake⟩ : ∃ g cap cur, v = .slice (some ⟨g, 0, none⟩) l.length cap ∧ B ≤ g ∧ w.heap[g]? = some (.cells cur 5 (0, 0)) ∧ l.length ≤ cap ∧ cap ≤ maxLen ∧ cur.size = cap * 1 ∧ cur.toList.take (l.length * 1) = Lib.byteCells l := by
  rcases hown.2 with ⟨_, hz⟩ | ⟨g, cap, cur, hv, r⟩
  ·exact absurd hz hl0
  ·exact ⟨g, cap, cur, hv, r⟩
 have c1 : w.drew.cell? ⟨bp, 1, none⟩ = some (.slice (some ⟨g, 0, none⟩) l.length cap) := by
  have : w.drew.heap[bp]? = some (.cells #[p, .slice (some ⟨g, 0, none⟩) l.length cap] 47 (0, 0)) := hbk
  rw [Lib.cell_of_heap this]; rfl
 have hSD : (Builtin.unsafeSliceData_ #[43] 72 #[.slice (some ⟨g, 0, none⟩) l.length cap]).run Tryz.prog w.drew = .ok (.pointer (some ⟨g, 0, none⟩)) w.drew :=
  Lib.run_unsafeSliceData_row _ _ _ _ _ _ (by omega)
 have hUS : (Builtin.unsafeString_ #[72, 3] 9 #[.pointer (some ⟨g, 0, none⟩), .int .i64 l.length]).run Tryz.prog w.drew = .ok (.string ⟨l.toArray⟩) (w.drew.freeze ⟨g, 0, none⟩ l.length) := by
  refine Lib.run_unsafeString_row w.drew 72 3 9 5 Tryz.underlying72 cells5 g cur.size (by have hg' : w.drew.heap[g]? = some (.cells cur 5 (0, 0)) := hg; simp [World.shape?, hg']) l h0 (by omega) (by unfold maxLen at hcm; omega) ?_
  intro j x hx
  have := hown.cells (g := g) rfl j (.int .u8 x.toNat) (by simp [Lib.byteCells, hx])
  exact this
 have HBG := hidp hbg
 clear hown hbk hg htake hp hne hB hbg
 go_enter Tryz.func13, Tryz.ntmps13
 go_wp2
 go_region
 all_goals (go_wp2; go_ret; exact ⟨rfl, Lib.below_freeze (Below.drew (Below.refl B w)) (p := ⟨g, 0, none⟩) HBG.out _⟩)
theorem str_nil (B bp : Nat) (p : Value) (w : World) (hbk : w.heap[bp]? = some (.cells #[p, .slice none 0 0] 47 (0, 0))) :
  Calls Tryz.prog 13 #[.pointer (some ⟨bp, 0, none⟩)] w fun e w' => e = .returned (.string ⟨#[]⟩) ∧ Below B w w' := by
 have hUS : ∀ (W : World) (q : Option Addr), (Builtin.unsafeString_ #[72, 3] 9 #[.pointer q, .int .i64 0]).run Tryz.prog W = .ok (.string .empty) W := fun W q => Lib.run_unsafeString_none W _ _ _ q
 have c1 : w.drew.cell? ⟨bp, 1, none⟩ = some (.slice none 0 0) := by
  have : w.drew.heap[bp]? = some (.cells #[p, .slice none 0 0] 47 (0, 0)) := hbk
  rw [Lib.cell_of_heap this]; rfl
 have hSD : (Builtin.unsafeSliceData_ #[43] 72 #[.slice none 0 0]).run Tryz.prog w.drew = .ok (.pointer none) w.drew := rfl
 clear hbk
 go_enter Tryz.func13, Tryz.ntmps13
 go_wp2
 go_region
 all_goals (go_wp2; go_ret; exact ⟨rfl, Below.drew (Below.refl B w)⟩)
theorem catch_idle (p : Addr) (w : World) :
  CallsD Tryz.prog 11 #[.pointer (some p)] .returning w fun e u' w' => e = .returned (.tuple #[]) ∧ u' = .returning ∧ w' = w := by
 refine callsD_of_wpS Tryz.func11 rfl fun c₀ cs hu => ?_
 apply wpS_seq
 apply wpS_region
 simp [wpOpsS, go_sem, recoverD, hu, Tryz.ntmps11, Exit.thenS]
 refine wpS_cond (t := false) (by simp [Act.eval, Array.replicate]) ?_
 simp only [Bool.false_eq_true, if_false]
 refine wpS_of_wp (wp_skip ?_)
 cases c₀
 simp_all [bodyPostS, results, Tryz.results11]
theorem print_core (ws : World) (es : List (List Value × List UInt8)) (pa : Option Addr) (b cap : Nat) (hpa : Hid (es ≠ [] → pa = some ⟨b, 0, none⟩ ∧ b < ws.heap.size + 1)) (hle : es.length ≤ 2000000000000)
  (hce : Hid (∀ (i : Nat) (x : List Value × List UInt8), es[i]? = some x → x.1.length = 5 ∧ (∀ u ∈ x.1, u.oneCell' = true) ∧ ∀ (j : Nat) (u : Value), x.1[j]? = some u → (ws.alloc (.cells #[.string ⟨#[]⟩] 9)).cell? ⟨b, i * 5 + j, none⟩ = some u))
  (ih : Hid (∀ (i : Nat) (x : List Value × List UInt8), es[i]? = some x → Puts (ws.heap.size + 1) (ws.heap.size + 1) (ws.alloc (.cells #[.string ⟨#[]⟩] 9)) 12 #[.pointer (some ⟨ws.heap.size + 1, 0, none⟩), .agg x.1.toArray] x.2))
  (hlen : (es.map (fun x => x.2)).flatten.length ≤ 140737488355328) (hpos : (es.map (fun x => x.2)).flatten ≠ []) :
  Calls Tryz.prog 7 #[.slice pa es.length cap] ws fun e w' => e = .returned (.string (bs (es.map (fun x => x.2)).flatten)) ∧ Below ws.heap.size ws w' := by
 have hmf : ∀ (fn : Fn) (first cap : Array Value) (w : World), (Instr.makeFunc fn first cap).run Tryz.prog w = .ok (.func fn first cap) w := fun _ _ _ _ => rfl
 have HL := hidp hlen
 have HPOS := hidp hpos
 clear hlen hpos
 obtain ⟨tt, HT⟩ : ∃ tt, Hid ((es.map (fun x => x.2)).flatten = tt) := ⟨_, rfl⟩
 rw [HT.out]
 go_enter_defers Tryz.func7, Tryz.ntmps7
 go_wp2_with fail
 have HB0 : Hid (Below ws.heap.size ws (ws.alloc (.cells #[.string ⟨#[]⟩] 9))) := (Below.refl _ _).alloc (Nat.le_refl _) _
 have HC0 := hidp (heap_new ws (.cells #[.string ⟨#[]⟩] 9))
 have hs0 : (ws.alloc (.cells #[.string ⟨#[]⟩] 9)).heap.size = ws.heap.size + 1 := by simp
 generalize hW0 : ws.alloc (.cells #[.string ⟨#[]⟩] 9) = w0 at *
 clear hW0
 generalize hbp : ws.heap.size + 1 = bp at *
 have HBP := hidp hbp
 clear hbp
 generalize hW : w0.alloc (.cells #[.pointer none, .slice none 0 0] 47) = w
 have hk : w.heap[bp]? = some (.cells #[.pointer none, .slice none 0 0] 47) := by rw [← hW, ← hs0]; exact heap_new _ _
 have HPc : Hid (PrAt bp bp ([] : List UInt8) w) := ⟨Nat.le_refl _, .pointer none, .slice none 0 0, Or.inl rfl, hk, ⟨by simp [Lib.byteCells], .inl ⟨rfl, rfl⟩⟩, by simp [Value.ownBlock]⟩
 have HB : Hid (Below bp w0 w) := by rw [← hW]; exact (Below.refl _ _).alloc (by rw [hs0]; exact Nat.le_refl _) _
 have hsz : bp ≤ w.heap.size := by rw [← hW]; simp; omega
 have HQc := hidp (Qp.refl bp bp w)
 clear hW hk hs0
 go_loopw [5, 9] (fun _ i w' => ∃ k : Nat, k ≤ es.length ∧ i = .int .i64 k ∧ Hid (PrAt bp bp (([] : List UInt8) ++ ((es.map (fun x => x.2)).take k).flatten) w') ∧ Hid (Qp bp bp w w')) (fun _ i _ => es.length - (intOf i).toNat)
 case atStart => exact ⟨0, Nat.zero_le _, rfl, (by show PrAt bp bp (([] : List UInt8) ++ ((es.map (fun x => x.2)).take 0).flatten) _; rw [List.take_zero, List.flatten_nil, List.append_nil]; exact HPc.out), HQc.out⟩
 case round =>
  obtain ⟨k, hk, rfl, HR, HQ⟩ := hrel
  by_cases hlt : k < es.length
  ·obtain ⟨hpe, hbB⟩ := hpa.out (by intro e; rw [e] at hlt; simp at hlt)
   subst hpe
   have HBB := hidp hbB
   clear hbB
   obtain ⟨x, hx⟩ : ∃ x, es[k]? = some x := ⟨es[k], List.getElem?_eq_getElem hlt⟩
   have hnx := q_flat_next (es.map (fun x => x.2)) k (by simpa using hlt)
   have hz1 := q_flat_take (es.map (fun x => x.2)) (k + 1)
   have hxt : (es.map (fun x => x.2))[k]'(by simpa using hlt) = x.2 := by
    have : es[k] = x := by rw [List.getElem?_eq_getElem hlt] at hx; exact Option.some.inj hx
    simp [this]
   rw [hxt] at hnx
   obtain ⟨hcl, hone, hcell⟩ := hce.out k x hx
   have hzr : bp ≤ wr.heap.size := Qp.le HQ.out hsz
   have HRA : Hid (wr.rangeAt b (k * 5) x.1) := fun j v hv => by rw [(HB.out.trans HQ.out.1).cell (p := ⟨b, k * 5 + j, none⟩) HBB.out]; exact hcell j v hv
   have IH := hidp (ih.out k x hx)
   obtain ⟨cs2, t⟩ := x
   simp only at hcl hone HRA IH hnx
   have HSA : Hid (cs2.toArray.size = 5) := by show _ = _; simpa using hcl
   have HSL : Hid ((Tryz.prog.info? 40).map (·.size) = some cs2.length) := by show _ = _; rw [hcl]; kernel_rfl
   have HTT : Hid ((wr.alloc (.cells #[.string ⟨#[]⟩, .int .i64 0, .slice none 0 0, .slice none 0 0, .slice none 0 0] 40)).there wr.heap.size 0 cs2.toArray.size) := there_new _ _ (HSA.out.symm)
   have HTI : Hid ((Tryz.prog.info? 40).map (·.size) = some cs2.toArray.size) := by show _ = _; rw [HSA.out]; kernel_rfl
   have HTO : Hid (cs2.toArray.all (·.oneCell') = true) := one_all hone
   clear hx hxt hcl hone hcell
   have hk1 : (0 : Int) ≤ (k : Int) := by omega
   have hk2 : (k : Int) < (es.length : Int) := by omega
   have HLk := hidp hz1
   have HNX := hidp hnx
   clear hz1 hnx
   go_upto_region 6 with (first | (refine wpList_load_mid rfl 40 (.tmp 11) rfl b (k * 5) rfl cs2 _ HRA.out Tryz.underlying40 rfl HSL.out ?_) | (refine wpList_store_mid rfl 40 (.tmp 5) (.tmp 12) rfl wr.heap.size 0 cs2.toArray rfl rfl HTT.out HTI.out HTO.out ?_))
   generalize hS : World.setCells _ wr.heap.size 0 _ = wb
   replace hS : wr.alloc (.cells cs2.toArray 40) = wb := (alloc_set wr #[.string ⟨#[]⟩, .int .i64 0, .slice none 0 0, .slice none 0 0, .slice none 0 0] cs2.toArray 40 (HSA.out.symm)).symm.trans hS
   obtain ⟨hpW, hzW, hqW, hkW, hne, hzz⟩ := q_box HR.out hzr hS
   have HP1 := hidp hpW
   have HQ1 := hidp (Qp.trans HQ.out hqW)
   have HLO : Hid (wb.rangeAt wr.heap.size 0 cs2) := range_of hkW
   clear hS hpW hqW hkW hne hzz HTT HTI HTO HRA HSA
   have tok : True := trivial
   go_wp2_with (have _t := tok; refine wpList_load_mid rfl 40 (.tmp 5) rfl wr.heap.size 0 rfl cs2 _ HLO.out Tryz.underlying40 rfl HSL.out ?_; clear tok)
   refine (IH.out wb _ (HB.out.trans HQ1.out.1) hzW HP1.out (by have := HL.out; have h2 := HLk.out; rw [HNX.out] at h2; simp only [lnA, lnN] at h2 ⊢; omega)).mono ?_
   rintro e v1 ⟨rfl, hp2, hq2⟩
   have HP2 := hidp hp2
   have HQ2 := hidp (Qp.trans HQ1.out hq2)
   have z2 : bp ≤ v1.heap.size := Qp.le hq2 hzW
   clear hp2 hq2
   go_wp2_with fail
   exact ⟨⟨k + 1, by omega, by go_num, hidp (by have := HP2.out; rw [HNX.out]; simpa only [List.append_assoc] using this), HQ2.out⟩, by simp [intOf]; omega⟩
  ·have HE : Hid (PrAt bp bp (([] : List UInt8) ++ (es.map (fun x => x.2)).flatten) wr) := by have := HR.out; rw [List.take_of_length_le (by simp; omega)] at this; exact this
   have hzr : bp ≤ wr.heap.size := Qp.le HQ.out hsz
   clear HR
   have HE2 : Hid (PrAt bp bp tt wr) := by have := HE.out; rw [HT.out, List.nil_append] at this; exact this
   have HNE : Hid (tt ≠ []) := by rw [← HT.out]; exact HPOS.out
   go_wp2_with fail
   refine (str_some HE2.out HNE.out).mono ?_
   rintro e v9 ⟨rfl, hb9⟩
   have HB9 := hidp ((HB.out.trans HQ.out.1).trans hb9)
   have hlt : ws.heap.size < bp := by have := HBP.out; omega
   have t0 : v9.cell? ⟨ws.heap.size, 0, none⟩ = some (.string ⟨#[]⟩) := (HB9.out.cell (p := ⟨ws.heap.size, 0, none⟩) hlt).trans (by rw [cell_of HC0.out]; rfl)
   have t1 : v9.frozen? ⟨ws.heap.size, 0, none⟩ = false := (HB9.out.frozen (p := ⟨ws.heap.size, 0, none⟩) hlt).trans (by simp [World.frozen?, HC0.out])
   clear hb9
   go_wp2_with fail
   refine leaves_cons (f := 11) (args := #[.pointer (some ⟨ws.heap.size, 0, none⟩)]) (by simp) (by simp [go_sem]) ?_
   refine (catch_idle ⟨ws.heap.size, 0, none⟩ _).mono ?_
   rintro e u' w'' ⟨rfl, rfl, rfl⟩
   have HF : Hid (Below ws.heap.size ws (v9.setCell ⟨ws.heap.size, 0, none⟩ (.string (bs tt)))) := (HB0.out.trans (HB9.out.mono (by have := HBP.out; omega))).setCell (p := ⟨ws.heap.size, 0, none⟩) (Nat.le_refl _) _
   simp [Leaves, settle, results, Tryz.results7, go_sem, t0]
   exact HF.out
theorem print_nil (ws : World) : Calls Tryz.prog 7 #[.slice none 0 0] ws fun e w' => e = .returned (.string (bs [])) ∧ Below ws.heap.size ws w' := by
 have hmf : ∀ (fn : Fn) (first cap : Array Value) (w : World), (Instr.makeFunc fn first cap).run Tryz.prog w = .ok (.func fn first cap) w := fun _ _ _ _ => rfl
 go_enter_defers Tryz.func7, Tryz.ntmps7
 go_wp2_with fail
 have HB0 : Hid (Below ws.heap.size ws (ws.alloc (.cells #[.string ⟨#[]⟩] 9))) := (Below.refl _ _).alloc (Nat.le_refl _) _
 have HC0 := hidp (heap_new ws (.cells #[.string ⟨#[]⟩] 9))
 have hs0 : (ws.alloc (.cells #[.string ⟨#[]⟩] 9)).heap.size = ws.heap.size + 1 := by simp
 generalize hW0 : ws.alloc (.cells #[.string ⟨#[]⟩] 9) = w0 at *
 clear hW0
 generalize hW : w0.alloc (.cells #[.pointer none, .slice none 0 0] 47) = w
 have HK : Hid (w.heap[ws.heap.size + 1]? = some (.cells #[.pointer none, .slice none 0 0] 47)) := by show _ = _; rw [← hW, ← hs0]; exact heap_new _ _
 have HB : Hid (Below (ws.heap.size + 1) w0 w) := by rw [← hW]; exact (Below.refl _ _).alloc (by rw [hs0]; exact Nat.le_refl _) _
 clear hW hs0
 go_loopw [5, 9] (fun _ i w' => i = .int .i64 0 ∧ w' = w) (fun _ _ _ => 0)
 case atStart => exact ⟨rfl, rfl⟩
 case round =>
  obtain ⟨rfl, rfl⟩ := hrel
  go_wp2_with fail
  refine (str_nil (ws.heap.size + 1) _ _ _ HK.out).mono ?_
  rintro e v9 ⟨rfl, hb9⟩
  have HB9 := hidp (HB.out.trans hb9)
  have hlt : ws.heap.size < ws.heap.size + 1 := by omega
  have t0 : v9.cell? ⟨ws.heap.size, 0, none⟩ = some (.string ⟨#[]⟩) := (HB9.out.cell (p := ⟨ws.heap.size, 0, none⟩) hlt).trans (by rw [cell_of HC0.out]; rfl)
  have t1 : v9.frozen? ⟨ws.heap.size, 0, none⟩ = false := (HB9.out.frozen (p := ⟨ws.heap.size, 0, none⟩) hlt).trans (by simp [World.frozen?, HC0.out])
  clear hb9
  go_wp2_with fail
  refine leaves_cons (f := 11) (args := #[.pointer (some ⟨ws.heap.size, 0, none⟩)]) (by simp) (by simp [go_sem]) ?_
  refine (catch_idle ⟨ws.heap.size, 0, none⟩ _).mono ?_
  rintro e u' w'' ⟨rfl, rfl, rfl⟩
  have HF : Hid (Below ws.heap.size ws (v9.setCell ⟨ws.heap.size, 0, none⟩ (.string ⟨#[]⟩))) := (HB0.out.trans (HB9.out.mono (by omega))).setCell (p := ⟨ws.heap.size, 0, none⟩) (Nat.le_refl _) _
  simp [Leaves, settle, results, Tryz.results7, go_sem, t0]
  exact ⟨rfl, HF.out⟩
end Go.Proofs.YtimmmlnememjiaaGreatDoor
namespace Go.Proofs
open Go.Shelf
def Tryz.lays283_ren : Go.Shelf.Ren := ⟨fun | 283 => 96 | n => n, fun | 3 => 3 | 9 => 9 | 4 => 4 | n => n, fun | n => n⟩
theorem Tryz.lays283 : Go.Proofs.Lays.n283 Tryz.prog Tryz.lays283_ren := {
 mixed := by kernel_rfl
 f283 := Tryz.func96.trans (congrArg some (by kernel_rfl))
 t3 := Tryz.underlying3
 a3 := Tryz.isAgg3
 z3 := Tryz.sizeOf3
 v3 := Tryz.zeroValue3
 t4 := Tryz.underlying4
 a4 := Tryz.isAgg4
 z4 := Tryz.sizeOf4
 v4 := Tryz.zeroValue4
 t9 := Tryz.underlying9
 a9 := Tryz.isAgg9
 z9 := Tryz.sizeOf9
 v9 := Tryz.zeroValue9 }
open Go.Lib in
theorem Tryz.internal_strconv_small (i : Nat) (h : i < 100) (w : World) :
  Calls Tryz.prog 96 #[.int .i64 i] w fun e w' => e = .returned (.string ⟨(Lib.decDigits i).toArray⟩) ∧ w' = w := Any.internal_strconv_small Tryz.lays283 i h w
def Tryz.laysM284_ren : Go.Shelf.Ren := ⟨fun | 284 => 97 | 129 => 101 | 317 => 100 | 318 => 102 | n => n, fun | 53 => 31 | 3 => 3 | 212 => 144 | 0 => 0 | 4 => 4 | 46 => 148 | 5 => 5 | 9 => 9 | n => n, fun | 17 => 2 | n => n⟩
theorem Tryz.laysM284 : Go.Proofs.LaysM.n284 Tryz.prog Tryz.laysM284_ren := {
 mixed := by kernel_rfl
 f129 := Tryz.func101.trans (congrArg some (by kernel_rfl))
 f284 := Tryz.func97.trans (congrArg some (by kernel_rfl))
 f317 := Tryz.func100.trans (congrArg some (by kernel_rfl))
 f318 := Tryz.func102.trans (congrArg some (by kernel_rfl))
 t0 := Tryz.underlying0
 a0 := Tryz.isAgg0
 z0 := Tryz.sizeOf0
 v0 := Tryz.zeroValue0
 t3 := Tryz.underlying3
 a3 := Tryz.isAgg3
 z3 := Tryz.sizeOf3
 v3 := Tryz.zeroValue3
 t4 := Tryz.underlying4
 a4 := Tryz.isAgg4
 z4 := Tryz.sizeOf4
 v4 := Tryz.zeroValue4
 t5 := Tryz.underlying5
 a5 := Tryz.isAgg5
 z5 := Tryz.sizeOf5
 v5 := Tryz.zeroValue5
 t9 := Tryz.underlying9
 a9 := Tryz.isAgg9
 z9 := Tryz.sizeOf9
 v9 := Tryz.zeroValue9
 t46 := Tryz.underlying148
 a46 := Tryz.isAgg148
 z46 := Tryz.sizeOf148
 v46 := Tryz.zeroValue148
 t53 := Tryz.underlying31
 a53 := Tryz.isAgg31
 z53 := Tryz.sizeOf31
 v53 := Tryz.zeroValue31
 t212 := Tryz.underlying144
 a212 := Tryz.isAgg144
 z212 := Tryz.sizeOf144
 v212 := Tryz.zeroValue144
 g17 := by kernel_rfl
 i0 := by kernel_rfl
 i3 := by kernel_rfl
 i4 := by kernel_rfl
 i5 := by kernel_rfl
 i9 := by kernel_rfl
 i46 := by kernel_rfl
 i53 := by kernel_rfl
 i212 := by kernel_rfl
 m17 := by kernel_rfl }
open Go.Lib in
theorem Tryz.internal_strconv_numDigits (u : Nat) (h1 : 1 ≤ u) (h2 : u < 18446744073709551616) (w : World) (htab : Lib.TabIs Tryz.prog w "internal/strconv.uint64pow10" .u64 Lib.pow10Tab) :
  Calls Tryz.prog 97 #[.int .u64 u] w fun e w' => e = .returned (.int .i64 (Lib.nDigits u)) ∧ w' = w := Any.internal_strconv_numDigits Tryz.laysM284 u h1 h2 w htab
def Tryz.lays285_ren : Go.Shelf.Ren := ⟨fun | 285 => 98 | n => n, fun | 37 => 43 | 53 => 31 | 3 => 3 | 4 => 4 | 51 => 145 | 9 => 9 | 5 => 5 | 0 => 0 | n => n, fun | n => n⟩
theorem Tryz.lays285 : Go.Proofs.Lays.n285 Tryz.prog Tryz.lays285_ren := {
 mixed := by kernel_rfl
 f285 := Tryz.func98.trans (congrArg some (by kernel_rfl))
 t0 := Tryz.underlying0
 a0 := Tryz.isAgg0
 z0 := Tryz.sizeOf0
 v0 := Tryz.zeroValue0
 t3 := Tryz.underlying3
 a3 := Tryz.isAgg3
 z3 := Tryz.sizeOf3
 v3 := Tryz.zeroValue3
 t4 := Tryz.underlying4
 a4 := Tryz.isAgg4
 z4 := Tryz.sizeOf4
 v4 := Tryz.zeroValue4
 t5 := Tryz.underlying5
 a5 := Tryz.isAgg5
 z5 := Tryz.sizeOf5
 v5 := Tryz.zeroValue5
 t9 := Tryz.underlying9
 a9 := Tryz.isAgg9
 z9 := Tryz.sizeOf9
 v9 := Tryz.zeroValue9
 t37 := Tryz.underlying43
 a37 := Tryz.isAgg43
 z37 := Tryz.sizeOf43
 v37 := Tryz.zeroValue43
 t51 := Tryz.underlying145
 a51 := Tryz.isAgg145
 z51 := Tryz.sizeOf145
 v51 := Tryz.zeroValue145
 t53 := Tryz.underlying31
 a53 := Tryz.isAgg31
 z53 := Tryz.sizeOf31
 v53 := Tryz.zeroValue31 }
open Go.RowKit Go.Sort Go.Lib in
theorem Tryz.internal_strconv_formatBase10 (blk off cap : Nat) (u : Nat) (d : Array UInt8) (w : World) (hH : Holds (fun (b : UInt8) => Value.int .u8 (b.toNat : Int)) w blk off d) (hu : u < 10 ^ d.size) (hu64 : u < 18446744073709551616) (hsz : d.size < 4611686018427387904) :
  Calls Tryz.prog 98 #[.slice (some ⟨blk, off, none⟩) d.size cap, .int .u64 u] w fun e w' =>
   e = .returned (.tuple #[]) ∧ ∃ (n v' : Nat) (dk : Array UInt8), w' = (putRow (fun (b : UInt8) => Value.int .u8 (b.toNat : Int)) w blk off dk).drewN n ∧ FmtInv d.size u 0 v' dk := Any.internal_strconv_formatBase10 Tryz.lays285 blk off cap u d w hH hu hu64 hsz
def Tryz.lays171_ren : Go.Shelf.Ren := ⟨fun | 171 => 88 | 243 => 93 | 246 => 95 | 283 => 96 | 284 => 97 | 285 => 98 | 286 => 99 | 129 => 101 | 317 => 100 | 318 => 102 | 319 => 103 | 320 => 104 | 337 => 105 | 338 => 106 | n => n, fun | 3 => 3 | 9 => 9 | 2 => 2 | 4 => 4 | 171 => 137 | 0 => 0 | 53 => 31 | 37 => 43 | 5 => 5 | 173 => 140 | 212 => 144 | 51 => 145 | 20 => 20 | 213 => 146 | 46 => 148 | 232 => 151 | 233 => 152 | n => n, fun | 17 => 2 | 18 => 3 | 19 => 4 | n => n⟩
theorem Tryz.lays171 : Go.Proofs.Lays.n171 Tryz.prog Tryz.lays171_ren := {
 mixed := by kernel_rfl
 f129 := Tryz.func101.trans (congrArg some (by kernel_rfl))
 f171 := Tryz.func88.trans (congrArg some (by kernel_rfl))
 f243 := Tryz.func93.trans (congrArg some (by kernel_rfl))
 f246 := Tryz.func95.trans (congrArg some (by kernel_rfl))
 f283 := Tryz.func96.trans (congrArg some (by kernel_rfl))
 f284 := Tryz.func97.trans (congrArg some (by kernel_rfl))
 f285 := Tryz.func98.trans (congrArg some (by kernel_rfl))
 f286 := Tryz.func99.trans (congrArg some (by kernel_rfl))
 f317 := Tryz.func100.trans (congrArg some (by kernel_rfl))
 f318 := Tryz.func102.trans (congrArg some (by kernel_rfl))
 f319 := Tryz.func103.trans (congrArg some (by kernel_rfl))
 f320 := Tryz.func104.trans (congrArg some (by kernel_rfl))
 f337 := Tryz.func105.trans (congrArg some (by kernel_rfl))
 f338 := Tryz.func106.trans (congrArg some (by kernel_rfl))
 t0 := Tryz.underlying0
 a0 := Tryz.isAgg0
 z0 := Tryz.sizeOf0
 v0 := Tryz.zeroValue0
 t2 := Tryz.underlying2
 a2 := Tryz.isAgg2
 z2 := Tryz.sizeOf2
 v2 := Tryz.zeroValue2
 t3 := Tryz.underlying3
 a3 := Tryz.isAgg3
 z3 := Tryz.sizeOf3
 v3 := Tryz.zeroValue3
 t4 := Tryz.underlying4
 a4 := Tryz.isAgg4
 z4 := Tryz.sizeOf4
 v4 := Tryz.zeroValue4
 t5 := Tryz.underlying5
 a5 := Tryz.isAgg5
 z5 := Tryz.sizeOf5
 v5 := Tryz.zeroValue5
 t9 := Tryz.underlying9
 a9 := Tryz.isAgg9
 z9 := Tryz.sizeOf9
 v9 := Tryz.zeroValue9
 t20 := Tryz.underlying20
 a20 := Tryz.isAgg20
 z20 := Tryz.sizeOf20
 v20 := Tryz.zeroValue20
 t37 := Tryz.underlying43
 a37 := Tryz.isAgg43
 z37 := Tryz.sizeOf43
 v37 := Tryz.zeroValue43
 t46 := Tryz.underlying148
 a46 := Tryz.isAgg148
 z46 := Tryz.sizeOf148
 v46 := Tryz.zeroValue148
 t51 := Tryz.underlying145
 a51 := Tryz.isAgg145
 z51 := Tryz.sizeOf145
 v51 := Tryz.zeroValue145
 t53 := Tryz.underlying31
 a53 := Tryz.isAgg31
 z53 := Tryz.sizeOf31
 v53 := Tryz.zeroValue31
 t171 := Tryz.underlying137
 a171 := Tryz.isAgg137
 z171 := Tryz.sizeOf137
 v171 := Tryz.zeroValue137
 t173 := Tryz.underlying140
 a173 := Tryz.isAgg140
 z173 := Tryz.sizeOf140
 v173 := Tryz.zeroValue140
 t212 := Tryz.underlying144
 a212 := Tryz.isAgg144
 z212 := Tryz.sizeOf144
 v212 := Tryz.zeroValue144
 t213 := Tryz.underlying146
 a213 := Tryz.isAgg146
 z213 := Tryz.sizeOf146
 t232 := Tryz.underlying151
 a232 := Tryz.isAgg151
 z232 := Tryz.sizeOf151
 v232 := Tryz.zeroValue151
 t233 := Tryz.underlying152
 a233 := Tryz.isAgg152
 z233 := Tryz.sizeOf152
 v233 := Tryz.zeroValue152
 g17 := by kernel_rfl
 g18 := by kernel_rfl
 g19 := by kernel_rfl }
open Go.RowKit Go.Sort Go.Lib in
theorem Tryz.strconv_Itoa_small (i : Nat) (hi : i < 100) (w : World) :
  Calls Tryz.prog 88 #[.int .i64 i] w fun e w' => e = .returned (.string ⟨(Lib.decDigits i).toArray⟩) ∧ w' = w := Any.strconv_Itoa_small Tryz.lays171 i hi w
end Go.Proofs
namespace Go.Proofs.YtimmmlnememjiaaGreatDoor
open Go.RowKit Go.Sort
theorem dec_same (u : Nat) : Lib.decDigits u = decTxt u := rfl
theorem pow10g : Tryz.prog.globalNamed "internal/strconv.uint64pow10" = some 2 := by kernel_rfl
theorem tab_keep {B : Nat} {w w' : World} (h : Lib.TabIs Tryz.prog w "internal/strconv.uint64pow10" .u64 Lib.pow10Tab) (hb : Below B w w') (hB : 2 < B) : Lib.TabIs Tryz.prog w' "internal/strconv.uint64pow10" .u64 Lib.pow10Tab := by
 unfold Lib.TabIs World.var? at *
 rw [pow10g] at *
 simp only [Option.bind_some] at *
 rw [hb.block 2 hB]; exact h
theorem wrap_i64_id (x : Int) (h0 : 0 ≤ x) (h1 : x < 4294967296) : IntKind.i64.wrap x = x := by
 rw [IntKind.wrap_i64]; omega
theorem fmt94 (u : Nat) (hu : u < 4294967296) (w : World) (htab : Lib.TabIs Tryz.prog w "internal/strconv.uint64pow10" .u64 Lib.pow10Tab) :
  Calls Tryz.prog 94 #[.int .u64 u, .int .i64 10] w fun e w' => e = .returned (.string (bs (decTxt u))) ∧ ∃ k os, w' = grow (w.drewN k) os := by
 by_cases hi : u < 100
 ·have hwr := wrap_i64_id (u : Int) (by omega) (by omega)
  go_enter Tryz.func94, Tryz.ntmps94
  go_wp2_with (go_at_call 96; refine (Tryz.internal_strconv_small u hi _).mono ?_; rintro e w' ⟨rfl, rfl⟩)
  go_ret
  exact ⟨by rw [dec_same]; rfl, 0, #[], by simp [World.drewN_zero]⟩
 ·have hu1 : 1 ≤ u := by omega
  have hu64 : u < 18446744073709551616 := by omega
  have hnd20 : Lib.nDigits u ≤ 20 := by have := Lib.numDigits_eq u hu1 hu64; split at this <;> omega
  have hb3 : Lib.nDigits u ≤ 23 := by omega
  have hal : Tryz.prog.arrayLen 137 = 24 := by kernel_rfl
  have hsl1 : ∀ W, (Instr.sliceAt 137 (.pointer (some ⟨w.heap.size, 0, none⟩)) none (some (.int .i64 (Lib.nDigits u : Int))) none).run Tryz.prog W = .ok (.slice (some ⟨w.heap.size, 0, none⟩) (Lib.nDigits u) 24) W := fun W => by
   rw [run_sliceAt_array_h W 137 ⟨w.heap.size, 0, none⟩ (by kernel_rfl) .i64 (Lib.nDigits u : Int) (by omega) (by rw [hal]; omega)]
   go_simp
  have hH0 := Lib.holds_zero0 w 137 (Lib.nDigits u) (by omega)
  have hfmt := Tryz.internal_strconv_formatBase10 w.heap.size 0 24 u (Array.replicate (Lib.nDigits u) 0) (w.alloc (.cells Lib.zeros24 137)) hH0 (by rw [Array.size_replicate]; exact Lib.lt_pow_nDigits u) hu64 (by rw [Array.size_replicate]; omega)
  rw [Array.size_replicate] at hfmt
  have HH0 := hidp hH0
  have HTB := hidp htab
  clear hH0 hal htab
  go_enter Tryz.func94, Tryz.ntmps94
  go_wp2_with (first | (go_at_call 97; refine (Tryz.internal_strconv_numDigits u hu1 hu64 _ (Lib.tabIs_alloc HTB.out _)).mono ?_; rintro e w' ⟨rfl, rfl⟩))
  refine hfmt.mono ?_
  rintro e w' ⟨rfl, k, v', dk, rfl, hF⟩
  have hcv : (convert 43 9 (.slice (some ⟨w.heap.size, 0, none⟩) (Lib.nDigits u) 24)).run Tryz.prog ((putRow (fun (b : UInt8) => Value.int .u8 (b.toNat : Int)) (w.alloc (.cells Lib.zeros24 137)) w.heap.size 0 dk).drewN k) = .ok (.string ⟨(Lib.decDigits u).toArray⟩) ((putRow (fun (b : UInt8) => Value.int .u8 (b.toNat : Int)) (w.alloc (.cells Lib.zeros24 137)) w.heap.size 0 dk).drewN k) := by
   have h := run_convert_bytes_back (P := Tryz.prog) ((putRow (fun (b : UInt8) => Value.int .u8 (b.toNat : Int)) (w.alloc (.cells Lib.zeros24 137)) w.heap.size 0 dk).drewN k) 43 9 5 ⟨w.heap.size, 0, none⟩ 24 (Lib.decDigits u) Tryz.underlying43 Tryz.underlying5 Tryz.underlying9 (fun j hj => by
    rw [Lib.row_is_numeral hF j hj, Lib.add_plain, World.cell?_drewN]
    exact cell?_putRow (fun (b : UInt8) => Value.int .u8 (b.toNat : Int)) _ w.heap.size 0 _ dk HH0.out (by rw [hF.size, Array.size_replicate]) j (by rw [hF.size]; rw [Lib.decDigits_length] at hj; exact hj))
   rw [Lib.decDigits_length] at h
   exact h
  obtain ⟨os, eo⟩ := Lib.fin_at w (.cells Lib.zeros24 137) dk k 0
  have HEO := hidp eo
  clear HH0 hF eo hfmt
  go_wp2_with fail
  go_ret
  exact ⟨by rw [dec_same]; rfl, k, os, HEO.out⟩
theorem fmt89 (u : Nat) (hu : u < 4294967296) (w : World) (htab : Lib.TabIs Tryz.prog w "internal/strconv.uint64pow10" .u64 Lib.pow10Tab) :
  Calls Tryz.prog 89 #[.int .u64 u, .int .i64 10] w fun e w' => e = .returned (.string (bs (decTxt u))) ∧ ∃ k os, w' = grow (w.drewN k) os := by
 have H := hidp (fmt94 u hu w htab)
 clear htab
 go_enter Tryz.func89, Tryz.ntmps89
 go_wp2_with fail
 refine H.out.mono ?_
 rintro e w' ⟨rfl, k, os, rfl⟩
 go_wp2_with fail
 go_ret
 exact ⟨rfl, k, os, rfl⟩
theorem prat_grow {B bp : Nat} {tx : List UInt8} {w : World} (h : PrAt B bp tx w) (k : Nat) (os : Array Obj) : PrAt B bp tx (grow (w.drewN k) os) := by
 have hl := h.lt
 obtain ⟨h0, p, v, h1, hb, ho, hn⟩ := h
 exact ⟨h0, p, v, h1, (Lib.heap_grow_old w k os bp hl).trans hb, Lib.ownsRow_grow ho k os, hn⟩
theorem qp_grow {B bp : Nat} {w : World} (hB : B ≤ w.heap.size) (k : Nat) (os : Array Obj) : Qp B bp w (grow (w.drewN k) os) :=
 ⟨Lib.below_grow B w hB k os, fun g o hg _ _ => by
  have hl : g < w.heap.size := by
   rcases Nat.lt_or_ge g w.heap.size with h' | h'
   ·exact h'
   ·simp [Array.getElem?_eq_none h'] at hg
  exact (Lib.heap_grow_old w k os g hl).trans hg⟩
theorem fmt_vals {B bp : Nat} {w0 : World} (hB : 2 < B) (ht : Lib.TabIs Tryz.prog w0 "internal/strconv.uint64pow10" .u64 Lib.pow10Tab) (n : Int) (h0 : 0 ≤ n) (h1 : n < 4294967296) : Vals B bp w0 89 #[.int .u64 n, .int .i64 10] (decTxt n.toNat) := fun w tx hb hz hp => by
 obtain ⟨u, rfl⟩ : ∃ u : Nat, n = u := ⟨n.toNat, by omega⟩
 refine (fmt89 u (by omega) w (tab_keep ht hb hB)).mono ?_
 rintro e w' ⟨rfl, k, os, rfl⟩
 exact ⟨rfl, prat_grow hp k os, qp_grow hz k os⟩
theorem itoa_vals {B bp : Nat} {w0 : World} (wd : Int) (h0 : 1 ≤ wd) (h1 : wd ≤ 32) : Vals B bp w0 88 #[.int .i64 wd] (decTxt wd.toNat) := fun w tx hb hz hp => by
 obtain ⟨u, rfl⟩ : ∃ u : Nat, wd = u := ⟨wd.toNat, by omega⟩
 refine (Tryz.strconv_Itoa_small u (by omega) w).mono ?_
 rintro e w' ⟨rfl, rfl⟩
 exact ⟨by rw [dec_same]; rfl, hp, Qp.refl _ _ _⟩
theorem cell_new {w : World} {a : Addr} {v : Value} (o : Obj) (h : w.cell? a = some v) : (w.alloc o).cell? a = some v := by
 rw [World.cell?_alloc_lt _ _ _ (World.block_lt_of_cell? w _ h)]; exact h
theorem PM.pos {S : Nat → Prop} {w : World} {cs : List Value} {t : List UInt8} (h : PM S w cs t) : 1 ≤ t.length := by
 obtain ⟨nm, a, vp, vq, vi, ps, qs, es, rfl, r1, p1, r2, p2, r3, p3, rfl⟩ := h
 simp only [modTxt, lnA, lnC]; omega
theorem print_any {S : Nat → Prop} {w : World} (hS : ∀ b, S b → b < w.heap.size) (h3 : 3 ≤ w.heap.size) (ht : Tabs w) (hp : Lib.TabIs Tryz.prog w "internal/strconv.uint64pow10" .u64 Lib.pow10Tab)
  {v : Value} {ms : List ModD} (hr : RowOf S w 5 v (ms.map (fun x : ModD => x.1))) (hm : ∀ x ∈ ms, PM S w x.1 x.2) (hl : (ms.map (fun x : ModD => x.2)).flatten.length ≤ 400000000000) :
  Calls Tryz.prog 7 #[v] w (StrPost (ms.map (fun x : ModD => x.2)).flatten w) := by
 by_cases hn : ms = []
 ·subst hn
  rcases hr with ⟨rfl, _⟩ | ⟨b, cap, _, _, _, hne, _⟩
  ·exact print_nil w
  ·exact absurd rfl hne
 ·have keep : ∀ b o u, S b → w.cell? ⟨b, o, none⟩ = some u → (w.alloc (.cells #[.string ⟨#[]⟩] 9)).cell? ⟨b, o, none⟩ = some u := fun b o u _ h => cell_new _ h
  have en : PEnv S (w.heap.size + 1) (w.heap.size + 1) (w.alloc (.cells #[.string ⟨#[]⟩] 9)) :=
   { lt := fun b h => Nat.lt_succ_of_lt (hS b h), two := by omega, tabs := ⟨fun k hk => ⟨cell_new _ (ht.1 k hk).1, cell_new _ (ht.1 k hk).2⟩, fun k hk => ⟨cell_new _ (ht.2 k hk).1, cell_new _ (ht.2 k hk).2⟩⟩, itoa := fun wd h0 h1 => itoa_vals wd h0 h1, fmt := fun n h0 h1 => fmt_vals (by omega) (Lib.tabIs_alloc hp _) n h0 h1 }
  have hr1 := hr.mono (fun _ h => h) keep
  have hm1 : ∀ x ∈ ms, PM S (w.alloc (.cells #[.string ⟨#[]⟩] 9)) x.1 x.2 := fun x hx => elM.mono (x := x) (fun _ h => h) keep (hm x hx)
  obtain ⟨pa, b, cap, rfl, hpa, hc⟩ := hr1.slice en.lt
  have hlm : (ms.map (fun x : ModD => x.1)).length = ms.length := List.length_map _
  rw [hlm]
  have hcnt := flat_pos (ms.map (fun x : ModD => x.2)) (fun t ht => by
   obtain ⟨d, hd, rfl⟩ := List.mem_map.1 ht
   exact (hm d hd).pos)
  rw [List.length_map] at hcnt
  have hpos : 0 < ms.length := List.length_pos_iff.2 hn
  refine print_core w ms pa b cap (fun h => hpa (by simpa using h)) (by omega) (fun i x hi => ?_) (fun i x hi => ?_) (Nat.le_trans hl (by decide)) (fun e => by have hz : (ms.map (fun x : ModD => x.2)).flatten.length = 0 := congrArg List.length e; omega)
  ·obtain ⟨h5, h1⟩ := (hm1 x (List.mem_of_getElem? hi)).one
   exact ⟨h5, h1, (hc i x.1 (by rw [List.getElem?_map, hi]; rfl)).2⟩
  ·have := qflat_mem (l := ms.map (fun x : ModD => x.2)) (t := x.2) (List.mem_map_of_mem (List.mem_of_getElem? hi))
   exact qModule en (hm1 x (List.mem_of_getElem? hi)) (by omega)
end Go.Proofs.YtimmmlnememjiaaGreatDoor
