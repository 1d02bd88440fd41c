import Derived.Test.YtimmmlnememjiaaGreatDoorX
import Derived.Test.YtimmmlnememjiaaGreatDoorX29
set_option maxRecDepth 100000
set_option maxHeartbeats 16000000
namespace Go.Proofs.YtimmmlnememjiaaGreatDoor
open Go.RowKit
theorem mod_text0 (w1 : World) (nm : List UInt8) (zn : nm.length ≤ 1000000000000) (aa : Int) (pa : Option Addr) (b cap : Nat) (ps : List BindD) (_hpa : Hid (ps ≠ [] → pa = some ⟨b, 0, none⟩ ∧ b < w1.heap.size)) (hp0 : Hid (ps = [])) (hlen : ps.length ≤ 2000000000000) (z : (commaTxt (ps.map paramTxt)).length ≤ 1000000000000) (qa : Option Addr) (d capq : Nat) (qs : List PortD) (hqa : Hid (qs ≠ [] → qa = some ⟨d, 0, none⟩ ∧ d < w1.heap.size)) (hlq : qs.length ≤ 2000000000000) (zq : (commaTxt (qs.map portTxt)).length ≤ 1000000000000) (ia : Option Addr) (il ic : Nat) (ti : List UInt8) (zi : ti.length ≤ 1000000000000)
  (ihi : Hid (∀ w', Below w1.heap.size w1 w' → Calls Tryz.prog 31 #[.slice ia il ic] w' (StrPost ti w')))
  (hql : Hid (∀ (i : Nat) (x : PortD), qs[i]? = some x → ∃ (a : Int) (rg : List Value), x.cs = .string (bs x.nm) :: .int .i64 a :: .bool x.out :: .bool x.reg :: rg ∧ rg.length = 15 ∧ (∀ v ∈ x.cs, v.oneCell' = true)))
  (hqe : Hid (∀ (i : Nat) (x : PortD), qs[i]? = some x → ∀ (j : Nat) (v : Value), x.cs[j]? = some v → w1.cell? ⟨d, i * 19 + j, none⟩ = some v))
  (ihq : Hid (∀ (i : Nat) (x : PortD), qs[i]? = some x → ∀ w', Below w1.heap.size w1 w' → Calls Tryz.prog 30 #[.agg (x.cs.drop 4).toArray] w' (StrPost x.tr w')))
  (_hel : Hid (∀ (i : Nat) (x : BindD), ps[i]? = some x → ∃ (a k0 a0 op0 wd0 n0 : Int) (nm0 : ByteArray) (sl0 : Value), x.cs = [.string (bs x.nm), .int .i64 a, .bool x.gv, .int .i64 k0, .int .i64 a0, .int .i64 op0, .int .i64 wd0, .int .u64 n0, .string nm0, sl0]))
  (_hce : Hid (∀ (i : Nat) (x : BindD), ps[i]? = some x → ∀ (j : Nat) (v : Value), x.cs[j]? = some v → w1.cell? ⟨b, i * 10 + j, none⟩ = some v))
  (_ih : Hid (∀ (i : Nat) (x : BindD), ps[i]? = some x → ∀ w', Below w1.heap.size w1 w' → Calls Tryz.prog 29 #[.agg (x.cs.drop 3).toArray] w' (StrPost x.te w'))) :
  Calls Tryz.prog 14 #[.agg #[.string (bs nm), .int .i64 aa, .slice pa ps.length cap, .slice qa qs.length capq, .slice ia il ic]] w1 (StrPost (modTxt nm ps qs ti) w1) := by
 obtain ⟨x1, H1, l1, s1⟩ := add_to ⟨#[109, 111, 100, 117, 108, 101, 32]⟩ (bs nm) [109, 111, 100, 117, 108, 101, 32] nm rfl rfl (by simp only [lnC, lnN]; omega)
 obtain ⟨x2, H2, l2, s2⟩ := add_to (bs x1) ⟨#[32]⟩ x1 [32] rfl rfl (by simp only [lnC, lnN] at l1 ⊢; omega)
 have hx2 : x2.length ≤ 1000000000010 := by simp only [lnC, lnN] at l1 l2; omega
 have HX2 : Hid (x2 = [109, 111, 100, 117, 108, 101, 32] ++ nm ++ [32]) := by show x2 = _; rw [H2.out, H1.out]
 clear H1 l1 H2 l2
 go_enter Tryz.func14, Tryz.ntmps14
 go_wp2_with fail
 generalize hW : w1.alloc (.cells #[.string (bs nm), .int .i64 aa, .slice pa ps.length cap, .slice qa qs.length capq, .slice ia il ic] 40) = W
 have HB : Hid (Below w1.heap.size w1 W) := by rw [← hW]; exact (Below.refl _ _).alloc (Nat.le_refl _) _
 have hlt : w1.heap.size < W.heap.size := by rw [← hW]; simp
 have QW : Hid (∀ o, W.cell? ⟨w1.heap.size, o, none⟩ = (#[.string (bs nm), .int .i64 aa, .slice pa ps.length cap, .slice qa qs.length capq, .slice ia il ic] : Array Value)[o]?) := by rw [← hW]; intro o; simp
 clear hW
 go_loopw [3, 4] (fun s i w' => ∃ (k : Nat) (l : List UInt8), k ≤ ps.length ∧ i = .int .i64 k ∧ s = .string (bs l) ∧ Hid (l = x2 ++ parTxt ps k) ∧ Hid (Below W.heap.size W w')) (fun _ i _ => ps.length - (intOf i).toNat)
 case atStart => exact ⟨0, x2, Nat.zero_le _, rfl, rfl, by show _ = _; simp [parTxt], Below.refl _ _⟩
 case round =>
  obtain ⟨k, l, hk, rfl, rfl, HL, HBr⟩ := hrel
  have q2 : wr.cell? ⟨w1.heap.size, 2, none⟩ = some (.slice pa ps.length cap) := (HBr.out.cell (p := ⟨w1.heap.size, 2, none⟩) hlt).trans (QW.out 2)
  have hl : l.length ≤ 2000000000020 := by
   rw [HL.out]; simp only [lnA, parTxt]
   split
   ·simp only [lnN]; omega
   ·simp only [lnA, lnC, lnN]
    have := commaTxt_take (ps.map paramTxt) k; omega
  by_cases hlt2 : k < ps.length
  ·exfalso; rw [hp0.out] at hlt2; simp at hlt2
  ·have hkk : k = ps.length := by omega
   subst hkk
   obtain ⟨u1, G1, m1, q21⟩ := add_to (bs l) (⟨#[40]⟩) l [40] rfl rfl (by (try simp only [lnC, lnN] at *); omega)
   obtain ⟨yy, HY⟩ : ∃ yy, yy = u1 := ⟨_, rfl⟩
   have HYT : Hid (yy = x2 ++ hashTxt (ps.map paramTxt) ++ [40]) := by
    show yy = _; rw [HY, G1.out, HL.out]; simp [parTxt, hashTxt, hp0.out]
   have hyl : yy.length ≤ 3000000000000 := by rw [HY]; (try simp only [lnC, lnN] at *); omega
   rw [← HY] at q21
   clear G1 m1 HY
   have hgt : ¬ (0 : Int) < (ps.length : Int) := by rw [hp0.out]; simp
   go_wp2_with fail
   clear HL q2 hl hk hgt
   obtain ⟨wo, hwo⟩ : ∃ x, x = wr := ⟨_, rfl⟩
   subst hwo
   go_loopw [3, 5] (fun s i w' => ∃ (k : Nat) (l : List UInt8), k ≤ qs.length ∧ i = .int .i64 k ∧ s = .string (bs l) ∧ Hid (l = yy ++ commaTxt ((qs.map portTxt).take k)) ∧ Hid (Below W.heap.size W w')) (fun _ i _ => qs.length - (intOf i).toNat)
   case atStart => exact ⟨0, yy, Nat.zero_le _, rfl, rfl, by show _ = _; simp [commaTxt], HBr.out⟩
   case round =>
    obtain ⟨k, l, hk, rfl, rfl, HL, HBr⟩ := hrel
    have q3 : wr.cell? ⟨w1.heap.size, 3, none⟩ = some (.slice qa qs.length capq) := (HBr.out.cell (p := ⟨w1.heap.size, 3, none⟩) hlt).trans (QW.out 3)
    have q4 : wr.cell? ⟨w1.heap.size, 4, none⟩ = some (.slice ia il ic) := (HBr.out.cell (p := ⟨w1.heap.size, 4, none⟩) hlt).trans (QW.out 4)
    have hl : l.length ≤ 4000000000020 := by rw [HL.out]; simp only [lnA]; have := commaTxt_take (qs.map portTxt) k; omega
    have hwr : Hid (Below w1.heap.size w1 wr) := HB.out.trans (HBr.out.mono HB.out.size)
    by_cases hlt3 : k < qs.length
    ·obtain ⟨hqe2, hd⟩ := hqa.out (by intro e; rw [e] at hlt3; simp at hlt3)
     rw [hqe2] at q3
     clear hqe2
     obtain ⟨x, hx⟩ : ∃ x, qs[k]? = some x := ⟨qs[k], List.getElem?_eq_getElem hlt3⟩
     have hxt : (qs.map portTxt)[k]'(by simpa using hlt3) = portTxt x := by
      have : qs[k] = x := by rw [List.getElem?_eq_getElem hlt3] at hx; exact Option.some.inj hx
      simp [this]
     have hnx := commaTxt_next (qs.map portTxt) k (by simpa using hlt3)
     rw [hxt] at hnx
     have hmem := commaTxt_mem (qs.map portTxt) (portTxt x) (List.mem_map.2 ⟨x, List.mem_of_getElem? hx, rfl⟩)
     obtain ⟨a1, rg, hcs, hrl, hon⟩ := hql.out k _ hx
     have HR : Hid (wr.rangeAt d (k * 19) x.cs) := fun j v hv => by rw [hwr.out.cell (p := ⟨d, k * 19 + j, none⟩) hd]; exact hqe.out k _ hx j v hv
     have IH0 := hid (ihq.out k _ hx)
     obtain ⟨cs, nm4, ou, rg4, tr⟩ := x
     simp only at hcs hon HR IH0
     have hsz : cs.length = 19 := by rw [hcs]; simp [hrl]
     have HSZ : Hid (cs.toArray.size = 19) := by show _ = _; simpa using hsz
     have HON : Hid (∀ v ∈ cs.toArray.toList, v.oneCell' = true) := hon
     have HS1 : Hid ((Tryz.prog.info? 62).map (·.size) = some cs.length) := by show _ = _; rw [hsz]; exact info62s
     have HTT : Hid ((wr.alloc (.cells #[.string ⟨#[]⟩, .int .i64 0, .bool false, .bool false, .bool false, .int .i64 0, .int .i64 0, .int .i64 0, .int .i64 0, .int .u64 0, .string ⟨#[]⟩, .slice none 0 0, .int .i64 0, .int .i64 0, .int .i64 0, .int .i64 0, .int .u64 0, .string ⟨#[]⟩, .slice none 0 0] 62)).there wr.heap.size 0 cs.toArray.size) := there_new1 _ _ _ _ HSZ.out.symm
     have HTI : Hid ((Tryz.prog.info? 62).map (·.size) = some cs.toArray.size) := info62s.trans (congrArg some HSZ.out.symm)
     have HTO : Hid (cs.toArray.all (·.oneCell') = true) := arr_all HON.out
     have HCS := hid hcs
     have HRL := hid hrl
     have HNX := hid hnx
     have HME := hid hmem
     clear hx hxt hcs hrl hon hsz hnx hmem
     go_upto_region 16 with ((with_reducible refine wpList_id ?_); first | (refine wpList_load_mid rfl 62 (.tmp 59) rfl d (k * 19) rfl cs _ HR.out Tryz.underlying62 rfl HS1.out ?_) | (refine wpList_store_mid rfl 62 (.tmp 6) (.tmp 60) rfl wr.heap.size 0 cs.toArray rfl rfl HTT.out HTI.out HTO.out ?_))
     generalize hWW : wr.alloc (.cells _ 62) = wa
     obtain ⟨zz, bb, oo, kk⟩ := one_box hWW
     obtain ⟨ca, LA⟩ : ∃ ca, Lb wa wr.heap.size 19 62 ca := ⟨_, bb, rfl, one_of rfl⟩
     generalize hS : wa.setCells wr.heap.size 0 _ = wb
     replace hS : setFrom wa wr.heap.size 0 cs.toArray.toList = wb := (setCells_from _ _ _ _).symm.trans hS
     obtain ⟨hr, zz2, oo2, kk2, _⟩ := lb_copy hS LA HSZ.out
     have KB := kk2 wr.heap.size wr (kk wr.heap.size).out (Nat.le_refl _)
     have HWR : Hid (Below wr.heap.size wr wb) := ⟨KB.os, KB.tape, KB.output, KB.size, fun i hi => KB.block i hi (by omega)⟩
     have hwb : Hid (Below w1.heap.size w1 wb) := hwr.out.trans (HWR.out.mono hwr.out.size)
     have HWb : Hid (Below W.heap.size W wb) := HBr.out.trans (HWR.out.mono HBr.out.size)
     have hltb : wr.heap.size < wb.heap.size := by omega
     have QB := hid (bxN hr).1
     clear hWW zz bb oo kk LA hS hr zz2 oo2 kk2 KB HTT HTI HTO HS1 HR HON HSZ q3 q4
     have hcs := HCS.out
     have hrl := HRL.out
     have hnx := HNX.out
     have hmem := HME.out
     clear HCS HRL HNX HME
     subst hcs
     obtain ⟨r0, r1, r2, r3, r4, r5, r6, r7, r8, r9, r10, r11, r12, r13, r14, rfl⟩ := len15 hrl
     clear hrl
     have IH : Hid (∀ w', Below w1.heap.size w1 w' → Calls Tryz.prog 30 #[.agg #[r0, r1, r2, r3, r4, r5, r6, r7, r8, r9, r10, r11, r12, r13, r14]] w' (StrPost tr w')) := IH0.out
     clear IH0
     have p0 : wb.cell? ⟨wr.heap.size, 0, none⟩ = _ := QB.out 0
     have p2 : wb.cell? ⟨wr.heap.size, 2, none⟩ = _ := QB.out 2
     have p3 : wb.cell? ⟨wr.heap.size, 3, none⟩ = _ := QB.out 3
     have p4 : wb.cell? ⟨wr.heap.size, 4, none⟩ = some r0 := QB.out 4
     have p5 : wb.cell? ⟨wr.heap.size, 5, none⟩ = some r1 := QB.out 5
     have p6 : wb.cell? ⟨wr.heap.size, 6, none⟩ = some r2 := QB.out 6
     have p7 : wb.cell? ⟨wr.heap.size, 7, none⟩ = some r3 := QB.out 7
     have p8 : wb.cell? ⟨wr.heap.size, 8, none⟩ = some r4 := QB.out 8
     have p9 : wb.cell? ⟨wr.heap.size, 9, none⟩ = some r5 := QB.out 9
     have p10 : wb.cell? ⟨wr.heap.size, 10, none⟩ = some r6 := QB.out 10
     have p11 : wb.cell? ⟨wr.heap.size, 11, none⟩ = some r7 := QB.out 11
     have p12 : wb.cell? ⟨wr.heap.size, 12, none⟩ = some r8 := QB.out 12
     have p13 : wb.cell? ⟨wr.heap.size, 13, none⟩ = some r9 := QB.out 13
     have p14 : wb.cell? ⟨wr.heap.size, 14, none⟩ = some r10 := QB.out 14
     have p15 : wb.cell? ⟨wr.heap.size, 15, none⟩ = some r11 := QB.out 15
     have p16 : wb.cell? ⟨wr.heap.size, 16, none⟩ = some r12 := QB.out 16
     have p17 : wb.cell? ⟨wr.heap.size, 17, none⟩ = some r13 := QB.out 17
     have p18 : wb.cell? ⟨wr.heap.size, 18, none⟩ = some r14 := QB.out 18
     simp only [List.getElem?_toArray, List.getElem?_cons_zero, List.getElem?_cons_succ] at p0 p2 p3
     clear QB
     by_cases h0 : k = 0
     ·rw [if_pos h0] at hnx
      have h0t : commaTxt ((qs.map portTxt).take k) = [] := by rw [h0]; rfl
      have h0' : ¬ (0 : Int) < (k : Int) := by omega
      clear h0
      cases ou
      case false =>
       simp only [portTxt, Bool.false_eq_true, if_false, lnA, lnC, lnN] at hmem
       obtain ⟨y1, G1, m1, q21⟩ := add_to (bs l) (⟨#[105, 110, 112, 117, 116, 32]⟩) l [105, 110, 112, 117, 116, 32] rfl rfl (by (try simp only [lnC, lnN] at *); omega)
       obtain ⟨y2, G2, m2, q22⟩ := add_to (bs y1) (bs tr) y1 tr rfl rfl (by (try simp only [lnC, lnN] at *); omega)
       obtain ⟨y3, G3, m3, q23⟩ := add_to (bs y2) (bs nm4) y2 nm4 rfl rfl (by (try simp only [lnC, lnN] at *); omega)
       have HN : Hid (y3 = yy ++ commaTxt ((qs.map portTxt).take (k + 1))) := by
        show y3 = _; rw [G3.out, G2.out, G1.out, hnx, HL.out, h0t]; simp only [portTxt, Bool.false_eq_true, if_false, List.append_assoc, List.append_nil]
       clear hnx hl hmem h0t G1 m1 G2 m2 G3 m3
       go_wp2_with fail
       go_region_held3 (fun w' => Below wb.heap.size wb w' ∧ (∀ b' o, b' < wb.heap.size → w'.cell? ⟨b', o, none⟩ = wb.cell? ⟨b', o, none⟩))
        (first | assumption | exact sees_drew _ | (refine sees_call (by assumption) (by assumption)))
        (first | (go_at_call 30; refine (IH.out _ (hwb.out.trans (Below.mono (And.left (by assumption)) (by exact hwb.out.size)))).mono ?_; rintro e w2 ⟨rfl, hb2⟩))
       all_goals
        go_wp2_with fail
        exact ⟨⟨k + 1, y3, by omega, by go_num, rfl, HN, HWb.out.trans (Below.mono (And.left (by assumption)) HWb.out.size)⟩, by simp [intOf]; omega⟩
      case true =>
       cases rg4
       case false =>
        simp only [portTxt, if_true, Bool.false_eq_true, if_false, lnA, lnC, lnN] at hmem
        obtain ⟨y1, G1, m1, q21⟩ := add_to (bs l) (⟨#[111, 117, 116, 112, 117, 116, 32]⟩) l [111, 117, 116, 112, 117, 116, 32] rfl rfl (by (try simp only [lnC, lnN] at *); omega)
        obtain ⟨y2, G2, m2, q22⟩ := add_to (bs y1) (bs tr) y1 tr rfl rfl (by (try simp only [lnC, lnN] at *); omega)
        obtain ⟨y3, G3, m3, q23⟩ := add_to (bs y2) (bs nm4) y2 nm4 rfl rfl (by (try simp only [lnC, lnN] at *); omega)
        have HN : Hid (y3 = yy ++ commaTxt ((qs.map portTxt).take (k + 1))) := by
         show y3 = _; rw [G3.out, G2.out, G1.out, hnx, HL.out, h0t]; simp only [portTxt, if_true, Bool.false_eq_true, if_false, List.append_assoc, List.append_nil]
        clear hnx hl hmem h0t G1 m1 G2 m2 G3 m3
        go_wp2_with fail
        go_region_held3 (fun w' => Below wb.heap.size wb w' ∧ (∀ b' o, b' < wb.heap.size → w'.cell? ⟨b', o, none⟩ = wb.cell? ⟨b', o, none⟩))
         (first | assumption | exact sees_drew _ | (refine sees_call (by assumption) (by assumption)))
         (first | (go_at_call 30; refine (IH.out _ (hwb.out.trans (Below.mono (And.left (by assumption)) (by exact hwb.out.size)))).mono ?_; rintro e w2 ⟨rfl, hb2⟩))
        all_goals
         go_wp2_with fail
         exact ⟨⟨k + 1, y3, by omega, by go_num, rfl, HN, HWb.out.trans (Below.mono (And.left (by assumption)) HWb.out.size)⟩, by simp [intOf]; omega⟩
       case true =>
        simp only [portTxt, if_true, lnA, lnC, lnN] at hmem
        obtain ⟨y1, G1, m1, q21⟩ := add_to (bs l) (⟨#[111, 117, 116, 112, 117, 116, 32, 114, 101, 103, 32]⟩) l [111, 117, 116, 112, 117, 116, 32, 114, 101, 103, 32] rfl rfl (by (try simp only [lnC, lnN] at *); omega)
        obtain ⟨y2, G2, m2, q22⟩ := add_to (bs y1) (bs tr) y1 tr rfl rfl (by (try simp only [lnC, lnN] at *); omega)
        obtain ⟨y3, G3, m3, q23⟩ := add_to (bs y2) (bs nm4) y2 nm4 rfl rfl (by (try simp only [lnC, lnN] at *); omega)
        have HN : Hid (y3 = yy ++ commaTxt ((qs.map portTxt).take (k + 1))) := by
         show y3 = _; rw [G3.out, G2.out, G1.out, hnx, HL.out, h0t]; simp only [portTxt, if_true, List.append_assoc, List.append_nil]
        clear hnx hl hmem h0t G1 m1 G2 m2 G3 m3
        go_wp2_with fail
        go_region_held3 (fun w' => Below wb.heap.size wb w' ∧ (∀ b' o, b' < wb.heap.size → w'.cell? ⟨b', o, none⟩ = wb.cell? ⟨b', o, none⟩))
         (first | assumption | exact sees_drew _ | (refine sees_call (by assumption) (by assumption)))
         (first | (go_at_call 30; refine (IH.out _ (hwb.out.trans (Below.mono (And.left (by assumption)) (by exact hwb.out.size)))).mono ?_; rintro e w2 ⟨rfl, hb2⟩))
        all_goals
         go_wp2_with fail
         exact ⟨⟨k + 1, y3, by omega, by go_num, rfl, HN, HWb.out.trans (Below.mono (And.left (by assumption)) HWb.out.size)⟩, by simp [intOf]; omega⟩
     ·rw [if_neg h0] at hnx
      have h0' : (0 : Int) < (k : Int) := by omega
      clear h0
      cases ou
      case false =>
       simp only [portTxt, Bool.false_eq_true, if_false, lnA, lnC, lnN] at hmem
       obtain ⟨y1, G1, m1, q21⟩ := add_to (bs l) (⟨#[44, 32]⟩) l [44, 32] rfl rfl (by (try simp only [lnC, lnN] at *); omega)
       obtain ⟨y2, G2, m2, q22⟩ := add_to (bs y1) (⟨#[105, 110, 112, 117, 116, 32]⟩) y1 [105, 110, 112, 117, 116, 32] rfl rfl (by (try simp only [lnC, lnN] at *); omega)
       obtain ⟨y3, G3, m3, q23⟩ := add_to (bs y2) (bs tr) y2 tr rfl rfl (by (try simp only [lnC, lnN] at *); omega)
       obtain ⟨y4, G4, m4, q24⟩ := add_to (bs y3) (bs nm4) y3 nm4 rfl rfl (by (try simp only [lnC, lnN] at *); omega)
       have HN : Hid (y4 = yy ++ commaTxt ((qs.map portTxt).take (k + 1))) := by
        show y4 = _; rw [G4.out, G3.out, G2.out, G1.out, hnx, HL.out]; simp only [portTxt, Bool.false_eq_true, if_false, List.append_assoc]
       clear hnx hl hmem G1 m1 G2 m2 G3 m3 G4 m4
       go_wp2_with fail
       go_region_held3 (fun w' => Below wb.heap.size wb w' ∧ (∀ b' o, b' < wb.heap.size → w'.cell? ⟨b', o, none⟩ = wb.cell? ⟨b', o, none⟩))
        (first | assumption | exact sees_drew _ | (refine sees_call (by assumption) (by assumption)))
        (first | (go_at_call 30; refine (IH.out _ (hwb.out.trans (Below.mono (And.left (by assumption)) (by exact hwb.out.size)))).mono ?_; rintro e w2 ⟨rfl, hb2⟩))
       all_goals
        go_wp2_with fail
        exact ⟨⟨k + 1, y4, by omega, by go_num, rfl, HN, HWb.out.trans (Below.mono (And.left (by assumption)) HWb.out.size)⟩, by simp [intOf]; omega⟩
      case true =>
       cases rg4
       case false =>
        simp only [portTxt, if_true, Bool.false_eq_true, if_false, lnA, lnC, lnN] at hmem
        obtain ⟨y1, G1, m1, q21⟩ := add_to (bs l) (⟨#[44, 32]⟩) l [44, 32] rfl rfl (by (try simp only [lnC, lnN] at *); omega)
        obtain ⟨y2, G2, m2, q22⟩ := add_to (bs y1) (⟨#[111, 117, 116, 112, 117, 116, 32]⟩) y1 [111, 117, 116, 112, 117, 116, 32] rfl rfl (by (try simp only [lnC, lnN] at *); omega)
        obtain ⟨y3, G3, m3, q23⟩ := add_to (bs y2) (bs tr) y2 tr rfl rfl (by (try simp only [lnC, lnN] at *); omega)
        obtain ⟨y4, G4, m4, q24⟩ := add_to (bs y3) (bs nm4) y3 nm4 rfl rfl (by (try simp only [lnC, lnN] at *); omega)
        have HN : Hid (y4 = yy ++ commaTxt ((qs.map portTxt).take (k + 1))) := by
         show y4 = _; rw [G4.out, G3.out, G2.out, G1.out, hnx, HL.out]; simp only [portTxt, if_true, Bool.false_eq_true, if_false, List.append_assoc]
        clear hnx hl hmem G1 m1 G2 m2 G3 m3 G4 m4
        go_wp2_with fail
        go_region_held3 (fun w' => Below wb.heap.size wb w' ∧ (∀ b' o, b' < wb.heap.size → w'.cell? ⟨b', o, none⟩ = wb.cell? ⟨b', o, none⟩))
         (first | assumption | exact sees_drew _ | (refine sees_call (by assumption) (by assumption)))
         (first | (go_at_call 30; refine (IH.out _ (hwb.out.trans (Below.mono (And.left (by assumption)) (by exact hwb.out.size)))).mono ?_; rintro e w2 ⟨rfl, hb2⟩))
        all_goals
         go_wp2_with fail
         exact ⟨⟨k + 1, y4, by omega, by go_num, rfl, HN, HWb.out.trans (Below.mono (And.left (by assumption)) HWb.out.size)⟩, by simp [intOf]; omega⟩
       case true =>
        simp only [portTxt, if_true, lnA, lnC, lnN] at hmem
        obtain ⟨y1, G1, m1, q21⟩ := add_to (bs l) (⟨#[44, 32]⟩) l [44, 32] rfl rfl (by (try simp only [lnC, lnN] at *); omega)
        obtain ⟨y2, G2, m2, q22⟩ := add_to (bs y1) (⟨#[111, 117, 116, 112, 117, 116, 32, 114, 101, 103, 32]⟩) y1 [111, 117, 116, 112, 117, 116, 32, 114, 101, 103, 32] rfl rfl (by (try simp only [lnC, lnN] at *); omega)
        obtain ⟨y3, G3, m3, q23⟩ := add_to (bs y2) (bs tr) y2 tr rfl rfl (by (try simp only [lnC, lnN] at *); omega)
        obtain ⟨y4, G4, m4, q24⟩ := add_to (bs y3) (bs nm4) y3 nm4 rfl rfl (by (try simp only [lnC, lnN] at *); omega)
        have HN : Hid (y4 = yy ++ commaTxt ((qs.map portTxt).take (k + 1))) := by
         show y4 = _; rw [G4.out, G3.out, G2.out, G1.out, hnx, HL.out]; simp only [portTxt, if_true, List.append_assoc]
        clear hnx hl hmem G1 m1 G2 m2 G3 m3 G4 m4
        go_wp2_with fail
        go_region_held3 (fun w' => Below wb.heap.size wb w' ∧ (∀ b' o, b' < wb.heap.size → w'.cell? ⟨b', o, none⟩ = wb.cell? ⟨b', o, none⟩))
         (first | assumption | exact sees_drew _ | (refine sees_call (by assumption) (by assumption)))
         (first | (go_at_call 30; refine (IH.out _ (hwb.out.trans (Below.mono (And.left (by assumption)) (by exact hwb.out.size)))).mono ?_; rintro e w2 ⟨rfl, hb2⟩))
        all_goals
         go_wp2_with fail
         exact ⟨⟨k + 1, y4, by omega, by go_num, rfl, HN, HWb.out.trans (Below.mono (And.left (by assumption)) HWb.out.size)⟩, by simp [intOf]; omega⟩
    ·obtain ⟨v1, G1, m1, q21⟩ := add_to (bs l) (⟨#[41, 59, 10]⟩) l [41, 59, 10] rfl rfl (by (try simp only [lnC, lnN] at *); omega)
     obtain ⟨v2, G2, m2, q22⟩ := add_to (bs v1) (bs ti) v1 ti rfl rfl (by (try simp only [lnC, lnN] at *); omega)
     obtain ⟨v3, G3, m3, q23⟩ := add_to (bs v2) (⟨#[101, 110, 100, 109, 111, 100, 117, 108, 101, 10]⟩) v2 [101, 110, 100, 109, 111, 100, 117, 108, 101, 10] rfl rfl (by (try simp only [lnC, lnN] at *); omega)
     have HF : Hid (v3 = modTxt nm ps qs ti) := by
      show v3 = _; rw [G3.out, G2.out, G1.out, HL.out, HYT.out, HX2.out, List.take_of_length_le (by simp; omega)]; simp only [modTxt, List.append_assoc]
     clear hl G1 m1 G2 m2 G3 m3
     go_wp2_with fail
     refine (ihi.out _ hwr.out).mono ?_
     rintro e w2 ⟨rfl, hb2⟩
     have HB2 : Hid (Below w1.heap.size w1 w2) := hwr.out.trans (hb2.mono hwr.out.size)
     clear hb2
     go_wp2_with fail
     go_ret
     exact ⟨ret_str (congrArg bs HF.out), HB2.out⟩
end Go.Proofs.YtimmmlnememjiaaGreatDoor
