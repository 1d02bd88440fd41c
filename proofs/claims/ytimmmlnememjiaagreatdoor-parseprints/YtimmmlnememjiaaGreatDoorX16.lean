import Derived.Test.YtimmmlnememjiaaGreatDoorX
import Derived.Test.YtimmmlnememjiaaGreatDoorX11
import Derived.Test.YtimmmlnememjiaaGreatDoorX15
set_option maxRecDepth 100000
set_option maxHeartbeats 16000000
namespace Go.Proofs.YtimmmlnememjiaaGreatDoor
open Go.RowKit
theorem binds_text (w1 : World) (b cap : Nat) (hb : b < w1.heap.size) (ds : List BindD) (hlen : ds.length ≤ 2000000000000) (z : (commaTxt (ds.map bindTxt)).length ≤ 1000000000000)
  (hel : Hid (∀ (i : Nat) (x : BindD), ds[i]? = some x → ∃ (a : Int) (vl : List Value), x.cs = .string (bs x.nm) :: .int .i64 a :: .bool x.gv :: vl ∧ (x.gv = true → ∃ (k0 a0 op0 wd0 n0 : Int) (nm0 : ByteArray) (sl0 : Value), vl = [.int .i64 k0, .int .i64 a0, .int .i64 op0, .int .i64 wd0, .int .u64 n0, .string nm0, sl0])))
  (hce : Hid (∀ (i : Nat) (x : BindD), ds[i]? = some x → ∀ (j : Nat) (v : Value), x.cs[j]? = some v → w1.cell? ⟨b, i * 10 + j, none⟩ = some v))
  (ih : Hid (∀ (i : Nat) (x : BindD), ds[i]? = some x → x.gv = true → ∀ w', Below w1.heap.size w1 w' → Calls Tryz.prog 29 #[.agg (x.cs.drop 3).toArray] w' (StrPost x.te w'))) :
  Calls Tryz.prog 71 #[.slice (some ⟨b, 0, none⟩) ds.length cap] w1 (StrPost ([40] ++ commaTxt (ds.map bindTxt) ++ [41]) w1) := by
 go_enter Tryz.func71, Tryz.ntmps71
 go_wp2_with fail
 go_loopw [3, 4] (fun s i w' => ∃ (k : Nat) (l : List UInt8), k ≤ ds.length ∧ i = .int .i64 k ∧ s = .string (bs l) ∧ Hid (l = [40] ++ commaTxt ((ds.map bindTxt).take k)) ∧ Hid (Below w1.heap.size w1 w')) (fun _ i _ => ds.length - (intOf i).toNat)
 case atStart => exact ⟨0, [40], Nat.zero_le _, rfl, rfl, by show _ = _; simp [commaTxt], Below.refl _ _⟩
 case round =>
  obtain ⟨k, l, hk, rfl, rfl, HL, HB⟩ := hrel
  have hl : l.length ≤ 1000000000001 := by
   rw [HL.out]; simp only [lnA, lnC, lnN]
   have := commaTxt_take (ds.map bindTxt) k; omega
  by_cases hlt : k < ds.length
  ·obtain ⟨x, hx⟩ : ∃ x, ds[k]? = some x := ⟨ds[k], List.getElem?_eq_getElem hlt⟩
   have hxt : (ds.map bindTxt)[k]'(by simpa using hlt) = bindTxt x := by
    have : ds[k] = x := by rw [List.getElem?_eq_getElem hlt] at hx; exact Option.some.inj hx
    simp [this]
   have hnx := commaTxt_next (ds.map bindTxt) k (by simpa using hlt)
   have hz1 := commaTxt_take (ds.map bindTxt) (k + 1)
   rw [hxt] at hnx
   obtain ⟨aa, vl, hcs, hvl⟩ := hel.out k _ hx
   have hwr : Hid (Below w1.heap.size w1 wr) := HB.out
   have ce := hce.out k _ hx
   have IH0 := hid (ih.out k _ hx)
   obtain ⟨cs, nm, gv, te⟩ := x
   simp only at hcs ce IH0 hvl
   subst hcs
   have ce' : ∀ (j : Nat) (v : Value), (.string (bs nm) :: .int .i64 aa :: .bool gv :: vl)[j]? = some v → wr.cell? ⟨b, k * 10 + j, none⟩ = some v := fun j v hv => by
    rw [hwr.out.cell (p := ⟨b, k * 10 + j, none⟩) hb]; exact ce j v hv
   have c0 : wr.cell? ⟨b, k * 10, none⟩ = _ := ce' 0 _ rfl
   have c2 := ce' 2 _ rfl
   have CE := hid ce'
   clear ce ce' hx hxt
   have hzb : (bindTxt ⟨.string (bs nm) :: .int .i64 aa :: .bool gv :: vl, nm, gv, te⟩).length ≤ 1000000000000 := by
    rw [hnx] at hz1
    split at hz1
    ·omega
    ·simp only [lnA] at hz1; omega
   by_cases h0 : k = 0
   ·have h0t : commaTxt ((ds.map bindTxt).take k) = [] := by rw [h0]; rfl
    rw [if_pos h0] at hnx
    have h0' : ¬ (0 : Int) < (k : Int) := by omega
    clear h0
    cases gv
    case false =>
     clear IH0 hvl CE
     simp only [bindTxt, Bool.false_eq_true, if_false, lnA, lnC, lnN] at hzb
     obtain ⟨x1, H1, l1, s1⟩ := add_to (bs l) (⟨#[46]⟩) l [46] rfl rfl (by (try simp only [lnC, lnN] at *); omega)
     obtain ⟨x2, H2, l2, s2⟩ := add_to (bs x1) (bs nm) x1 nm rfl rfl (by (try simp only [lnC, lnN] at *); omega)
     obtain ⟨x3, H3, l3, s3⟩ := add_to (bs x2) (⟨#[40]⟩) x2 [40] rfl rfl (by (try simp only [lnC, lnN] at *); omega)
     obtain ⟨x4, H4, l4, s4⟩ := add_to (bs x3) (⟨#[41]⟩) x3 [41] rfl rfl (by (try simp only [lnC, lnN] at *); omega)
     have HN : Hid (x4 = [40] ++ commaTxt ((ds.map bindTxt).take (k + 1))) := by show x4 = _; rw [H4.out, H3.out, H2.out, H1.out, hnx, HL.out]; simp only [bindTxt, Bool.false_eq_true, if_false, List.append_assoc, List.append_nil, h0t]
     clear hnx hz1 hl hzb H1 l1 H2 l2 H3 l3 H4 l4
     go_wp2_with fail
     exact ⟨⟨k + 1, x4, by omega, by go_num, rfl, HN, HB.out⟩, by simp [intOf]; omega⟩
    case true =>
     obtain ⟨k0, a0, op0, wd0, n0, nm0, sl0, rfl⟩ := hvl rfl
     have ce' := CE.out
     have c3 := ce' 3 _ rfl
     have c4 := ce' 4 _ rfl
     have c5 := ce' 5 _ rfl
     have c6 := ce' 6 _ rfl
     have c7 := ce' 7 _ rfl
     have c8 := ce' 8 _ rfl
     have c9 := ce' 9 _ rfl
     have e1 : wr.cell? ⟨b, k * 10 + 3 + 1, none⟩ = _ := ce' 4 _ rfl
     have e2 : wr.cell? ⟨b, k * 10 + 3 + 2, none⟩ = _ := ce' 5 _ rfl
     have e3 : wr.cell? ⟨b, k * 10 + 3 + 3, none⟩ = _ := ce' 6 _ rfl
     have e4 : wr.cell? ⟨b, k * 10 + 3 + 4, none⟩ = _ := ce' 7 _ rfl
     have e5 : wr.cell? ⟨b, k * 10 + 3 + 5, none⟩ = _ := ce' 8 _ rfl
     have e6 : wr.cell? ⟨b, k * 10 + 3 + 6, none⟩ = _ := ce' 9 _ rfl
     clear ce' CE hvl
     have IH : Hid (∀ w', Below w1.heap.size w1 w' → Calls Tryz.prog 29 #[.agg #[.int .i64 k0, .int .i64 a0, .int .i64 op0, .int .i64 wd0, .int .u64 n0, .string nm0, sl0]] w' (StrPost te w')) := IH0.out rfl
     clear IH0
     simp only [bindTxt, if_true, lnA, lnC, lnN] at hzb
     obtain ⟨x1, H1, l1, s1⟩ := add_to (bs l) (⟨#[46]⟩) l [46] rfl rfl (by (try simp only [lnC, lnN] at *); omega)
     obtain ⟨x2, H2, l2, s2⟩ := add_to (bs x1) (bs nm) x1 nm rfl rfl (by (try simp only [lnC, lnN] at *); omega)
     obtain ⟨x3, H3, l3, s3⟩ := add_to (bs x2) (⟨#[40]⟩) x2 [40] rfl rfl (by (try simp only [lnC, lnN] at *); omega)
     obtain ⟨x4, H4, l4, s4⟩ := add_to (bs x3) (bs te) x3 te rfl rfl (by (try simp only [lnC, lnN] at *); omega)
     obtain ⟨x5, H5, l5, s5⟩ := add_to (bs x4) (⟨#[41]⟩) x4 [41] rfl rfl (by (try simp only [lnC, lnN] at *); omega)
     have HN : Hid (x5 = [40] ++ commaTxt ((ds.map bindTxt).take (k + 1))) := by show x5 = _; rw [H5.out, H4.out, H3.out, H2.out, H1.out, hnx, HL.out]; simp only [bindTxt, if_true, List.append_assoc, List.append_nil, h0t]
     clear hnx hz1 hl hzb H1 l1 H2 l2 H3 l3 H4 l4 H5 l5
     go_wp2_with fail
     refine (IH.out _ hwr.out).mono ?_
     rintro e w2 ⟨rfl, hb2⟩
     have hB2 : Hid (Below w1.heap.size w1 w2) := HB.out.trans (hb2.mono HB.out.size)
     clear hb2
     go_wp2_with fail
     exact ⟨⟨k + 1, x5, by omega, by go_num, rfl, HN, hB2.out⟩, by simp [intOf]; omega⟩
   ·rw [if_neg h0] at hnx
    have h0' : (0 : Int) < (k : Int) := by omega
    clear h0
    cases gv
    case false =>
     clear IH0 hvl CE
     simp only [bindTxt, Bool.false_eq_true, if_false, lnA, lnC, lnN] at hzb
     obtain ⟨x1, H1, l1, s1⟩ := add_to (bs l) (⟨#[44, 32]⟩) l [44, 32] rfl rfl (by (try simp only [lnC, lnN] at *); omega)
     obtain ⟨x2, H2, l2, s2⟩ := add_to (bs x1) (⟨#[46]⟩) x1 [46] rfl rfl (by (try simp only [lnC, lnN] at *); omega)
     obtain ⟨x3, H3, l3, s3⟩ := add_to (bs x2) (bs nm) x2 nm rfl rfl (by (try simp only [lnC, lnN] at *); omega)
     obtain ⟨x4, H4, l4, s4⟩ := add_to (bs x3) (⟨#[40]⟩) x3 [40] rfl rfl (by (try simp only [lnC, lnN] at *); omega)
     obtain ⟨x5, H5, l5, s5⟩ := add_to (bs x4) (⟨#[41]⟩) x4 [41] rfl rfl (by (try simp only [lnC, lnN] at *); omega)
     have HN : Hid (x5 = [40] ++ commaTxt ((ds.map bindTxt).take (k + 1))) := by show x5 = _; rw [H5.out, H4.out, H3.out, H2.out, H1.out, hnx, HL.out]; simp only [bindTxt, Bool.false_eq_true, if_false, List.append_assoc, List.append_nil]
     clear hnx hz1 hl hzb H1 l1 H2 l2 H3 l3 H4 l4 H5 l5
     go_wp2_with fail
     exact ⟨⟨k + 1, x5, by omega, by go_num, rfl, HN, HB.out⟩, by simp [intOf]; omega⟩
    case true =>
     obtain ⟨k0, a0, op0, wd0, n0, nm0, sl0, rfl⟩ := hvl rfl
     have ce' := CE.out
     have c3 := ce' 3 _ rfl
     have c4 := ce' 4 _ rfl
     have c5 := ce' 5 _ rfl
     have c6 := ce' 6 _ rfl
     have c7 := ce' 7 _ rfl
     have c8 := ce' 8 _ rfl
     have c9 := ce' 9 _ rfl
     have e1 : wr.cell? ⟨b, k * 10 + 3 + 1, none⟩ = _ := ce' 4 _ rfl
     have e2 : wr.cell? ⟨b, k * 10 + 3 + 2, none⟩ = _ := ce' 5 _ rfl
     have e3 : wr.cell? ⟨b, k * 10 + 3 + 3, none⟩ = _ := ce' 6 _ rfl
     have e4 : wr.cell? ⟨b, k * 10 + 3 + 4, none⟩ = _ := ce' 7 _ rfl
     have e5 : wr.cell? ⟨b, k * 10 + 3 + 5, none⟩ = _ := ce' 8 _ rfl
     have e6 : wr.cell? ⟨b, k * 10 + 3 + 6, none⟩ = _ := ce' 9 _ rfl
     clear ce' CE hvl
     have IH : Hid (∀ w', Below w1.heap.size w1 w' → Calls Tryz.prog 29 #[.agg #[.int .i64 k0, .int .i64 a0, .int .i64 op0, .int .i64 wd0, .int .u64 n0, .string nm0, sl0]] w' (StrPost te w')) := IH0.out rfl
     clear IH0
     simp only [bindTxt, if_true, lnA, lnC, lnN] at hzb
     obtain ⟨x1, H1, l1, s1⟩ := add_to (bs l) (⟨#[44, 32]⟩) l [44, 32] rfl rfl (by (try simp only [lnC, lnN] at *); omega)
     obtain ⟨x2, H2, l2, s2⟩ := add_to (bs x1) (⟨#[46]⟩) x1 [46] rfl rfl (by (try simp only [lnC, lnN] at *); omega)
     obtain ⟨x3, H3, l3, s3⟩ := add_to (bs x2) (bs nm) x2 nm rfl rfl (by (try simp only [lnC, lnN] at *); omega)
     obtain ⟨x4, H4, l4, s4⟩ := add_to (bs x3) (⟨#[40]⟩) x3 [40] rfl rfl (by (try simp only [lnC, lnN] at *); omega)
     obtain ⟨x5, H5, l5, s5⟩ := add_to (bs x4) (bs te) x4 te rfl rfl (by (try simp only [lnC, lnN] at *); omega)
     obtain ⟨x6, H6, l6, s6⟩ := add_to (bs x5) (⟨#[41]⟩) x5 [41] rfl rfl (by (try simp only [lnC, lnN] at *); omega)
     have HN : Hid (x6 = [40] ++ commaTxt ((ds.map bindTxt).take (k + 1))) := by show x6 = _; rw [H6.out, H5.out, H4.out, H3.out, H2.out, H1.out, hnx, HL.out]; simp only [bindTxt, if_true, List.append_assoc]
     clear hnx hz1 hl hzb H1 l1 H2 l2 H3 l3 H4 l4 H5 l5 H6 l6
     go_wp2_with fail
     refine (IH.out _ hwr.out).mono ?_
     rintro e w2 ⟨rfl, hb2⟩
     have hB2 : Hid (Below w1.heap.size w1 w2) := HB.out.trans (hb2.mono HB.out.size)
     clear hb2
     go_wp2_with fail
     exact ⟨⟨k + 1, x6, by omega, by go_num, rfl, HN, hB2.out⟩, by simp [intOf]; omega⟩
  ·obtain ⟨x1, H1, l1, s1⟩ := add_to (bs l) ⟨#[41]⟩ l [41] rfl rfl (by simp only [lnC, lnN]; omega)
   have HF : Hid (x1 = [40] ++ commaTxt (ds.map bindTxt) ++ [41]) := by
    show x1 = _; rw [H1.out, HL.out, List.take_of_length_le (by simp; omega)]
   clear H1 l1 hl
   go_wp2_with fail
   go_ret
   exact ⟨ret_str (congrArg bs HF.out), HB.out⟩
theorem binds_none (w1 : World) : Calls Tryz.prog 71 #[.slice none 0 0] w1 (StrPost ([40] ++ commaTxt [] ++ [41]) w1) := by
 obtain ⟨x1, H1, l1, s1⟩ := add_to ⟨#[40]⟩ ⟨#[41]⟩ [40] [41] rfl rfl (by simp)
 go_enter Tryz.func71, Tryz.ntmps71
 go_wp2_with fail
 go_loopw [3, 4] (fun s i w' => i = .int .i64 0 ∧ s = .string ⟨#[40]⟩ ∧ Hid (Below w1.heap.size w1 w')) (fun _ _ _ => 0)
 case atStart => exact ⟨rfl, rfl, Below.refl _ _⟩
 case round =>
  obtain ⟨rfl, rfl, HB⟩ := hrel
  go_wp2_with fail
  go_ret
  exact ⟨ret_str (congrArg bs (by rw [H1.out]; rfl)), HB.out⟩
theorem printBinds_any {S : Nat → Prop} {w : World} (hS : ∀ b, S b → b < w.heap.size) {v : Value} {ds : List BindD} (hr : RowOf S w 10 v (ds.map (fun d : BindD => d.cs))) (hd : ∀ d ∈ ds, PB S w d) (z : (commaTxt (ds.map bindTxt)).length ≤ 400000000000) :
  ∀ w1, Below w.heap.size w w1 → Calls Tryz.prog 71 #[v] w1 (StrPost ([40] ++ commaTxt (ds.map bindTxt) ++ [41]) w1) := by
 intro w1 hw
 by_cases hn : ds = []
 ·subst hn
  rcases hr with ⟨rfl, _⟩ | ⟨b, cap, _, _, _, hne, _⟩
  ·exact binds_none w1
  ·exact absurd rfl hne
 ·obtain ⟨b, cap, rfl, hb, hc⟩ := hr.nth hS hw (by simpa using hn)
  have hlm : (ds.map (fun d : BindD => d.cs)).length = ds.length := List.length_map _
  rw [hlm]
  have hcn := comma_count (ds.map bindTxt)
  rw [List.length_map] at hcn
  have hmem : ∀ i x, ds[i]? = some x → (bindTxt x).length ≤ (commaTxt (ds.map bindTxt)).length := fun i x hx => commaTxt_mem _ _ (List.mem_map.2 ⟨x, List.mem_of_getElem? hx, rfl⟩)
  refine binds_text w1 b cap hb ds (by omega) (by omega) ?_ ?_ ?_
  ·intro i x hx
   obtain ⟨a, k, vl, e, hl, hp⟩ := hd x (List.mem_of_getElem? hx)
   refine ⟨a, vl, e, fun hg => ?_⟩
   obtain ⟨a0, op0, wd0, n0, nm0, sl0, e0⟩ := (hp hg).seven
   exact ⟨k, a0, op0, wd0, n0, nm0, sl0, e0⟩
  ·intro i x hx j u hu
   exact hc i x.cs (by rw [List.getElem?_map, hx]; rfl) j u hu
  ·intro i x hx hg w' hw'
   obtain ⟨a, k, vl, e, hl, hp⟩ := hd x (List.mem_of_getElem? hx)
   have hm := hmem i x hx
   have hd3 : x.cs.drop 3 = vl := by rw [e]; rfl
   rw [hd3]
   refine printExpr_any hS (hp hg) ?_ w' (hw.trans (hw'.mono hw.size))
   simp only [bindTxt, hg, if_true, lnA] at hm
   omega
end Go.Proofs.YtimmmlnememjiaaGreatDoor
