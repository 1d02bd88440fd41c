import Derived.Test.YtimmmlnememjiaaGreatDoorX
import Derived.Test.YtimmmlnememjiaaGreatDoorX18
import Derived.Test.YtimmmlnememjiaaGreatDoorX11
import Derived.Test.YtimmmlnememjiaaGreatDoorX21
set_option maxRecDepth 100000
set_option maxHeartbeats 16000000
namespace Go.Proofs.YtimmmlnememjiaaGreatDoor
open Go.RowKit
theorem flat_take (l : List (List UInt8)) (k : Nat) : (l.take k).flatten.length ≤ l.flatten.length := by
 induction l generalizing k with
 | nil => simp
 | cons x r ih =>
  cases k with
  | zero => simp
  | succ k =>
   have := ih k
   simp only [List.take_succ_cons, List.flatten_cons, lnA]
   omega
theorem flat_next (l : List (List UInt8)) (k : Nat) (h : k < l.length) : (l.take (k + 1)).flatten = (l.take k).flatten ++ l[k] := by
 rw [List.take_succ_eq_append_getElem h, List.flatten_append]
 simp only [List.flatten_cons, List.flatten_nil, List.append_nil]
theorem flat_mem {l : List (List UInt8)} {i : Nat} {t : List UInt8} (h : l[i]? = some t) : t.length ≤ l.flatten.length := by
 induction l generalizing i with
 | nil => simp at h
 | cons x r ih =>
  rw [List.flatten_cons, lnA]
  cases i with
  | zero => simp at h; subst h; omega
  | succ i => have := ih (by simpa using h); omega
theorem items_text (w1 : World) (b cap : Nat) (hb : b < w1.heap.size) (ds : List (List Value × List UInt8)) (hlen : ds.length ≤ 2000000000000) (z : (ds.map (·.2)).flatten.length ≤ 1000000000000)
  (hel : Hid (∀ (i : Nat) (x : List Value × List UInt8), ds[i]? = some x → x.1.length = 65))
  (hce : Hid (∀ (i : Nat) (x : List Value × List UInt8), ds[i]? = some x → ∀ (j : Nat) (v : Value), x.1[j]? = some v → w1.cell? ⟨b, i * 65 + j, none⟩ = some v))
  (ih : Hid (∀ (i : Nat) (x : List Value × List UInt8), ds[i]? = some x → ∀ w', Below w1.heap.size w1 w' → Calls Tryz.prog 51 #[.agg x.1.toArray] w' (StrPost x.2 w'))) :
  Calls Tryz.prog 31 #[.slice (some ⟨b, 0, none⟩) ds.length cap] w1 (StrPost (ds.map (·.2)).flatten w1) := by
 go_enter Tryz.func31, Tryz.ntmps31
 go_wp2_with fail
 go_loopw [3, 4] (fun s i w' => ∃ (k : Nat) (l : List UInt8), k ≤ ds.length ∧ i = .int .i64 k ∧ s = .string (bs l) ∧ Hid (l = ((ds.map (·.2)).take k).flatten) ∧ Hid (Below w1.heap.size w1 w')) (fun _ i _ => ds.length - (intOf i).toNat)
 case atStart => exact ⟨0, [], Nat.zero_le _, rfl, rfl, by show _ = _; simp, Below.refl _ _⟩
 case round =>
  obtain ⟨k, l, hk, rfl, rfl, HL, HB⟩ := hrel
  have hl : l.length ≤ 1000000000000 := by rw [HL.out]; exact Nat.le_trans (flat_take _ k) z
  by_cases hlt : k < ds.length
  ·obtain ⟨x, hx⟩ : ∃ x, ds[k]? = some x := ⟨ds[k], List.getElem?_eq_getElem hlt⟩
   have hxt : (ds.map (·.2))[k]'(by simpa using hlt) = x.2 := by
    have : ds[k] = x := by rw [List.getElem?_eq_getElem hlt] at hx; exact Option.some.inj hx
    simp [this]
   have hnx := flat_next (ds.map (·.2)) k (by simpa using hlt)
   have hz1 := flat_take (ds.map (·.2)) (k + 1)
   rw [hxt] at hnx
   have HR : Hid (wr.rangeAt b (k * 65) x.1) := fun j v hv => by
    rw [HB.out.cell (p := ⟨b, k * 65 + j, none⟩) hb]; exact hce.out k _ hx j v hv
   have IH := hid (ih.out k _ hx)
   have HS : Hid ((Tryz.prog.info? 95).map (·.size) = some x.1.length) := by show _ = _; rw [hel.out k _ hx]; exact info95
   obtain ⟨cs, t0⟩ := x
   simp only at hnx HR IH HS
   have hzt : t0.length ≤ 1000000000000 := by rw [hnx] at hz1; simp only [lnA] at hz1; omega
   obtain ⟨x1, H1, l1, s1⟩ := add_to (bs l) (bs t0) l t0 rfl rfl (by omega)
   have HN : Hid (x1 = ((ds.map (·.2)).take (k + 1)).flatten) := by show x1 = _; rw [H1.out, hnx, HL.out]
   clear hnx hz1 H1 l1 hl hx hxt
   go_wp2_with ((with_reducible refine wpList_id ?_); refine wpList_load_mid rfl 95 (.tmp 14) rfl b (k * 65) rfl cs _ HR.out Tryz.underlying95 rfl HS.out ?_)
   refine (IH.out _ HB.out).mono ?_
   rintro e w2 ⟨rfl, hb2⟩
   have hB2 : Hid (Below w1.heap.size w1 w2) := HB.out.trans (hb2.mono HB.out.size)
   clear hb2
   go_wp2_with fail
   exact ⟨⟨k + 1, x1, by omega, by go_num, rfl, HN, hB2.out⟩, by simp [intOf]; omega⟩
  ·have HF : Hid (l = (ds.map (·.2)).flatten) := by show l = _; rw [HL.out, List.take_of_length_le (by simp; omega)]
   go_wp2_with fail
   go_ret
   exact ⟨ret_str (congrArg bs HF.out), HB.out⟩
theorem items_none (w1 : World) : Calls Tryz.prog 31 #[.slice none 0 0] w1 (StrPost [] w1) := by
 go_enter Tryz.func31, Tryz.ntmps31
 go_wp2_with fail
 go_loopw [3, 4] (fun s i w' => i = .int .i64 0 ∧ s = .string ⟨#[]⟩ ∧ Hid (Below w1.heap.size w1 w')) (fun _ _ _ => 0)
 case atStart => exact ⟨rfl, rfl, Below.refl _ _⟩
 case round =>
  obtain ⟨rfl, rfl, HB⟩ := hrel
  go_wp2_with fail
  go_ret
  exact ⟨rfl, HB.out⟩
theorem hasA {cs : List Value} {o : Nat} {vs : List Value} (h : HasL cs o vs) (j : Nat) {v : Value} (hv : vs[j]? = some v) : cs.toArray[o + j]? = some v := by
 rw [List.getElem?_toArray]; exact h j v hv
theorem printSpan_any {S : Nat → Prop} {w : World} (hS : ∀ b, S b → b < w.heap.size) {rg : List Value} {t : List UInt8} (h : PRg S w rg t) (ht : t.length ≤ 400000000000) : ∀ w1, Below w.heap.size w w1 → Calls Tryz.prog 30 #[.agg rg.toArray] w1 (StrPost t w1) := by
 intro w1 hw
 rcases h with ⟨rfl, rfl⟩ | ⟨k1, k2, c1, c2, t1, t2, rfl, p1, p2, rfl⟩
 ·exact pr_none w1 _ rfl rfl
 ·simp only [lnA] at ht
  have i1 := printExpr_any hS p1 (by omega)
  have i2 := printExpr_any hS p2 (by omega)
  obtain ⟨a1, op1, wd1, n1, nm1, sl1, rfl⟩ := p1.seven
  obtain ⟨a2, op2, wd2, n2, nm2, sl2, rfl⟩ := p2.seven
  exact pr_span w1 k1 a1 op1 wd1 n1 nm1 sl1 t1 (by omega) (fun w' h => i1 w' (hw.trans (h.mono hw.size))) k2 a2 op2 wd2 n2 nm2 sl2 t2 (by omega) (fun w' h => i2 w' (hw.trans (h.mono hw.size))) _ rfl
theorem printItems_row {S : Nat → Prop} {w : World} (hS : ∀ b, S b → b < w.heap.size) {v : Value} {ds : List ItemD} (hr : RowOf S w 65 v (ds.map (fun x : ItemD => x.1))) (hl : ∀ (i : Nat) (d : ItemD), ds[i]? = some d → d.1.length = 65) (hpos : ds.length ≤ 2000000000000)
  (ih : ∀ (i : Nat) (d : ItemD), ds[i]? = some d → d.2.length ≤ 400000000000 → ∀ w1, Below w.heap.size w w1 → Calls Tryz.prog 51 #[.agg d.1.toArray] w1 (StrPost d.2 w1)) (z : (ds.map (fun x : ItemD => x.2)).flatten.length ≤ 400000000000) :
  ∀ w1, Below w.heap.size w w1 → Calls Tryz.prog 31 #[v] w1 (StrPost (ds.map (fun x : ItemD => x.2)).flatten w1) := by
 intro w1 hw
 by_cases hn : ds = []
 ·subst hn
  rcases hr with ⟨rfl, _⟩ | ⟨b, cap, _, _, _, hne, _⟩
  ·exact items_none w1
  ·exact absurd rfl hne
 ·obtain ⟨b, cap, rfl, hb, hc⟩ := hr.nth hS hw (by simpa using hn)
  have hlm : (ds.map (fun x : ItemD => x.1)).length = ds.length := List.length_map _
  rw [hlm]
  exact items_text w1 b cap hb ds hpos (Nat.le_trans z (by decide)) (fun i x hx => hl i x hx) (fun i x hx j u hu => hc i x.1 (by rw [List.getElem?_map, hx]; rfl) j u hu)
   (fun i x hx w' hw' => ih i x hx (by have := flat_mem (l := ds.map (fun x : ItemD => x.2)) (i := i) (t := x.2) (by rw [List.getElem?_map, hx]; rfl); omega) w' (hw.trans (hw'.mono hw.size)))
theorem item_pos {S : Nat → Prop} {w : World} {cs : List Value} {t : List UInt8} (h : PI S w cs t) : 1 ≤ t.length := by
 cases h <;> simp only [useTxt, lnA, lnC, lnN] <;> omega
theorem items_count {S : Nat → Prop} {w : World} (ds : List ItemD) (h : ∀ (i : Nat) (d : ItemD), ds[i]? = some d → PI S w d.1 d.2) : ds.length ≤ (ds.map (fun x : ItemD => x.2)).flatten.length := by
 induction ds with
 | nil => simp
 | cons x r ih =>
  have h1 := item_pos (h 0 x rfl)
  have h2 := ih (fun i d hd => h (i + 1) d (by simpa using hd))
  simp only [List.map_cons, List.flatten_cons, lnA, lnC]
  omega
theorem printItem_any {S : Nat → Prop} {w : World} (hS : ∀ b, S b → b < w.heap.size) {cs : List Value} {t : List UInt8} (h : PI S w cs t) (ht : t.length ≤ 400000000000) :
  ∀ w1, Below w.heap.size w w1 → Calls Tryz.prog 51 #[.agg cs.toArray] w1 (StrPost t w1) := by
 induction h with
 | wire cs hb nm rg tr h0 h2 h4 hr _ =>
  intro w1 hw
  have L : ∀ w', Below w1.heap.size w1 w' → Below w.heap.size w w' := fun w' h => hw.trans (h.mono hw.size)
  simp only [lnA, lnC, lnN] at ht
  have hlen := hr.len
  match rg, hlen, h4, hr with
  | [r0, r1, r2, r3, r4, r5, r6, r7, r8, r9, r10, r11, r12, r13, r14], _, h4, hr =>
   exact it_wire w1 cs.toArray nm (by omega) r0 r1 r2 r3 r4 r5 r6 r7 r8 r9 r10 r11 r12 r13 r14 (hasA h0 0 rfl) (hasA h2 0 rfl) (hasA h4 0 rfl) (hasA h4 1 rfl) (hasA h4 2 rfl) (hasA h4 3 rfl) (hasA h4 4 rfl) (hasA h4 5 rfl) (hasA h4 6 rfl) (hasA h4 7 rfl) (hasA h4 8 rfl) (hasA h4 9 rfl) (hasA h4 10 rfl) (hasA h4 11 rfl) (hasA h4 12 rfl) (hasA h4 13 rfl) (hasA h4 14 rfl) tr (by omega) (fun w' h => printSpan_any hS hr (by omega) w' (L w' h)) _ rfl
 | reg cs hb nm rg tr gv k vl te h0 h2 h4 hr hg hv =>
  intro w1 hw
  have L : ∀ w', Below w1.heap.size w1 w' → Below w.heap.size w w' := fun w' h => hw.trans (h.mono hw.size)
  cases gv
  ·simp only [Bool.false_eq_true, if_false, List.append_nil] at ht ⊢
   simp only [lnA, lnC, lnN] at ht
   have hlen := hr.len
   match rg, hlen, h4, hr with
   | [r0, r1, r2, r3, r4, r5, r6, r7, r8, r9, r10, r11, r12, r13, r14], _, h4, hr =>
    exact it_reg0 w1 cs.toArray nm (by omega) r0 r1 r2 r3 r4 r5 r6 r7 r8 r9 r10 r11 r12 r13 r14 (hasA h0 0 rfl) (hasA h2 0 rfl) (hasA h4 0 rfl) (hasA h4 1 rfl) (hasA h4 2 rfl) (hasA h4 3 rfl) (hasA h4 4 rfl) (hasA h4 5 rfl) (hasA h4 6 rfl) (hasA h4 7 rfl) (hasA h4 8 rfl) (hasA h4 9 rfl) (hasA h4 10 rfl) (hasA h4 11 rfl) (hasA h4 12 rfl) (hasA h4 13 rfl) (hasA h4 14 rfl) (hasA hg 0 rfl) tr (by omega) (fun w' h => printSpan_any hS hr (by omega) w' (L w' h)) _ rfl
  ·simp only [if_true] at ht ⊢
   simp only [lnA, lnC, lnN] at ht
   obtain ⟨h35, p⟩ := hv rfl
   have i1 := printExpr_any hS p
   obtain ⟨a1, op1, wd1, n1, nm1, sl1, rfl⟩ := p.seven
   have hlen := hr.len
   match rg, hlen, h4, hr with
   | [r0, r1, r2, r3, r4, r5, r6, r7, r8, r9, r10, r11, r12, r13, r14], _, h4, hr =>
    exact it_reg1 w1 cs.toArray nm (by omega) r0 r1 r2 r3 r4 r5 r6 r7 r8 r9 r10 r11 r12 r13 r14 k a1 op1 wd1 n1 nm1 sl1 (hasA h0 0 rfl) (hasA h2 0 rfl) (hasA h4 0 rfl) (hasA h4 1 rfl) (hasA h4 2 rfl) (hasA h4 3 rfl) (hasA h4 4 rfl) (hasA h4 5 rfl) (hasA h4 6 rfl) (hasA h4 7 rfl) (hasA h4 8 rfl) (hasA h4 9 rfl) (hasA h4 10 rfl) (hasA h4 11 rfl) (hasA h4 12 rfl) (hasA h4 13 rfl) (hasA h4 14 rfl) (hasA hg 0 rfl) (hasA h35 0 rfl) (hasA h35 1 rfl) (hasA h35 2 rfl) (hasA h35 3 rfl) (hasA h35 4 rfl) (hasA h35 5 rfl) (hasA h35 6 rfl) tr (by omega) (fun w' h => printSpan_any hS hr (by omega) w' (L w' h)) te (by omega) (fun w' h => i1 (by omega) w' (L w' h)) _ (by show _ = _; simp only [List.append_assoc])
 | mem cs hb nm rg tr k1 k2 c1 c2 t1 t2 h0 h2 h4 hr hw19 p1 p2 =>
  intro w1 hw
  have L : ∀ w', Below w1.heap.size w1 w' → Below w.heap.size w w' := fun w' h => hw.trans (h.mono hw.size)
  simp only [lnA, lnC, lnN] at ht
  have i1 := printExpr_any hS p1
  have i2 := printExpr_any hS p2
  obtain ⟨a1, op1, wd1, n1, nm1, sl1, rfl⟩ := p1.seven
  obtain ⟨a2, op2, wd2, n2, nm2, sl2, rfl⟩ := p2.seven
  have hlen := hr.len
  match rg, hlen, h4, hr with
  | [r0, r1, r2, r3, r4, r5, r6, r7, r8, r9, r10, r11, r12, r13, r14], _, h4, hr =>
   exact it_mem w1 cs.toArray nm (by omega) r0 r1 r2 r3 r4 r5 r6 r7 r8 r9 r10 r11 r12 r13 r14 k1 a1 op1 wd1 n1 nm1 sl1 k2 a2 op2 wd2 n2 nm2 sl2 (hasA h0 0 rfl) (hasA h2 0 rfl) (hasA h4 0 rfl) (hasA h4 1 rfl) (hasA h4 2 rfl) (hasA h4 3 rfl) (hasA h4 4 rfl) (hasA h4 5 rfl) (hasA h4 6 rfl) (hasA h4 7 rfl) (hasA h4 8 rfl) (hasA h4 9 rfl) (hasA h4 10 rfl) (hasA h4 11 rfl) (hasA h4 12 rfl) (hasA h4 13 rfl) (hasA h4 14 rfl) (hasA hw19 0 rfl) (hasA hw19 1 rfl) (hasA hw19 2 rfl) (hasA hw19 3 rfl) (hasA hw19 4 rfl) (hasA hw19 5 rfl) (hasA hw19 6 rfl) (hasA hw19 7 rfl) (hasA hw19 8 rfl) (hasA hw19 9 rfl) (hasA hw19 10 rfl) (hasA hw19 11 rfl) (hasA hw19 12 rfl) (hasA hw19 13 rfl) (hasA hw19 14 rfl) tr (by omega) (fun w' h => printSpan_any hS hr (by omega) w' (L w' h)) t1 (by omega) (fun w' h => i1 (by omega) w' (L w' h)) t2 (by omega) (fun w' h => i2 (by omega) w' (L w' h))  _ rfl
 | param cs hb nm k vl te h0 h2 hv p =>
  intro w1 hw
  have L : ∀ w', Below w1.heap.size w1 w' → Below w.heap.size w w' := fun w' h => hw.trans (h.mono hw.size)
  simp only [lnA, lnC, lnN] at ht
  have i1 := printExpr_any hS p
  obtain ⟨a1, op1, wd1, n1, nm1, sl1, rfl⟩ := p.seven
  exact it_param w1 cs.toArray nm (by omega) k a1 op1 wd1 n1 nm1 sl1 (hasA h0 0 rfl) (hasA h2 0 rfl) (hasA hv 0 rfl) (hasA hv 1 rfl) (hasA hv 2 rfl) (hasA hv 3 rfl) (hasA hv 4 rfl) (hasA hv 5 rfl) (hasA hv 6 rfl) te (by omega) (fun w' h => i1 (by omega) w' (L w' h)) _ rfl
 | assign cs hb k1 k2 tg vl tt te h0 ht42 pt hv p =>
  intro w1 hw
  have L : ∀ w', Below w1.heap.size w1 w' → Below w.heap.size w w' := fun w' h => hw.trans (h.mono hw.size)
  simp only [lnA, lnC, lnN] at ht
  have i1 := printExpr_any hS pt
  have i2 := printExpr_any hS p
  obtain ⟨a1, op1, wd1, n1, nm1, sl1, rfl⟩ := pt.seven
  obtain ⟨a2, op2, wd2, n2, nm2, sl2, rfl⟩ := p.seven
  exact it_assign w1 cs.toArray k1 a1 op1 wd1 n1 nm1 sl1 k2 a2 op2 wd2 n2 nm2 sl2 (hasA h0 0 rfl) (hasA ht42 0 rfl) (hasA ht42 1 rfl) (hasA ht42 2 rfl) (hasA ht42 3 rfl) (hasA ht42 4 rfl) (hasA ht42 5 rfl) (hasA ht42 6 rfl) (hasA hv 0 rfl) (hasA hv 1 rfl) (hasA hv 2 rfl) (hasA hv 3 rfl) (hasA hv 4 rfl) (hasA hv 5 rfl) (hasA hv 6 rfl) tt (by omega) (fun w' h => i1 (by omega) w' (L w' h)) te (by omega) (fun w' h => i2 (by omega) w' (L w' h)) _ rfl
 | always cs hb ck bd tb h0 hc hd p =>
  intro w1 hw
  have L : ∀ w', Below w1.heap.size w1 w' → Below w.heap.size w w' := fun w' h => hw.trans (h.mono hw.size)
  have i1 := printStmt_any hS p
  obtain ⟨k1, a1, lt1, nm1, xa, xl, xc, sa, sl, sc, aa, al, ac, rfl⟩ := p.form
  cases ck
  ·simp only [Bool.false_eq_true, if_false] at ht ⊢
   simp only [lnA, lnC, lnN] at ht
   exact it_star w1 cs.toArray k1 a1 lt1 nm1 _ _ _ (hasA h0 0 rfl) (hasA hc 0 rfl) (hasA hd 0 rfl) (hasA hd 1 rfl) (hasA hd 2 rfl) (hasA hd 3 rfl) (hasA hd 4 rfl) (hasA hd 5 rfl) (hasA hd 6 rfl) tb (by omega) (fun w' h => i1 (by omega) w' (L w' h)) _ rfl
  ·simp only [if_true] at ht ⊢
   simp only [lnA, lnC, lnN] at ht
   exact it_clk w1 cs.toArray k1 a1 lt1 nm1 _ _ _ (hasA h0 0 rfl) (hasA hc 0 rfl) (hasA hd 0 rfl) (hasA hd 1 rfl) (hasA hd 2 rfl) (hasA hd 3 rfl) (hasA hd 4 rfl) (hasA hd 5 rfl) (hasA hd 6 rfl) tb (by omega) (fun w' h => i1 (by omega) w' (L w' h)) _ rfl
 | use cs hb md nm vp vq ps qs h0 h2 h3 hp hq rp pp rq pq =>
  intro w1 hw
  have L : ∀ w', Below w1.heap.size w1 w' → Below w.heap.size w w' := fun w' h => hw.trans (h.mono hw.size)
  obtain ⟨qa, ql, qd, rfl⟩ := rq.sl
  have iq := printBinds_any hS rq pq
  have ip := printBinds_any hS rp pp
  by_cases hps : ps = []
  ·subst hps
   rcases rp with ⟨rfl, _⟩ | ⟨b, cap, _, _, _, hne, _⟩
   ·have e : useTxt md nm ([].map bindTxt) (qs.map bindTxt) = md ++ [32] ++ nm ++ [32] ++ ([40] ++ commaTxt (qs.map bindTxt) ++ [41]) ++ [59, 10] := by simp [useTxt, hashTxt]
    rw [e] at ht ⊢
    simp only [lnA, lnC, lnN] at ht
    exact it_use0 w1 cs.toArray nm (by omega) md (by omega) qa ql qd (hasA h0 0 rfl) (hasA h2 0 rfl) (hasA h3 0 rfl) (hasA hp 0 rfl) (hasA hq 0 rfl) _ (by simp only [lnA, lnC, lnN]; omega) (fun w' h => iq (by omega) w' (L w' h)) _ rfl
   ·exact absurd rfl hne
  ·obtain ⟨pb, pcap, rfl, hpb, _⟩ := rp.nth hS hw (by simpa using hps)
   have hpl : 0 < ps.length := List.length_pos_iff.2 hps
   have e : useTxt md nm (ps.map bindTxt) (qs.map bindTxt) = md ++ [32] ++ [35] ++ ([40] ++ commaTxt (ps.map bindTxt) ++ [41]) ++ [32] ++ nm ++ [32] ++ ([40] ++ commaTxt (qs.map bindTxt) ++ [41]) ++ [59, 10] := by
    simp [useTxt, hashTxt, hps]
   rw [e] at ht ⊢
   simp only [lnA, lnC, lnN] at ht
   exact it_use1 w1 cs.toArray nm (by omega) md (by omega) _ _ _ (by rw [List.length_map]; omega) qa ql qd (hasA h0 0 rfl) (hasA h2 0 rfl) (hasA h3 0 rfl) (hasA hp 0 rfl) (hasA hq 0 rfl) _ (by simp only [lnA, lnC, lnN]; omega) (fun w' h => ip (by omega) w' (L w' h)) _ (by simp only [lnA, lnC, lnN]; omega) (fun w' h => iq (by omega) w' (L w' h)) _ rfl
 | loop cs hb nm lb vx vi x y z its h0 h2 hx hlb hi rx px py pz ri pi ih =>
  intro w1 hw
  have L : ∀ w', Below w1.heap.size w1 w' → Below w.heap.size w w' := fun w' h => hw.trans (h.mono hw.size)
  obtain ⟨ia, il, ic, rfl⟩ := ri.sl
  have hcnt := items_count its pi
  have e : loopTxt nm x.2.2 y.2.2 z.2.2 ++ partTxt lb (its.map (fun x : ItemD => x.2)).flatten ++ [10] = loopTxt nm x.2.2 y.2.2 z.2.2 ++ [98, 101, 103, 105, 110, 32, 58, 32] ++ lb ++ [10] ++ (its.map (fun x : ItemD => x.2)).flatten ++ [101, 110, 100, 10] := by
   simp only [partTxt, List.append_assoc, List.cons_append, List.nil_append]
  rw [e] at ht ⊢
  have hll : (loopTxt nm x.2.2 y.2.2 z.2.2).length = 2 * nm.length + x.2.2.length + y.2.2.length + z.2.2.length + 17 := by
   simp only [loopTxt, lnA, lnC, lnN]; omega
  simp only [lnA, lnC, lnN] at ht
  have ii := printItems_row hS ri (fun i d hd => (pi i d hd).big.1) (by omega) ih (by omega)
  have i0 := printExpr_any hS px (by omega)
  have i1 := printExpr_any hS py (by omega)
  have i2 := printExpr_any hS pz (by omega)
  obtain ⟨b, capb, rfl, hb1, hcb⟩ := rx.nth hS hw (by simp)
  obtain ⟨a0, op0, wd0, n0, nm0, sl0, hx0⟩ := px.seven
  obtain ⟨a1, op1, wd1, n1, nm1, sl1, hx1⟩ := py.seven
  obtain ⟨a2, op2, wd2, n2, nm2, sl2, hx2⟩ := pz.seven
  have cb := hcb 0 x.2.1 rfl
  have cc := hcb 1 y.2.1 rfl
  have cd := hcb 2 z.2.1 rfl
  rw [hx0] at cb i0
  rw [hx1] at cc i1
  rw [hx2] at cd i2
  refine it_for w1 cs.toArray nm lb (by omega) _ _ _ ia il ic (hasA h0 0 rfl) (hasA h2 0 rfl) (hasA hx 0 rfl) (hasA hlb 0 rfl) (hasA hi 0 rfl) (loopTxt nm x.2.2 y.2.2 z.2.2) (by omega) ?_ _ (by omega) (fun w' h => ii w' (L w' h)) _ rfl
  intro w' hw'
  have M : ∀ {o : Nat} {u : Value}, w1.cell? ⟨b, o, none⟩ = some u → w'.cell? ⟨b, o, none⟩ = some u := fun {o u} h => (hw'.cell (p := ⟨b, o, none⟩) hb1).trans h
  have L' : ∀ w'', Below w'.heap.size w' w'' → Below w.heap.size w w'' := fun w'' h => L w'' (hw'.trans (h.mono hw'.size))
  exact pr_loop w' nm b capb (Nat.lt_of_lt_of_le hb1 hw'.size) (by omega)
   x.1 a0 op0 wd0 n0 nm0 sl0 x.2.2 (by omega) (M (cb 0 _ rfl)) (M (cb 1 _ rfl)) (M (cb 2 _ rfl)) (M (cb 3 _ rfl)) (M (cb 4 _ rfl)) (M (cb 5 _ rfl)) (M (cb 6 _ rfl)) (fun w'' h => i0 w'' (L' w'' h))
   y.1 a1 op1 wd1 n1 nm1 sl1 y.2.2 (by omega) (M (cc 0 _ rfl)) (M (cc 1 _ rfl)) (M (cc 2 _ rfl)) (M (cc 3 _ rfl)) (M (cc 4 _ rfl)) (M (cc 5 _ rfl)) (M (cc 6 _ rfl)) (fun w'' h => i1 w'' (L' w'' h))
   z.1 a2 op2 wd2 n2 nm2 sl2 z.2.2 (by omega) (M (cd 0 _ rfl)) (M (cd 1 _ rfl)) (M (cd 2 _ rfl)) (M (cd 3 _ rfl)) (M (cd 4 _ rfl)) (M (cd 5 _ rfl)) (M (cd 6 _ rfl)) (fun w'' h => i2 w'' (L' w'' h)) _ rfl
 | cond cs hb lb vi k vl te its he le ve els h0 hv p hlb hi ri pi hh hel pe ih ihe =>
  intro w1 hw
  have L : ∀ w', Below w1.heap.size w1 w' → Below w.heap.size w w' := fun w' h => hw.trans (h.mono hw.size)
  obtain ⟨ia, il, ic, rfl⟩ := ri.sl
  have hcnt := items_count its pi
  have i0 := printExpr_any hS p
  obtain ⟨a0, op0, wd0, n0, nm0, sl0, rfl⟩ := p.seven
  cases he
  ·simp only [Bool.false_eq_true, if_false, List.append_nil] at ht ⊢
   have e : [105, 102, 32, 40] ++ te ++ [41, 32] ++ partTxt lb (its.map (fun x : ItemD => x.2)).flatten ++ [10] = [105, 102, 32, 40] ++ te ++ [41, 32, 98, 101, 103, 105, 110, 32, 58, 32] ++ lb ++ [10] ++ (its.map (fun x : ItemD => x.2)).flatten ++ [101, 110, 100] ++ [10] := by
    simp only [partTxt, List.append_assoc, List.cons_append, List.nil_append]
   rw [e] at ht ⊢
   simp only [lnA, lnC, lnN] at ht
   have ii := printItems_row hS ri (fun i d hd => (pi i d hd).big.1) (by omega) ih (by omega)
   exact it_if1 w1 cs.toArray lb (by omega) k a0 op0 wd0 n0 nm0 sl0 ia il ic (hasA h0 0 rfl) (hasA hlb 0 rfl) (hasA hi 0 rfl) (hasA hh 0 rfl) (hasA hv 0 rfl) (hasA hv 1 rfl) (hasA hv 2 rfl) (hasA hv 3 rfl) (hasA hv 4 rfl) (hasA hv 5 rfl) (hasA hv 6 rfl) te (by omega) (fun w' h => i0 (by omega) w' (L w' h)) _ (by omega) (fun w' h => ii w' (L w' h)) _ rfl
  ·obtain ⟨hle, hve, re⟩ := hel rfl
   obtain ⟨ea, el, ec, rfl⟩ := re.sl
   have pe' : ∀ (i : Nat) (d : ItemD), els[i]? = some d → PI S w d.1 d.2 := fun i d hd => pe i d rfl hd
   have hcnt2 := items_count els pe'
   simp only [if_true] at ht ⊢
   have e : [105, 102, 32, 40] ++ te ++ [41, 32] ++ partTxt lb (its.map (fun x : ItemD => x.2)).flatten ++ ([32, 101, 108, 115, 101, 32] ++ partTxt le (els.map (fun x : ItemD => x.2)).flatten) ++ [10] = [105, 102, 32, 40] ++ te ++ [41, 32, 98, 101, 103, 105, 110, 32, 58, 32] ++ lb ++ [10] ++ (its.map (fun x : ItemD => x.2)).flatten ++ [101, 110, 100] ++ [32, 101, 108, 115, 101, 32, 98, 101, 103, 105, 110, 32, 58, 32] ++ le ++ [10] ++ (els.map (fun x : ItemD => x.2)).flatten ++ [101, 110, 100] ++ [10] := by
    simp only [partTxt, List.append_assoc, List.cons_append, List.nil_append]
   rw [e] at ht ⊢
   simp only [lnA, lnC, lnN] at ht
   have ii := printItems_row hS ri (fun i d hd => (pi i d hd).big.1) (by omega) ih (by omega)
   have ie := printItems_row hS re (fun i d hd => (pe' i d hd).big.1) (by omega) (fun i d hd => ihe i d rfl hd) (by omega)
   exact it_if2 w1 cs.toArray lb (by omega) le (by omega) k a0 op0 wd0 n0 nm0 sl0 ia il ic ea el ec (hasA h0 0 rfl) (hasA hlb 0 rfl) (hasA hi 0 rfl) (hasA hh 0 rfl) (hasA hle 0 rfl) (hasA hve 0 rfl) (hasA hv 0 rfl) (hasA hv 1 rfl) (hasA hv 2 rfl) (hasA hv 3 rfl) (hasA hv 4 rfl) (hasA hv 5 rfl) (hasA hv 6 rfl) te (by omega) (fun w' h => i0 (by omega) w' (L w' h)) _ (by omega) (fun w' h => ii w' (L w' h)) _ (by omega) (fun w' h => ie w' (L w' h)) _ rfl
end Go.Proofs.YtimmmlnememjiaaGreatDoor
