import Derived.Test.YtefjicdhccfieaaK01
import Derived.Test.YtefjicdhccfieaaK41
set_option maxRecDepth 100000
set_option maxHeartbeats 16000000
namespace Go.Proofs.Ytefjicdhccfieaa
open Go.RowKit
theorem Good.new (V : Nat) (hV : V ≤ 100000) : Good [] (St.new V) := by
 have hw : Wd (St.new V).V (St.new V).cls (St.new V).W := ⟨fun i c hc => (by cases hc), fun i c u hc => (by cases hc), fun t l i o hm => (by cases hm), fun t l => List.nodup_nil⟩
 have hg : ∀ y, (St.new V).held.getD y 0 = 0 := fun y => by
  show (List.replicate (2 * V) (0 : Int)).getD y 0 = 0
  rw [List.getD_eq_getElem?_getD, List.getElem?_replicate]
  split <;> rfl
 refine Good.of hV rfl ⟨hw, ⟨by simp [St.new], fun y hy => ?_, fun y hy => (by cases hy), List.nodup_nil, fun y hy => (by cases hy), Nat.le_refl _, Nat.le_refl _⟩, fun r hr => ?_, fun i c u hc => (by cases hc), ⟨fun l hl => ?_, fun c hc => (by cases hc), fun d hd => (by cases hd), fun c hc => (by cases hc)⟩, rfl, rfl⟩ (fun c hc => by cases hc)
 ·rw [hg]; simp [St.new]
 ·have : r = 0 := by
   have hr' : r ∈ List.replicate V (0 : Int) := hr
   exact (List.mem_replicate.1 hr').2
  subst this; exact ⟨by omega, .inl (by omega)⟩
 ·obtain ⟨y, hy, _⟩ := hl; cases hy
theorem Link.push {sl : Site → Slot} {st : St} (h : Link sl st) (hxs : (sl .clauses).xs.length = st.cls.length * 4) (c : BC) (v v' : Value) (hlit : sl (.lits st.cls.length) = ⟨v, c.l.length, litV c.l⟩) :
  Link (setS sl .clauses ⟨v', st.cls.length + 1, (sl .clauses).xs ++ [v, .int .i64 (c.next : Int), .int .i64 (c.tier : Int), .int .i64 (c.round : Int)]⟩) (st.push c) := by
 refine ⟨h.hV, ?_, h.heldL, ?_, h.reasonL, ?_, h.usedL, ?_, ?_, ?_, ?_, ?_, ?_⟩
 ·simpa [setS, St.push] using h.held
 ·simpa [setS, St.push] using h.reason
 ·simpa [setS, St.push] using h.used
 ·simpa [setS, St.push] using h.trail
 ·rw [setS_same]; simp [St.push]
 ·intro j d hd
  rw [setS_same, setS_other _ _ (by intro e; cases e)]
  dsimp only
  rcases push_get hd with ⟨rfl, rfl⟩ | ⟨hj, hd⟩
  ·rw [hlit]
   refine ⟨?_, ?_, ?_, ?_⟩
   ·rw [List.getElem?_append_right (by omega), hxs]; simp [show 4 * st.cls.length - st.cls.length * 4 = 0 by omega]
   ·rw [List.getElem?_append_right (by omega), hxs]; simp [show 4 * st.cls.length + 1 - st.cls.length * 4 = 1 by omega]
   ·rw [List.getElem?_append_right (by omega), hxs]; simp [show 4 * st.cls.length + 2 - st.cls.length * 4 = 2 by omega]
   ·rw [List.getElem?_append_right (by omega), hxs]; simp [show 4 * st.cls.length + 3 - st.cls.length * 4 = 3 by omega]
  ·obtain ⟨q0, q1, q2, q3⟩ := h.cls j d hd
   refine ⟨?_, ?_, ?_, ?_⟩
   ·rw [List.getElem?_append_left (by omega)]; exact q0
   ·rw [List.getElem?_append_left (by omega)]; exact q1
   ·rw [List.getElem?_append_left (by omega)]; exact q2
   ·rw [List.getElem?_append_left (by omega)]; exact q3
 ·intro j d hd
  rw [setS_other _ _ (by intro e; cases e)]
  rcases push_get hd with ⟨rfl, rfl⟩ | ⟨hj, hd⟩
  ·rw [hlit]; exact ⟨rfl, rfl⟩
  ·exact h.lits j d hd
 ·intro t ht
  simpa [setS, St.push] using h.row t ht
 ·intro t l' ht hl
  simpa [setS, St.push] using h.wl t l' ht hl
theorem push_rows {B : Nat} {w w5 : World} {bb : Nat} {st : St} {sl : Site → Slot} {g cap : Nat} {v : Value} (R : Rows' B w bb (fields sl st) sl) (L : Link sl st) (c : BC) (hlit : sl (.lits st.cls.length) = ⟨v, c.l.length, litV c.l⟩) (hg : w.grownBy w5 (sl .clauses).v.ownBlock)
  (hown : w5.ownsRow B 80 4 (.slice (some ⟨g, 0, none⟩) (st.cls.length + 1) cap) (st.cls.length + 1) ((sl .clauses).xs ++ [v, .int .i64 (c.next : Int), .int .i64 (c.tier : Int), .int .i64 (c.round : Int)]))
  (hat : ∀ k, (Value.slice (some ⟨g, 0, none⟩) (st.cls.length + 1) cap).ownBlock = some k → (sl .clauses).v.ownBlock = some k ∨ w.heap.size ≤ k) :
  ∃ X, Bd B (w5.setCell ⟨bb, 0, none⟩ (.slice (some ⟨g, 0, none⟩) (st.cls.length + 1) cap)) bb (st.push c) X (.slice (some ⟨g, 0, none⟩) (st.cls.length + 1) cap) ∧ Below B w (w5.setCell ⟨bb, 0, none⟩ (.slice (some ⟨g, 0, none⟩) (st.cls.length + 1) cap)) := by
 have hxs := (R.rows .clauses).1
 rw [L.clsN] at hxs
 have R2 := R.grow .clauses ⟨.slice (some ⟨g, 0, none⟩) (st.cls.length + 1) cap, st.cls.length + 1, (sl .clauses).xs ++ [v, .int .i64 (c.next : Int), .int .i64 (c.tier : Int), .int .i64 (c.round : Int)]⟩ hg hown hat
 have R3 := R2.setB 0 (.slice (some ⟨g, 0, none⟩) (st.cls.length + 1) cap)
 have L3 := L.push hxs c v (.slice (some ⟨g, 0, none⟩) (st.cls.length + 1) cap) hlit
 have hb := R.below .clauses hg
 refine ⟨_, ⟨_, ?_, L3, rfl, by rw [setS_same]⟩, setTo hb R.base (Nat.le_trans R.size hb.size)⟩
 have ef : fields (setS sl .clauses ⟨.slice (some ⟨g, 0, none⟩) (st.cls.length + 1) cap, st.cls.length + 1, (sl .clauses).xs ++ [v, .int .i64 (c.next : Int), .int .i64 (c.tier : Int), .int .i64 (c.round : Int)]⟩) (st.push c) = (fields sl st).setIfInBounds 0 (.slice (some ⟨g, 0, none⟩) (st.cls.length + 1) cap) := by
  simp [fields, setS, St.push]
 rw [ef]; exact R3
theorem info_cls0 : (Try.prog.info? 80).map (fun i => (i.zero, i.size, i.bytes)) = some (some (.agg #[.slice none 0 0, .int .i64 0, .int .i64 0, .int .i64 0]), 4, 48) := by kernel_rfl
theorem info_cls : ∃ i, Try.prog.info? 80 = some i ∧ i.zero = some (.agg #[.slice none 0 0, .int .i64 0, .int .i64 0, .int .i64 0]) ∧ i.size = 4 ∧ i.bytes = 48 := by
 have h := info_cls0
 cases hi : Try.prog.info? 80 with
 | none => rw [hi] at h; cases h
 | some i => rw [hi] at h; simp at h; exact ⟨i, rfl, h.1, h.2.1, h.2.2⟩
def AddP (F : List (List Int)) (c : List Int) (B : Nat) (w : World) (bb : Nat) (st : St) (w' : World) : Prop := ∃ st', BD B w' bb st' ∧ Good (F ++ [c]) st' ∧ st'.V = st.V ∧ st'.cls.length ≤ st.cls.length + 1 ∧ st'.steps = st.steps ∧ st'.round = st.round ∧ Below B w w'
theorem Bd.xform {B : Nat} {w : World} {bb : Nat} {st : St} {v : Value} {op : List Nat} {CV : Value} (h : Bd B w bb st ⟨v, op.length, litV op⟩ CV) : ∃ a c, v = .slice a op.length c ∧ (0 < op.length → ∃ vb, a = some ⟨vb, 0, none⟩ ∧ ∀ j x : Nat, op[j]? = some x → w.cell? ⟨vb, j, none⟩ = some (.int .i32 (x : Int))) := by
 have ho := h.own
 dsimp only at ho
 have ho2 := ho
 rcases ho.2 with ⟨h1, h2⟩ | ⟨g, cap, cur, h1, _⟩
 ·exact ⟨none, 0, by rw [h1, h2], fun h3 => by omega⟩
 ·refine ⟨_, cap, h1, fun _ => ⟨g, rfl, fun j x hx => ?_⟩⟩
  rw [h1] at ho2
  have hj := (List.getElem?_eq_some_iff.1 hx).1
  rw [ho2.cellAt j (by omega)]
  exact litV_get _ _ _ hx
end Go.Proofs.Ytefjicdhccfieaa

set_option maxRecDepth 100000
set_option maxHeartbeats 16000000
namespace Go.Proofs.Ytefjicdhccfieaa
open Go.RowKit
theorem add_any (F : List (List Int)) (B : Nat) (w : World) (bb : Nat) (st : St) (h : BD B w bb st) (g : Good F st) (a : Option Addr) (cc : Nat) (c : List Int) (R : RowAt B w a 1 (c.map intC)) (hc : c.length ≤ 16777216) (hlit : ∀ n, n ∈ c → n ≠ 0 ∧ n.natAbs ≤ st.V) (hncl : st.cls.length ≤ 16777216) :
  Calls Try.prog 17 #[.pointer (some ⟨bb, 0, none⟩), .slice a c.length cc] w fun e w' => e = .returned (.tuple #[]) ∧ AddP F c B w bb st w' := by
 have hV := h.hV
 obtain ⟨f9, -, -, -⟩ := h.fld
 have HG := hidden g
 have HBD := hidden h
 have HLIT := hidden hlit
 obtain ⟨dn, HDN⟩ : ∃ b, Hid (b = st.done) := ⟨_, rfl⟩
 rw [← HDN.out] at f9
 cases dn
 ·obtain ⟨X0, CV0, hb0⟩ := h.bd
  have OO := hidden (openOf_any B w bb st X0 CV0 hb0 a cc c R hc (by have := g.tn; omega) (g.no HDN.out.symm).hd.tlt hlit)
  have HINV := hidden (opAll_inv (g.no HDN.out.symm).hd.heldL hlit)
  obtain ⟨r, hr, hrest⟩ := (g.no HDN.out.symm).opened hlit
  rw [hr] at OO
  have HREST := hidden hrest
  clear hr hrest h g hlit hb0
  obtain ⟨x, HX⟩ : ∃ x, Hid (x = opAll st c) := ⟨_, rfl⟩
  rw [← HX.out] at OO HINV
  obtain ⟨x1, op, tt⟩ := x
  dsimp only at OO
  obtain ⟨st1, HST1⟩ : ∃ s : St, Hid (s = { st with reason := r }) := ⟨_, rfl⟩
  rw [← HST1.out] at OO HREST
  have HRST : Hid (Rest F st1) := HREST.out
  have HD1 : Hid (st1.done = false) := by show _ = _; rw [HST1.out]; exact HDN.out.symm
  have HV1 : Hid (st1.V = st.V) := by show _ = _; rw [HST1.out]
  have HH1 : Hid (st1.held = st.held) := by show _ = _; rw [HST1.out]
  have HSR : Hid (st1.steps = st.steps ∧ st1.round = st.round) := by rw [HST1.out]; exact ⟨rfl, rfl⟩
  have HLN : Hid (st1.cls.length = st.cls.length) := by show _ = _; rw [HST1.out]
  have HRD : Hid (∀ d, d ∈ st1.cls → d.round ≤ st1.round) := by rw [HST1.out]; exact HG.out.rd
  have HTN : Hid (st1.trail.length ≤ 200000) := by rw [HST1.out]; exact HG.out.tn
  replace HLIT : Hid (∀ n, n ∈ c → n ≠ 0 ∧ n.natAbs ≤ st1.V) := by rw [HV1.out]; exact HLIT.out
  have hmem : ∀ y, y ∈ op → ∃ n, n ∈ c ∧ y = litN n := HINV.out.mem
  have hall : ∀ n, n ∈ c → litN n ∈ op ∨ st.held.getD (litN n) 0 < 0 ∨ tt = true := HINV.out.all
  have htt : tt = true → (∃ n, n ∈ c ∧ 0 < st.held.getD (litN n) 0) ∨ ∃ n, n ∈ c ∧ oppN (litN n) ∈ op := HINV.out.tt
  have hnd : op.Nodup := HINV.out.nd
  have hlt : ∀ y, y ∈ op → y < 2 * st.V := HINV.out.lt
  have hze : ∀ y, y ∈ op → st.held.getD y 0 = 0 := HINV.out.zero
  rw [← HH1.out] at hall htt hze
  rw [← HV1.out] at hlt
  have HMEM := hidden hmem
  have HALL := hidden hall
  have HTT := hidden htt
  have HOP0 := hidden (show op.Nodup ∧ (∀ y, y ∈ op → y < 2 * st1.V) ∧ (∀ y, y ∈ op → st1.held.getD y 0 = 0) from ⟨hnd, hlt, hze⟩)
  clear hmem hall htt hnd hlt hze HX
  go_enter Try.func17, Try.ntmps17
  go_wp2_with fail
  go_at_call 38
  refine OO.out.mono ?_
  rintro e w1 ⟨v, rfl, hb1, hbb1⟩
  obtain ⟨va, vc, rfl, hvx⟩ := hb1.xform
  obtain ⟨on, HON⟩ : ∃ n, Hid (n = op.length) := ⟨_, rfl⟩
  rw [← HON.out] at hvx hb1 ⊢
  have HB1 := hidden hb1
  have HBB1 := hidden hbb1
  have HVX := hidden hvx
  clear hb1 hbb1 hvx OO f9
  cases tt
  ·replace HALL : Hid (∀ n, n ∈ c → litN n ∈ op ∨ st1.held.getD (litN n) 0 < 0) := fun n hn => by
    rcases HALL.out n hn with h | h | h
    ·exact .inl h
    ·exact .inr h
    ·cases h
   by_cases h0 : on = 0
   ·have h0I : (on : Int) = 0 := by omega
    obtain ⟨-, -, -, fz⟩ := HB1.out.bd.fld
    obtain ⟨f9, -, -, -⟩ := HB1.out.bd.fld
    have z9 := fz 9
    have HS := hidden (HB1.out.bd.dones true)
    have HCL : Hid (Clash (F ++ [c]) (fun _ => False)) := HRST.out.nothing HLIT.out (fun n hn => by
     rcases HALL.out n hn with h | h
     ·have : op = [] := List.eq_nil_of_length_eq_zero (by rw [← HON.out]; exact h0)
      rw [this] at h; cases h
     ·exact h)
    clear fz h0
    go_wp2_with fail
    generalize hW2 : World.setCell w1 _ _ = w2
    rw [hW2] at HS
    have HX : Hid (AddP F c B w bb st w2) := ⟨_, HS.out.1, ⟨HRST.out.wd, HRD.out, HTN.out, fun _ => HCL.out, fun e => (by cases e)⟩, HV1.out, by show st1.cls.length ≤ _; rw [HLN.out]; exact Nat.le_succ _, HSR.out.1, HSR.out.2, HBB1.out.trans HS.out.2⟩
    clear hW2 HS f9 z9
    go_wp2
    go_end0
    exact ⟨rfl, HX.out⟩
   ·have h0I : ¬ ((on : Int) = 0) := by omega
    obtain ⟨vb, rfl, hvc⟩ := HVX.out (by omega)
    clear HVX
    by_cases h1 : on = 1
    ·have h1I : (on : Int) = 1 := by omega
     obtain ⟨l, hl⟩ := getElem_lt (show 0 < op.length by rw [← HON.out]; omega)
     have hop : op = [l] := by
      cases op with
      | nil => cases hl
      | cons y ys =>
       have : ys = [] := List.eq_nil_of_length_eq_zero (by have := HON.out; simp at this; omega)
       subst this
       simp at hl; rw [hl]
     have cv0 := hvc 0 l hl
     have hlm : l ∈ op := List.mem_of_getElem? hl
     have hlV := HOP0.out.2.1 l hlm
     have hlz := HOP0.out.2.2 l hlm
     have HONE := hidden (HRST.out.one HLIT.out hlV hlz (HMEM.out l hlm) (fun n hn => by
      rcases HALL.out n hn with h | h
      ·rw [hop] at h; exact .inl (List.mem_singleton.1 h)
      ·exact .inr h))
     have HC := hidden (hold_any B w1 bb st1 _ _ l (-1) HB1.out hlV (by have := HTN.out; omega))
     have h1N : 0 < on := by omega
     clear hvc hl hop hlm h1
     go_upto_region 9 with fail
     go_at_call 39
     refine HC.out.mono ?_
     rintro e w2 ⟨rfl, hb2, hbb2⟩
     have HB2 := hidden hb2
     have HBB2 : Hid (Below B w w2) := HBB1.out.trans hbb2
     have PC := hidden (propagate_any (F ++ [c]) (Tl (st1.trail ++ [l])) (fun _ => False) st1.trail.length B w2 bb (st1.hold l (-1)) hb2.bd HONE.out.1 HONE.out.2 (by show st1.cls.length ≤ _; rw [HLN.out]; omega))
     clear hb2 hbb2 HC cv0
     go_wp2_with fail
     go_at_call 40
     refine PC.out.mono ?_
     rintro e w3 hp
     rcases hp with ⟨rfl, st3, hb3, hw3, hc3, h43, hk0, hk1, hbb3⟩ | ⟨ci, rfl, st3, hb3, hw3, hc3, hcl3, hbb3⟩
     ·obtain ⟨f9, -, -, fz⟩ := hb3.fld
      have z9 := fz 9
      have HS := hidden (hb3.dones false)
      have HGD : Hid (Good (F ++ [c]) { st3 with done := false }) := by
       have hr : Rest (F ++ [c]) st3 := rest_of hc3 h43 hk0 hk1 (fun q hq => by
        obtain ⟨y, hy, e⟩ := hq
        obtain ⟨ext, he⟩ := hw3.tr
        exact ⟨y, by rw [he]; exact List.mem_append_left _ hy, e⟩)
       exact Good.of hb3.hV rfl (hr.like rfl rfl rfl rfl rfl rfl rfl hr.wd) (rd_of hw3.rd hw3.round HRD.out)
      have HREL : Hid (st3.V = st.V ∧ st3.cls.length ≤ st.cls.length + 1 ∧ st3.steps = st.steps ∧ st3.round = st.round) := ⟨hw3.V.trans HV1.out, by rw [hw3.len]; show st1.cls.length ≤ _; rw [HLN.out]; exact Nat.le_succ _, hw3.steps.trans HSR.out.1, hw3.round.trans HSR.out.2⟩
      have HBB3 : Hid (Below B w w3) := HBB2.out.trans hbb3
      clear fz hb3 hw3 hc3 h43 hk0 hk1 hbb3 PC
      go_wp2_with fail
      generalize hW4 : World.setCell w3 _ _ = w4
      rw [hW4] at HS
      have HX : Hid (AddP F c B w bb st w4) := ⟨_, HS.out.1, HGD.out, HREL.out.1, HREL.out.2.1, HREL.out.2.2.1, HREL.out.2.2.2, HBB3.out.trans HS.out.2⟩
      clear hW4 HS f9 z9
      go_wp2
      go_end0
      exact ⟨rfl, HX.out⟩
     ·obtain ⟨f9, -, -, fz⟩ := hb3.fld
      have z9 := fz 9
      have HS := hidden (hb3.dones true)
      have HGD : Hid (Good (F ++ [c]) { st3 with done := true }) := by
       obtain ⟨c', hc', hm'⟩ := hcl3
       exact ⟨hc3.wd, rd_of hw3.rd hw3.round HRD.out, by have := hc3.hd.len; have := hb3.hV; show st3.trail.length ≤ _; omega, fun _ => clash_of hc3 hc' hm', fun e => (by cases e)⟩
      have HREL : Hid (st3.V = st.V ∧ st3.cls.length ≤ st.cls.length + 1 ∧ st3.steps = st.steps ∧ st3.round = st.round) := ⟨hw3.V.trans HV1.out, by rw [hw3.len]; show st1.cls.length ≤ _; rw [HLN.out]; exact Nat.le_succ _, hw3.steps.trans HSR.out.1, hw3.round.trans HSR.out.2⟩
      have HBB3 : Hid (Below B w w3) := HBB2.out.trans hbb3
      have hci : ((ci : Int) != -1) = true := by simp
      clear fz hb3 hw3 hc3 hcl3 hbb3 PC
      go_wp2_with fail
      generalize hW4 : World.setCell w3 _ _ = w4
      rw [hW4] at HS
      have HX : Hid (AddP F c B w bb st w4) := ⟨_, HS.out.1, HGD.out, HREL.out.1, HREL.out.2.1, HREL.out.2.2.1, HREL.out.2.2.2, HBB3.out.trans HS.out.2⟩
      clear hW4 HS f9 z9
      go_wp2
      go_end0
      exact ⟨rfl, HX.out⟩
    ·have h1I : ¬ ((on : Int) = 1) := by omega
     obtain ⟨l0, hl0⟩ := getElem_lt (show 0 < op.length by rw [← HON.out]; omega)
     obtain ⟨l1, hl1⟩ := getElem_lt (show 1 < op.length by rw [← HON.out]; omega)
     have HL0 := hidden hl0
     have HL1' := hidden hl1
     have HNE : Hid (l0 ≠ l1) := fun e => by subst e; have := nodup_get HOP0.out.1 hl0 hl1; omega
     have HLV0 : Hid (l0 < 2 * st1.V) := HOP0.out.2.1 l0 (List.mem_of_getElem? hl0)
     have HLV1 : Hid (l1 < 2 * st1.V) := HOP0.out.2.1 l1 (List.mem_of_getElem? hl1)
     have HOP : Hid (op.Nodup ∧ (∀ y, y ∈ op → y < 2 * st1.V) ∧ (∀ y, y ∈ op → st1.held.getD y 0 = 0) ∧ (∀ y, y ∈ op → ∃ n, n ∈ c ∧ y = litN n) ∧ ∀ n, n ∈ c → litN n ∈ op ∨ st1.held.getD (litN n) 0 < 0) := ⟨HOP0.out.1, HOP0.out.2.1, HOP0.out.2.2, HMEM.out, HALL.out⟩
     have HWL : Hid (∀ t l, (st1.W t l).length ≤ 16777216) := fun t l => by have := HRST.out.wd.len t l; rw [HLN.out] at this; omega
     obtain ⟨sl, R1, L1, hX1, hCV1⟩ := HB1.out
     have HR1 := hidden R1
     have HL1 := hidden L1
     have HX1 : Hid (sl (.lits st1.cls.length) = ⟨.slice (some ⟨vb, 0, none⟩) on vc, op.length, litV op⟩) := by show _ = _; rw [hX1, HON.out]
     obtain ⟨ic, hi, hz, hs, hby⟩ := info_cls
     have HI := hidden hi
     have HZ := hidden hz
     have HS := hidden hs
     have HY := hidden hby
     clear hi hz hs hby
     obtain ⟨cn, HCN⟩ : ∃ n, Hid (n = st1.cls.length) := ⟨_, rfl⟩
     obtain ⟨rn, HRN⟩ : ∃ n, Hid (n = st1.round) := ⟨_, rfl⟩
     obtain ⟨u, HUV⟩ : ∃ u, Hid ((sl .clauses).v = u) := ⟨_, rfl⟩
     have HOW : Hid (w1.ownsRow B 80 4 u cn (sl .clauses).xs) := by
      have := R1.rows .clauses
      rw [HUV.out, L1.clsN, ← HCN.out] at this
      exact this
     have hu1 : w1.cell? ⟨bb, 0, none⟩ = some u := by rw [R1.field 0, ← HUV.out]; rfl
     have f10 : w1.cell? ⟨bb, 10, none⟩ = some (.int .i64 (rn : Int)) := by rw [HRN.out]; exact R1.field 10
     have hcn : cn ≤ 16777216 := by rw [HCN.out, HLN.out]; exact hncl
     have hm1 : cn + 1 ≤ maxLen := by simp only [maxLen]; omega
     have hm2 : (cn + 1) * 48 ≤ 140737488355328 := by omega
     have hm3 : B ≤ ((w1.alloc (.cells #[.slice (some ⟨vb, 0, none⟩) on vc, .int .i64 2, .int .i64 0, .int .i64 (rn : Int)] 80)).drew).heap.size := by have := R1.size; simp; omega
     have hbl : bb < w1.heap.size := R1.lt
     have far : u.ownBlock ≠ some bb := by rw [← HUV.out]; exact R1.nb .clauses
     have hz0 : w1.frozen? ⟨bb, 0, none⟩ = false := R1.soft 0
     have KP : Hid (∀ w', w1.grownBy w' u.ownBlock → w'.cell? ⟨bb, 0, none⟩ = some u) := fun w' hg => (hg.cell_far ⟨bb, 0, none⟩ hbl (fun e => far e.symm)).trans hu1
     have KF : Hid (∀ w', w1.grownBy w' u.ownBlock → w'.frozen? ⟨bb, 0, none⟩ = false) := fun w' hg => (hg.frozen_far ⟨bb, 0, none⟩ hbl (fun e => far e.symm)).trans hz0
     have KT : Hid (∀ w', w1.grownBy w' u.ownBlock → (fun w' => w'.cell? ⟨bb, 10, none⟩ = some (.int .i64 (rn : Int))) w') := fun w' hg => (hg.cell_far ⟨bb, 10, none⟩ hbl (fun e => far e.symm)).trans f10
     have KL : Hid ((fun w' => w'.cell? ⟨bb, 10, none⟩ = some (.int .i64 (rn : Int))) w1) := f10
     have KSS : Hid (∀ (w' : World) (v : Value), (fun w' => w'.cell? ⟨bb, 10, none⟩ = some (.int .i64 (rn : Int))) w' → (fun w' => w'.cell? ⟨bb, 10, none⟩ = some (.int .i64 (rn : Int))) (w'.setCell ⟨bb, 0, none⟩ v)) := fun w' v hh => (World.cell?_setCell_other (h := fun e => by cases e) ..).trans hh
     have ecn : IntKind.i64.wrap (((cn : Int) + 1) - 1) = (cn : Int) := by rw [show ((cn : Int) + 1) - 1 = (cn : Int) by omega]; exact wrapI _ (by omega) (by omega)
     have ecn2 : IntKind.i32.wrap (cn : Int) = (cn : Int) := wrap32 _ (by omega) (by omega)
     clear hvc hl0 hl1 R1 L1 hX1 hCV1 hz0 f10
     go_upto_region 2 with fail
     refine wp_region_noPanic ?_
     refine wp_region_held_drew (S := (fun w' => w'.cell? ⟨bb, 10, none⟩ = some (.int .i64 (rn : Int)))) (by kernel_rfl) (by first | assumption | exact KL.out | exact KT.out _ (grown_refl' _ _) | exact KT.out _ (grown_ad _ _ _) | exact KT.out _ (by assumption) | exact KSS.out _ _ (by assumption)) (fun hHeld => ?_)
     refine tk 0 ?_
     refine tk 1 ?_
     refine tk 2 ?_
     refine tk 3 ?_
     refine tk 5 ?_
     refine tk 6 ?_
     refine tk 7 ?_
     refine tk 8 ?_
     refine tk 9 ?_
     refine tk 10 ?_
     refine wpAnyH_ready (rs := [4, 11]) (by kernel_rfl) (by simp) ?_
     refine AllReadyH.cons (o := _) rfl (fun K hK => ?_) ?_
     ·(try simp only [gA, gB, gC])
      go_simp
      refine hK.out _ _ (by first | assumption | exact KL.out | exact KT.out _ (grown_refl' _ _) | exact KT.out _ (grown_ad _ _ _) | exact KT.out _ (by assumption) | exact KSS.out _ _ (by assumption)) (fun hHeld4 => ?_)
      clear hK K
      (try simp only [Act.put]); (try simp only [sA]); (try simp only [sB, sC])
      refine wpAnyH_ready (rs := [11]) (by kernel_rfl) (by simp) ?_
      refine AllReadyH.cons (o := _) rfl (fun K hK => ?_) AllReadyH.nil
      (try simp only [gA, gB, gC])
      go_simp
      refine hK.out _ _ (by first | assumption | exact KL.out | exact KT.out _ (grown_refl' _ _) | exact KT.out _ (grown_ad _ _ _) | exact KT.out _ (by assumption) | exact KSS.out _ _ (by assumption)) (fun hHeld11 => ?_)
      clear hK K
      (try simp only [Act.put]); (try simp only [sA]); (try simp only [sB, sC])
      refine wpAnyH_ready (rs := [12]) (by kernel_rfl) (by simp) ?_
      refine AllReadyH.cons (o := _) rfl (fun K hK => ?_) AllReadyH.nil
      refine step_append_lies _ rfl (.tmp 20) (.tmp 27) 68 rfl B 80 ic _ 4 48 Try.underlying68 HI.out HZ.out HS.out HY.out rfl (by decide) u cn _ rfl (HOW.out.alloc _).drew ⟨w1.heap.size, 0, none⟩ 1 1 [.slice (some ⟨vb, 0, none⟩) on vc, .int .i64 2, .int .i64 0, .int .i64 (rn : Int)] rfl rfl (World.news_of_block (heap_new _ _)) (by simp [Value.oneCell']) (by decide) hm1 hm2 hm3 _ rfl ?_
      intro g cap w5 hown hgrow hat hlt5
      have HG5 := grown_trn (grown_ad _ _ _) hgrow
      have hc5 := KP.out w5 HG5
      have hf5 := KF.out w5 HG5
      refine hK.out _ _ (by first | assumption | exact KL.out | exact KT.out _ (grown_refl' _ _) | exact KT.out _ (grown_ad _ _ _) | exact KT.out _ (by assumption) | exact KSS.out _ _ (by assumption)) (fun hHeldp => ?_)
      clear hK K
      (try simp only [Act.put]); (try simp only [sA]); (try simp only [sB, sC])
      refine tk 13 ?_
      refine tk 14 ?_
      refine wpAnyH_ready (rs := [15]) (by kernel_rfl) (by simp) ?_
      refine AllReadyH.cons (o := _) rfl (fun K hK => ?_) AllReadyH.nil
      (try simp only [gA, gB, gC])
      go_simp
      refine hK.out _ _ (by first | assumption | exact KL.out | exact KT.out _ (grown_refl' _ _) | exact KT.out _ (grown_ad _ _ _) | exact KT.out _ (by assumption) | exact KSS.out _ _ (by assumption)) (fun hHeld15 => ?_)
      clear hK K
      (try simp only [Act.put]); (try simp only [sA]); (try simp only [sB, sC])
      refine wpAnyH_done (by kernel_rfl) ?_ _
      refine NoPanic.normal ?_
      obtain ⟨X6, hb6, hbb6⟩ := push_rows HR1.out HL1.out ⟨op, 2, 0, st1.round⟩ (v := .slice (some ⟨vb, 0, none⟩) on vc) HX1.out (by rw [HUV.out]; exact HG5) (by
       rw [← HCN.out, ← HRN.out]; exact hown) (fun k hk => by
       rcases hat with h | h
       ·exact .inl (by rw [HUV.out, h]; exact hk)
       ·refine .inr ?_
        cases hk
        show w1.heap.size ≤ g
        simp at h
        omega)
      rw [← HCN.out] at hb6 hbb6
      generalize hW6 : World.setCell w5 _ _ = w6
      rw [hW6] at hb6 hbb6
      have HB6 := hidden hb6
      have HBB6 : Hid (Below B w w6) := HBB1.out.trans hbb6
      clear hW6 hb6 hbb6 hown hgrow hat hlt5 HG5 hc5 hf5 KP KF KT KSS KL HOW hu1
      obtain ⟨a6, c6, hcv6, f06⟩ := HB6.out.cv
      have WC := hidden (watch_any B w6 bb (st1.push ⟨op, 2, 0, st1.round⟩) X6 _ HB6.out cn 0 ⟨op, 2, 0, st1.round⟩ (by rw [HCN.out]; simp [St.push]) (by decide) l0 l1 HL0.out HL1'.out HLV0.out HLV1.out HNE.out (by simp [St.push]; have := HCN.out; omega) (by have := HWL.out 0 l0; show (st1.W 0 l0).length ≤ _; omega) (by have := HWL.out 0 l1; show (st1.W 0 l1).length ≤ _; omega))
      clear hcv6
      go_wp2_with fail
      go_at_call 41
      refine WC.out.mono ?_
      rintro e w7 ⟨rfl, hb7, hbb7⟩
      have HX : Hid (AddP F c B w bb st w7) := by
       have hg := HRST.out.push HLIT.out HOP.out.1 HOP.out.2.1 HOP.out.2.2.1 HOP.out.2.2.2.1 HOP.out.2.2.2.2 HL0.out HL1'.out st1.round
       rw [← HCN.out] at hg
       refine ⟨_, hb7.bd, Good.of HB6.out.bd.hV HD1.out hg (fun d hd => ?_), HV1.out, ?_, HSR.out.1, HSR.out.2, HBB6.out.trans hbb7⟩
       ·obtain ⟨d', hd', rfl | rfl⟩ := mem_mod hd
        ·rcases List.mem_append.1 hd' with h | h
         ·exact HRD.out _ h
         ·rw [List.mem_singleton.1 h]; exact Nat.le_refl _
        ·rcases List.mem_append.1 hd' with h | h
         ·exact HRD.out d' h
         ·rw [List.mem_singleton.1 h]; exact Nat.le_refl _
       ·show (List.modify (st1.cls ++ [_]) cn _).length ≤ _
        simp [HLN.out]
      clear hb7 hbb7 WC
      go_wp2
      go_end0
      exact ⟨rfl, HX.out⟩
     refine AllReadyH.cons (o := _) rfl (fun K hK => ?_) AllReadyH.nil
     (try simp only [gA, gB, gC])
     go_simp
     refine hK.out _ _ (by first | assumption | exact KL.out | exact KT.out _ (grown_refl' _ _) | exact KT.out _ (grown_ad _ _ _) | exact KT.out _ (by assumption) | exact KSS.out _ _ (by assumption)) (fun hHeld11 => ?_)
     clear hK K
     (try simp only [Act.put]); (try simp only [sA]); (try simp only [sB, sC])
     refine wpAnyH_ready (rs := [4]) (by kernel_rfl) (by simp) ?_
     refine AllReadyH.cons (o := _) rfl (fun K hK => ?_) AllReadyH.nil
     (try simp only [gA, gB, gC])
     go_simp
     refine hK.out _ _ (by first | assumption | exact KL.out | exact KT.out _ (grown_refl' _ _) | exact KT.out _ (grown_ad _ _ _) | exact KT.out _ (by assumption) | exact KSS.out _ _ (by assumption)) (fun hHeld4 => ?_)
     clear hK K
     (try simp only [Act.put]); (try simp only [sA]); (try simp only [sB, sC])
     refine wpAnyH_ready (rs := [12]) (by kernel_rfl) (by simp) ?_
     refine AllReadyH.cons (o := _) rfl (fun K hK => ?_) AllReadyH.nil
     refine step_append_lies _ rfl (.tmp 20) (.tmp 27) 68 rfl B 80 ic _ 4 48 Try.underlying68 HI.out HZ.out HS.out HY.out rfl (by decide) u cn _ rfl (HOW.out.alloc _).drew ⟨w1.heap.size, 0, none⟩ 1 1 [.slice (some ⟨vb, 0, none⟩) on vc, .int .i64 2, .int .i64 0, .int .i64 (rn : Int)] rfl rfl (World.news_of_block (heap_new _ _)) (by simp [Value.oneCell']) (by decide) hm1 hm2 hm3 _ rfl ?_
     intro g cap w5 hown hgrow hat hlt5
     have HG5 := grown_trn (grown_ad _ _ _) hgrow
     have hc5 := KP.out w5 HG5
     have hf5 := KF.out w5 HG5
     refine hK.out _ _ (by first | assumption | exact KL.out | exact KT.out _ (grown_refl' _ _) | exact KT.out _ (grown_ad _ _ _) | exact KT.out _ (by assumption) | exact KSS.out _ _ (by assumption)) (fun hHeldp => ?_)
     clear hK K
     (try simp only [Act.put]); (try simp only [sA]); (try simp only [sB, sC])
     refine tk 13 ?_
     refine tk 14 ?_
     refine wpAnyH_ready (rs := [15]) (by kernel_rfl) (by simp) ?_
     refine AllReadyH.cons (o := _) rfl (fun K hK => ?_) AllReadyH.nil
     (try simp only [gA, gB, gC])
     go_simp
     refine hK.out _ _ (by first | assumption | exact KL.out | exact KT.out _ (grown_refl' _ _) | exact KT.out _ (grown_ad _ _ _) | exact KT.out _ (by assumption) | exact KSS.out _ _ (by assumption)) (fun hHeld15 => ?_)
     clear hK K
     (try simp only [Act.put]); (try simp only [sA]); (try simp only [sB, sC])
     refine wpAnyH_done (by kernel_rfl) ?_ _
     refine NoPanic.normal ?_
     obtain ⟨X6, hb6, hbb6⟩ := push_rows HR1.out HL1.out ⟨op, 2, 0, st1.round⟩ (v := .slice (some ⟨vb, 0, none⟩) on vc) HX1.out (by rw [HUV.out]; exact HG5) (by
      rw [← HCN.out, ← HRN.out]; exact hown) (fun k hk => by
      rcases hat with h | h
      ·exact .inl (by rw [HUV.out, h]; exact hk)
      ·refine .inr ?_
       cases hk
       show w1.heap.size ≤ g
       simp at h
       omega)
     rw [← HCN.out] at hb6 hbb6
     generalize hW6 : World.setCell w5 _ _ = w6
     rw [hW6] at hb6 hbb6
     have HB6 := hidden hb6
     have HBB6 : Hid (Below B w w6) := HBB1.out.trans hbb6
     clear hW6 hb6 hbb6 hown hgrow hat hlt5 HG5 hc5 hf5 KP KF KT KSS KL HOW hu1
     obtain ⟨a6, c6, hcv6, f06⟩ := HB6.out.cv
     have WC := hidden (watch_any B w6 bb (st1.push ⟨op, 2, 0, st1.round⟩) X6 _ HB6.out cn 0 ⟨op, 2, 0, st1.round⟩ (by rw [HCN.out]; simp [St.push]) (by decide) l0 l1 HL0.out HL1'.out HLV0.out HLV1.out HNE.out (by simp [St.push]; have := HCN.out; omega) (by have := HWL.out 0 l0; show (st1.W 0 l0).length ≤ _; omega) (by have := HWL.out 0 l1; show (st1.W 0 l1).length ≤ _; omega))
     clear hcv6
     go_wp2_with fail
     go_at_call 41
     refine WC.out.mono ?_
     rintro e w7 ⟨rfl, hb7, hbb7⟩
     have HX : Hid (AddP F c B w bb st w7) := by
      have hg := HRST.out.push HLIT.out HOP.out.1 HOP.out.2.1 HOP.out.2.2.1 HOP.out.2.2.2.1 HOP.out.2.2.2.2 HL0.out HL1'.out st1.round
      rw [← HCN.out] at hg
      refine ⟨_, hb7.bd, Good.of HB6.out.bd.hV HD1.out hg (fun d hd => ?_), HV1.out, ?_, HSR.out.1, HSR.out.2, HBB6.out.trans hbb7⟩
      ·obtain ⟨d', hd', rfl | rfl⟩ := mem_mod hd
       ·rcases List.mem_append.1 hd' with h | h
        ·exact HRD.out _ h
        ·rw [List.mem_singleton.1 h]; exact Nat.le_refl _
       ·rcases List.mem_append.1 hd' with h | h
        ·exact HRD.out d' h
        ·rw [List.mem_singleton.1 h]; exact Nat.le_refl _
      ·show (List.modify (st1.cls ++ [_]) cn _).length ≤ _
       simp [HLN.out]
     clear hb7 hbb7 WC
     go_wp2
     go_end0
     exact ⟨rfl, HX.out⟩
  ·have HX : Hid (AddP F c B w bb st w1) := ⟨st1, HB1.out.bd, Good.of HB1.out.bd.hV HD1.out (HRST.out.true HLIT.out HMEM.out (HTT.out rfl)) HRD.out, HV1.out, by rw [HLN.out]; exact Nat.le_succ _, HSR.out.1, HSR.out.2, HBB1.out⟩
   go_wp2
   go_end0
   exact ⟨rfl, HX.out⟩
 ·have HX : Hid (AddP F c B w bb st w) := ⟨st, h, ⟨g.wd, g.rd, g.tn, fun e => (g.yes e).mono (fun x hx => List.mem_append_left _ hx) (fun _ h => h), fun e => (by rw [← HDN.out] at e; cases e)⟩, rfl, Nat.le_succ _, rfl, rfl, Below.refl _ _⟩
  clear h g R hc hlit
  go_enter Try.func17, Try.ntmps17
  go_wp2
  (try simp only [Exit.inBlock, Exit.then])
  refine bodyPost_ret (results_none rfl _ _ _) rfl ?_
  exact ⟨rfl, HX.out⟩
end Go.Proofs.Ytefjicdhccfieaa
