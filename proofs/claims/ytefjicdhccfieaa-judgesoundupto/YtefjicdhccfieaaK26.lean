import Derived.Test.YtefjicdhccfieaaK01
import Derived.Test.YtefjicdhccfieaaK25
set_option maxRecDepth 100000
set_option maxHeartbeats 16000000
namespace Go.Proofs.Ytefjicdhccfieaa
open Go.RowKit
theorem openOf_any (B : Nat) (w : World) (bb : Nat) (st : St) (X : Slot) (CV : Value) (h : Bd B w bb st X CV) (a : Option Addr) (cc : Nat) (c : List Int) (R : RowAt B w a 1 (c.map intC)) (hc : c.length ≤ 16777216) (ht : st.trail.length ≤ 16777216) (hin : ∀ x, x ∈ st.trail → x < 2 * st.V) (hlit : ∀ n, n ∈ c → n ≠ 0 ∧ n.natAbs ≤ st.V) :
  Calls Try.prog 38 #[.pointer (some ⟨bb, 0, none⟩), .slice a c.length cc] w fun e w' => ∃ v, e = .returned (.tuple #[v, .bool (opAll st c).2.2]) ∧ Bd B w' bb ((opAll st c).1.forget st.trail.length) ⟨v, (opAll st c).2.1.length, litV (opAll st c).2.1⟩ CV ∧ Below B w w' := by
 have hV : st.V ≤ 100000 := by obtain ⟨_, _, L, _⟩ := h; exact L.hV
 have HR := hidden R
 have HB0 := hidden h.drop
 have HLIT := hidden hlit
 have HIN := hidden hin
 obtain ⟨ta, tc, f6⟩ := h.trailC
 obtain ⟨il, hi, hz, hs, hby⟩ := info_lit
 have HI := hidden hi
 have HZ := hidden hz
 have HS := hidden hs
 have HY := hidden hby
 clear hi hz hs hby h R hin hlit
 obtain ⟨tn, HTN⟩ : ∃ n, Hid (n = st.trail.length) := ⟨_, rfl⟩
 rw [← HTN.out] at f6 ht
 go_enter Try.func38, Try.ntmps38
 go_wp2_with fail
 clear f6
 go_loopw [4, 5, 17] (fun v' t' i' w' => ∃ (k : Nat) (x : St × List Nat × Bool), k ≤ c.length ∧ i' = .int .i64 k ∧ t' = .bool x.2.2 ∧ Hid (x = opAll st (c.take k)) ∧ Hid (OpOk st k x) ∧ Hid (Bd B w' bb x.1 ⟨v', x.2.1.length, litV x.2.1⟩ CV) ∧ Hid (Below B w w')) (fun _ _ i' _ => c.length - (intOf i').toNat)
 case atStart => exact ⟨0, (st, [], false), Nat.zero_le _, rfl, rfl, by simp [Hid, opAll], OpOk.zero HIN.out, HB0.out, Below.refl _ _⟩
 case round =>
  obtain ⟨k, ⟨sx, op, t⟩, hk, rfl, rfl, HX, HOK, HBd, HBr⟩ := hrel
  dsimp only at HBd
  by_cases hlt : k < c.length
  ·obtain ⟨n, hn⟩ := getElem_lt hlt
   obtain ⟨rb, ro, rfl, hrb, cx⟩ := HR.out.intR hn
   obtain ⟨hn0, hnV⟩ := HLIT.out n (List.mem_of_getElem? hn)
   have c0 := (HBr.out.cell (p := ⟨rb, ro + k, none⟩) hrb).trans cx
   have HNX : Hid (opAll st (c.take (k + 1)) = opStep (sx, op, t) n) := by
    show _ = _
    rw [opAll_next st c k n hn, ← HX.out]
   have HOK2 := hidden (HOK.out.next hn0 hnV)
   have hltI : (k : Int) < (c.length : Int) := by omega
   have e3 : IntKind.i64.wrap ((k : Int) + 1) = (k : Int) + 1 := wrapI _ (by omega) (by omega)
   have hl := litN_lt hn0 hnV
   have LO := hidden (literalOf_any wr n hn0 (by omega))
   obtain ⟨l, HL⟩ : ∃ l, Hid (l = litN n) := ⟨_, rfl⟩
   rw [← HL.out] at hl LO
   have hVx : sx.V = st.V := HOK.out.V
   obtain ⟨hb, hcp, f3, fl⟩ := HBd.out.heldC (l := l) (by rw [hVx]; exact hl)
   obtain ⟨N, HN⟩ : ∃ N, Hid (N = 2 * sx.V) := ⟨_, rfl⟩
   rw [← HN.out] at f3
   have hlN : (l : Int) < (N : Int) := by have := HN.out; omega
   obtain ⟨x, HXV⟩ : ∃ x, Hid (x = sx.held.getD l 0) := ⟨_, rfl⟩
   rw [← HXV.out] at fl
   have HST : Hid (opStep (sx, op, t) n = if x = 0 then (sx.hold (oppN l) (-1), op ++ [l], t) else (sx, op, t || decide (0 < x))) := by
    show _ = _
    unfold opStep
    rw [← HL.out, ← HXV.out]
   clear hn cx
   go_upto_region 5 with fail
   go_wp2_with fail
   go_at_call 43
   refine LO.out.mono ?_
   rintro e w1 ⟨rfl, rfl⟩
   by_cases h0 : x = 0
   ·subst h0
    rw [if_pos rfl] at HST
    have hlx : l < 2 * sx.V := by rw [hVx]; exact hl
    have OP := hidden (opposite_any w1 l (by omega))
    have htl := HOK.out.len
    have hol := HOK.out.ol
    dsimp only at htl hol
    have HO := hidden (hold_any B w1 bb sx _ _ (oppN l) (-1) HBd.out (oppN_lt hlx) (by have := HTN.out; omega))
    obtain ⟨o, HOO⟩ : ∃ o, Hid (o = oppN l) := ⟨_, rfl⟩
    rw [← HOO.out] at OP HO HST
    have hm1 : op.length + 1 ≤ maxLen := by simp only [maxLen]; omega
    have hm2 : (op.length + 1) * 4 ≤ 140737488355328 := by omega
    cases t
    all_goals
     go_wp2_with fail
     go_at_call 44
     refine OP.out.mono ?_
     rintro e w2 ⟨rfl, rfl⟩
     go_wp2_with fail
     go_at_call 39
     refine HO.out.mono ?_
     rintro e w3 ⟨rfl, hbd, hbe⟩
     have HB3 := hidden hbd
     have HE3 := hidden hbe
     have HOW := hidden hbd.own
     have hm3 : B ≤ (w3.alloc (.cells #[.int .i32 (l : Int)] 77)).heap.size := by have := hbd.lt; simp; omega
     clear hbd hbe f3 fl c0
     have tok : True := trivial
     go_wp2_with (have _t := tok; at_builtin; (refine wpList_append_lies _ rfl (.tmp 46) (.tmp 48) 71 rfl B 77 il _ 1 4 Try.underlying71 HI.out HZ.out HS.out HY.out rfl (by decide) u4 op.length _ rfl (HOW.out.alloc _) ⟨w3.heap.size, 0, none⟩ 1 1 [.int .i32 (l : Int)] rfl rfl (World.news_of_block (heap_new _ _)) (by simp [Value.oneCell']) (by decide) hm1 hm2 hm3 _ rfl ?_; intro g cap w5 hown hgrow hat5 hlt5; clear tok))
     obtain ⟨hb5, he5⟩ := HB3.out.grow (X' := ⟨.slice (some ⟨g, 0, none⟩) (op.length + 1) cap, (op ++ [l]).length, litV (op ++ [l])⟩) (grown_trn (World.grownBy_alloc w3 _ _) hgrow) (by
      rw [litV_app, List.length_append]; exact hown) (fun k hk => by
      have e : g = k := by simpa [Value.ownBlock] using hk
      rcases hat5 with h | h
      ·exact .inl (by rw [← e]; exact h)
      ·simp at h; exact .inr (by omega))
     have HB5 := hidden hb5
     have HE5 : Hid (Below B w w5) := HBr.out.trans (HE3.out.trans he5)
     clear hb5 he5 hown hgrow hat5 hlt5 HOW
     go_wp2
     go_roundw
     case measure => simp [intOf]; omega
     case rel => exact ⟨k + 1, opAll st (c.take (k + 1)), by omega, by simp, by first | (rw [HNX.out, HST.out]; done) | (rw [HNX.out, HST.out]; simp; done) | (rw [HNX.out, HST.out]; simp; omega), rfl, by rw [HNX.out]; exact HOK2.out, by rw [HNX.out, HST.out]; exact HB5.out, HE5.out⟩
   ·rw [if_neg h0] at HST
    by_cases hx : 0 < x
    ·have HT : Hid ((t || decide (0 < x)) = true) := by simp [Hid, hx]
     rw [HT.out] at HST
     cases t
     all_goals
      go_wp2
      go_roundw
      case measure => simp [intOf]; omega
      case rel => exact ⟨k + 1, opAll st (c.take (k + 1)), by omega, by simp, by first | (rw [HNX.out, HST.out]; done) | (rw [HNX.out, HST.out]; simp; done) | (rw [HNX.out, HST.out]; simp; omega), rfl, by rw [HNX.out]; exact HOK2.out, by rw [HNX.out, HST.out]; exact HBd.out, HBr.out⟩
    ·have HT : Hid ((t || decide (0 < x)) = t) := by simp [Hid, hx]
     rw [HT.out] at HST
     cases t
     all_goals
      go_wp2
      go_roundw
      case measure => simp [intOf]; omega
      case rel => exact ⟨k + 1, opAll st (c.take (k + 1)), by omega, by simp, by first | (rw [HNX.out, HST.out]; done) | (rw [HNX.out, HST.out]; simp; done) | (rw [HNX.out, HST.out]; simp; omega), rfl, by rw [HNX.out]; exact HOK2.out, by rw [HNX.out, HST.out]; exact HBd.out, HBr.out⟩
  ·have hge : ¬ ((k : Int) < (c.length : Int)) := by omega
   have htl := HOK.out.len
   have hge2 := HOK.out.ge
   dsimp only at htl hge2
   have FG := hidden (forget_any B wr bb sx _ _ tn HBd.out (by have := HTN.out; omega) (by have := HTN.out; omega) (fun y hy => by rw [show sx.V = st.V from HOK.out.V]; exact HOK.out.inn y hy))
   have HEQ : Hid (opAll st c = (sx, op, t)) := by
    have := HX.out
    rw [List.take_of_length_le (by omega)] at this
    exact this.symm
   clear HX HOK htl hge2
   go_wp2_with fail
   go_at_call 42
   refine FG.out.mono ?_
   rintro e w8 ⟨rfl, hb8, he8⟩
   have HB8 := hidden hb8
   have HE8 : Hid (Below B w w8) := HBr.out.trans he8
   clear hb8 he8 FG
   go_wp2
   go_ret2
   exact ⟨_, by rw [HEQ.out]; rfl, by rw [HEQ.out, ← HTN.out]; exact HB8.out, HE8.out⟩
end Go.Proofs.Ytefjicdhccfieaa

set_option maxRecDepth 100000
set_option maxHeartbeats 16000000
namespace Go.Proofs.Ytefjicdhccfieaa
open Go.RowKit
def addW (W : Nat → Nat → List (Nat × Nat)) (t l : Nat) (e : Nat × Nat) : Nat → Nat → List (Nat × Nat) := fun t' l' => if t' = t ∧ l' = l then W t l ++ [e] else W t' l'
def St.tierAt (st : St) (i t : Nat) : St := { st with cls := st.cls.modify i fun c => { c with tier := t } }
def St.addW (st : St) (t l : Nat) (e : Nat × Nat) : St := { st with W := Go.Proofs.Ytefjicdhccfieaa.addW st.W t l e }
def St.watch (st : St) (i t : Nat) : St :=
 match st.cls[i]? with
 | none => st
 | some c => ((st.tierAt i t).addW t (c.l.getD 0 0) (i, c.l.getD 1 0)).addW t (c.l.getD 1 0) (i, c.l.getD 0 0)
theorem wlV_app (l : List (Nat × Nat)) (e : Nat × Nat) : wlV (l ++ [e]) = wlV l ++ [.int .i32 (e.1 : Int), .int .i32 (e.2 : Int)] := by simp [wlV]
theorem Link.tierAt {sl : Site → Slot} {st : St} (h : Link sl st) (i t : Nat) : Link (setS sl .clauses ⟨(sl .clauses).v, (sl .clauses).n, (sl .clauses).xs.set (4 * i + 2) (.int .i64 (t : Int))⟩) (st.tierAt i t) := by
 refine ⟨h.hV, ?_, h.heldL, ?_, h.reasonL, ?_, h.usedL, ?_, ?_, ?_, ?_, ?_, ?_⟩
 ·simpa [setS, St.tierAt] using h.held
 ·simpa [setS, St.tierAt] using h.reason
 ·simpa [setS, St.tierAt] using h.used
 ·simpa [setS, St.tierAt] using h.trail
 ·simpa [setS, St.tierAt] using h.clsN
 ·intro j c hc
  simp only [St.tierAt, List.getElem?_modify] at hc
  cases hj : st.cls[j]? with
  | none => rw [hj] at hc; cases hc
  | some d =>
   rw [hj] at hc
   obtain ⟨h0, h1, h2, h3⟩ := h.cls j d hj
   rw [setS_same, setS_other _ _ (by intro e; cases e)]
   dsimp only
   by_cases e : i = j
   ·subst e
    simp at hc
    subst hc
    have hlt : 4 * i + 2 < (sl .clauses).xs.length := (List.getElem?_eq_some_iff.1 h2).1
    refine ⟨?_, ?_, ?_, ?_⟩
    ·rw [List.getElem?_set_ne (by omega)]; exact h0
    ·rw [List.getElem?_set_ne (by omega)]; exact h1
    ·rw [List.getElem?_set_self hlt]
    ·rw [List.getElem?_set_ne (by omega)]; exact h3
   ·simp [e] at hc
    subst hc
    refine ⟨?_, ?_, ?_, ?_⟩
    ·rw [List.getElem?_set_ne (by omega)]; exact h0
    ·rw [List.getElem?_set_ne (by omega)]; exact h1
    ·rw [List.getElem?_set_ne (by omega)]; exact h2
    ·rw [List.getElem?_set_ne (by omega)]; exact h3
 ·intro j c hc
  simp only [St.tierAt, List.getElem?_modify] at hc
  cases hj : st.cls[j]? with
  | none => rw [hj] at hc; cases hc
  | some d =>
   rw [hj] at hc
   have h0 := h.lits j d hj
   rw [setS_other _ _ (by intro e; cases e)]
   by_cases e : i = j
   ·subst e
    simp at hc
    subst hc
    exact h0
   ·simp [e] at hc
    subst hc
    exact h0
 ·intro t ht
  simpa [setS, St.tierAt] using h.row t ht
 ·intro t l' ht hl
  simpa [setS, St.tierAt] using h.wl t l' ht hl
theorem Link.addW {sl : Site → Slot} {st : St} (h : Link sl st) (t l : Nat) (ht : t < 2) (hl : l < 2 * st.V) (e : Nat × Nat) (v : Value) :
  Link (setS (setS sl (.wl t l) ⟨v, (sl (.wl t l)).n + 1, (sl (.wl t l)).xs ++ [.int .i32 (e.1 : Int), .int .i32 (e.2 : Int)]⟩) (.row t) ⟨(sl (.row t)).v, (sl (.row t)).n, (sl (.row t)).xs.set l v⟩) (st.addW t l e) := by
 refine ⟨h.hV, ?_, h.heldL, ?_, h.reasonL, ?_, h.usedL, ?_, ?_, ?_, ?_, ?_, ?_⟩
 ·simpa [setS, St.addW] using h.held
 ·simpa [setS, St.addW] using h.reason
 ·simpa [setS, St.addW] using h.used
 ·simpa [setS, St.addW] using h.trail
 ·simpa [setS, St.addW] using h.clsN
 ·intro j c hc
  simpa [setS, St.addW] using h.cls j c hc
 ·intro j c hc
  simpa [setS, St.addW] using h.lits j c hc
 ·intro t' ht'
  obtain ⟨h1, h2⟩ := h.row t' ht'
  by_cases e1 : t' = t
  ·subst e1
   rw [setS_same]
   refine ⟨h1, fun l' hl' => ?_⟩
   dsimp only
   rw [setS_other _ _ (by intro e; cases e)]
   by_cases e2 : l' = l
   ·subst e2
    rw [setS_same, List.getElem?_set_self (by have := (List.getElem?_eq_some_iff.1 (h2 l' hl')).1; exact this)]
   ·rw [setS_other _ _ (by intro e; injection e; omega), List.getElem?_set_ne (by omega)]
    exact h2 l' hl'
  ·rw [setS_other _ _ (by intro e; injection e; omega), setS_other _ _ (by intro e; cases e)]
   refine ⟨h1, fun l' hl' => ?_⟩
   rw [setS_other _ _ (by intro e; cases e), setS_other _ _ (by intro e; injection e; omega)]
   exact h2 l' hl'
 ·intro t' l' ht' hl'
  obtain ⟨h1, h2⟩ := h.wl t' l' ht' hl'
  rw [setS_other _ _ (by intro e; cases e)]
  by_cases e1 : t' = t ∧ l' = l
  ·obtain ⟨rfl, rfl⟩ := e1
   rw [setS_same]
   simp only [St.addW, Go.Proofs.Ytefjicdhccfieaa.addW, and_self, if_true, wlV_app, List.length_append]
   exact ⟨by rw [h1]; rfl, by rw [h2]⟩
  ·rw [setS_other _ _ (by intro e; injection e with e2 e3; exact e1 ⟨e2, e3⟩)]
   simp only [St.addW, Go.Proofs.Ytefjicdhccfieaa.addW, if_neg e1]
   exact ⟨h1, h2⟩
end Go.Proofs.Ytefjicdhccfieaa
