import Derived.Test.YtibjgoigdajkkaaDoorJ13
import Derived.Deep.AppendLies
namespace Go.Proofs.YtibjgoigdajkkaaDoor
open Go.RowKit

theorem row_lit (w : World) (l : List Bool) : RowAt (w.alloc (.cells (l.map bV).toArray 4)).heap.size (w.alloc (.cells (l.map bV).toArray 4)) (some ⟨w.heap.size, 0, none⟩) 1 (l.map boolC) := fun _ =>
  ⟨w.heap.size, 0, rfl, by simp, fun i cs hi j x hx => by
    rw [List.getElem?_map] at hi
    cases hq : l[i]? with
    | none => rw [hq] at hi; cases hi
    | some y =>
      rw [hq] at hi
      have ecs : boolC y = cs := by simpa using hi
      subst ecs
      have hj : j = 0 := by
        rcases j with _ | j
        · rfl
        · simp [boolC] at hx
      subst hj
      have ex : bV y = x := by simpa [boolC, bV] using hx
      subst ex
      refine (Blk.new w 4 _).cell ?_
      simp [hq]⟩
theorem inRow_inC (n : Nat) (row : List Bool) : inRow n row = inC n row := rfl
theorem stC_length (N : CnD) (tr : List (List Bool)) (st : List Bool) (h : st.length = N.regs.length) : (stC N st tr).length = N.regs.length := by
  induction tr generalizing st with
  | nil => exact h
  | cons a t ih => exact ih (nextC N (cycC N a st)) (by unfold nextC; simp)
set_option maxRecDepth 100000 in
set_option maxHeartbeats 16000000 in
theorem configRun_doc (B : Nat) (w : World) (S : CnS) (N : CnD) (h : CnAt B w S N) (hB : B ≤ w.heap.size) (ni nr nw : Nat) (hf : FitN N ni nr nw) (hbits : ∀ d, d ∈ N.cols → ∀ e, e ∈ d.cs → 0 ≤ e.bits) (hnc : N.cols.length ≤ 100) (ta : Option Addr) (tc : Nat) (trs : List TR) (ht : TrAt B w ta trs) :
    Calls Tryd.prog 12 #[.agg (S.cells N), .slice ta trs.length tc] w fun e w' => ∃ v, ∃ rows : List RD, e = .returned v ∧ w'.ownsRow w.heap.size 22 1 v trs.length (rows.map RD.v) ∧ rows.map RD.l = runC N (trs.map TR.l) (N.regs.map RgD.init) ∧ (∀ r, r ∈ rows → BS w' r.v r.l) ∧ Below w.heap.size w w' := by
  have HF := hidden hf
  have HBT := hidden hbits
  have hlen := ht.len
  have b0 := hf.b0
  have b1 := hf.b1
  have b2 := hf.b2
  have hrl := hf.rl
  have hol := hf.ol
  have HRLN := hidden hrl
  obtain ⟨nc, HNC⟩ : ∃ n, Hid (N.cols.length = n) := ⟨_, rfl⟩
  rw [HNC.out] at hnc
  obtain ⟨ib, hib, hzb, hsb, hbb⟩ := info_bool
  have HI := hidden hib
  have HZ := hidden hzb
  have HS := hidden hsb
  have HBY := hidden hbb
  clear hib hzb hsb hbb
  obtain ⟨ic, hib, hzb, hsb, hbb⟩ := info_sl
  have HI2 := hidden hib
  have HZ2 := hidden hzb
  have HS2 := hidden hsb
  have HBY2 := hidden hbb
  clear hib hzb hsb hbb hf hbits hrl
  unfold CnS.cells
  go_enter Tryd.func12, Tryd.ntmps12
  go_upto_region 1 with fail
  generalize hW : World.alloc w _ = W
  obtain ⟨pg, hpg⟩ : ∃ x, x = w.heap.size := ⟨_, rfl⟩
  have HB1 : Hid (Below w.heap.size w W) := by rw [← hW]; exact (Below.refl _ _).alloc (Nat.le_refl _) _
  have HX : Hid (CBoxAt W pg S N) := by rw [← hW, hpg]; exact CBoxAt.new w S N
  rw [← hpg]
  have hwW : w.heap.size ≤ W.heap.size := HB1.out.size
  have HAW : Hid (CnAt B W S N) := h.to (HB1.out.mono hB)
  have HTW : Hid (TrAt B W ta trs) := ht.to (HB1.out.mono hB)
  have hBW : B ≤ W.heap.size := Nat.le_trans hB hwW
  clear hW hpg h ht
  go_wp2_with fail
  -- the registers' first values
  go_loopw [5, 6] (fun sv i' w' => ∃ (k : Nat), k ≤ nr ∧ i' = .int .i64 k ∧ Hid (w'.ownsRow W.heap.size 4 1 sv k (((N.regs.take k).map RgD.init).map bV)) ∧ Hid (Below W.heap.size W w')) (fun _ i' _ => nr - (intOf i').toNat)
  case atStart => exact ⟨0, Nat.zero_le _, rfl, World.ownsRow_nil _ _ _ _, Below.refl _ _⟩
  case round =>
    obtain ⟨k, hk, rfl, HOs, HBs⟩ := hrel
    have q6 := (HX.out.to HX.out.lt HBs.out).c6
    rw [HRLN.out] at q6
    by_cases hlt : k < nr
    · have hltI : (k : Int) < (nr : Int) := by omega
      obtain ⟨d, hd⟩ := getElem_lt (show k < N.regs.length by rw [HRLN.out]; exact hlt)
      obtain ⟨b, o, ea, hlb, hc⟩ := HAW.out.r.el hd
      have c0 : wr.cell? ⟨b, o + k * 2 + 1, none⟩ = some (.bool d.init) := (HBs.out.cell (p := ⟨b, o + k * 2 + 1, none⟩) (Nat.lt_of_lt_of_le hlb hBW)).trans (hc 1 _ rfl)
      have HNX : Hid (((N.regs.take (k + 1)).map RgD.init).map bV = ((N.regs.take k).map RgD.init).map bV ++ [.bool d.init]) := by
        show _ = _
        rw [take_next _ k _ hd, List.map_append, List.map_append]; rfl
      obtain ⟨x, hx⟩ : ∃ x, x = d.init := ⟨_, rfl⟩
      rw [← hx] at c0 HNX
      rw [ea] at q6
      have e3 : IntKind.i64.wrap ((k : Int) + 1) = (k : Int) + 1 := wrapI _ (by omega) (by omega)
      have hm1 : k + 1 ≤ maxLen := by simp only [maxLen]; omega
      have hm2 : (k + 1) * 1 ≤ 140737488355328 := by omega
      have hsz := HBs.out.size
      have hm3 : W.heap.size ≤ (wr.alloc (.cells #[.bool x] 4)).heap.size := by simp; omega
      clear hd hc ea hlb hx
      have tok : True := trivial
      go_wp2_with (have _t := tok; at_builtin; (refine wpList_append_lies _ rfl (.tmp 25) (.tmp 32) 22 rfl W.heap.size 4 ib _ 1 1 Tryd.underlying22 HI.out HZ.out HS.out HBY.out rfl (by decide) u5 (k) _ rfl (HOs.out.alloc _) ⟨wr.heap.size, 0, none⟩ 1 1 [.bool x] rfl rfl (World.news_of_block (heap_new _ _)) (by simp [Value.oneCell']) (by decide) hm1 hm2 hm3 _ rfl ?_; intro g cap w5 hown hgrow hat5 hlt5; clear tok))
      have HO5 : Hid (w5.ownsRow W.heap.size 4 1 (.slice (some ⟨g, 0, none⟩) (k + 1) cap) (k + 1) (((N.regs.take (k + 1)).map RgD.init).map bV)) := by
        show World.ownsRow _ _ _ _ _ _ _
        rw [HNX.out]
        exact hown
      have HB5 : Hid (Below W.heap.size W w5) := grown_plain HBs.out HOs.out hgrow
      clear hown hgrow hat5 hlt5 hm1 hm2 hm3 HOs HBs HNX c0 q6
      go_wp2
      go_roundw
      case measure => simp [intOf]; omega
      case rel => exact ⟨k + 1, by omega, by simp, HO5.out, HB5.out⟩
    · have hge : ¬ ((k : Int) < (nr : Int)) := by omega
      obtain ⟨v0, hv0⟩ : ∃ x, x = u5 := ⟨_, rfl⟩
      rw [← hv0] at HOs
      rw [← hv0]
      have HS00 : Hid (wr.ownsRow W.heap.size 4 1 v0 nr ((N.regs.map RgD.init).map bV)) := by
        have := HOs.out
        rw [List.take_of_length_le (by have := HRLN.out; omega), show k = nr by omega] at this
        exact this
      have HB2 := HBs
      clear HOs HBs hv0 hlt hk
      go_wp2_with fail
      clear q6
      go_loopw [7, 8] (fun all i' w' => ∃ (k : Nat) (rows : List RD), k ≤ trs.length ∧ i' = .int .i64 k ∧ Hid (w'.ownsRow W.heap.size 4 1 v0 nr ((stC N (N.regs.map RgD.init) ((trs.take k).map TR.l)).map bV)) ∧ Hid (w'.ownsRow W.heap.size 22 1 all k (rows.map RD.v)) ∧ Hid (rows.map RD.l = runC N ((trs.take k).map TR.l) (N.regs.map RgD.init)) ∧ Hid (∀ r, r ∈ rows → BS w' r.v r.l ∧ Far all r.v ∧ Far v0 r.v) ∧ Hid (Far all v0) ∧ Hid (Below W.heap.size W w')) (fun _ i' _ => trs.length - (intOf i').toNat)
      case atStart =>
        exact ⟨0, [], Nat.zero_le _, rfl, HS00.out, World.ownsRow_nil _ _ _ _, rfl, fun r hr => by simp at hr, fun x hx => (by cases hx), HB2.out⟩
      case round =>
        clear HS00 HB2
        obtain ⟨k, rows, hk, rfl, HSO0, HO, HRL5, HRB, HFS, HBr⟩ := hrel
        by_cases hlt : k < trs.length
        · have hltI : (k : Int) < (trs.length : Int) := by omega
          obtain ⟨t, hz⟩ := getElem_lt hlt
          obtain ⟨tb, tz, ea, htb, htc⟩ := HTW.out.row.el hz
          have htr := hidden (HTW.out.each t (List.mem_of_getElem? hz))
          have ek : IntKind.i64.wrap ((k : Int) + 1) = (k : Int) + 1 := wrapI _ (by omega) (by omega)
          obtain ⟨st, HST⟩ : ∃ st, Hid (stC N (N.regs.map RgD.init) ((trs.take k).map TR.l) = st) := ⟨_, rfl⟩
          have hstl : st.length = nr := by rw [← HST.out, stC_length N _ _ (by simp), HRLN.out]
          have HSO : Hid (wr.ownsRow W.heap.size 4 1 v0 nr (st.map bV)) := by have := HSO0.out; rwa [HST.out] at this
          obtain ⟨R, HRR⟩ : ∃ R, Hid (cycC N t.l st = R) := ⟨_, rfl⟩
          have HNS : Hid (stC N (N.regs.map RgD.init) ((trs.take (k + 1)).map TR.l) = nextC N R) := by
            show _ = _
            rw [take_next _ k t hz, List.map_append, show [t].map TR.l = [t.l] from rfl, stC_snoc, HST.out, HRR.out]
          have HNR : Hid (runC N ((trs.take (k + 1)).map TR.l) (N.regs.map RgD.init) = runC N ((trs.take k).map TR.l) (N.regs.map RgD.init) ++ [outC N R]) := by
            show _ = _
            rw [take_next _ k t hz, List.map_append, show [t].map TR.l = [t.l] from rfl, runC_snoc, HST.out, HRR.out]
          obtain ⟨row, hrow⟩ : ∃ r, r = t.l := ⟨_, rfl⟩
          rw [← hrow] at HRR htr
          have KT0 : W.cell? ⟨tb, tz + k, none⟩ = some (.slice t.a row.length t.c) := by have := htc 0 _ rfl; rw [hrow]; simpa using this
          generalize t.a = tA at *
          generalize t.c = tC at *
          obtain ⟨V, hV⟩ : ∃ V, V = wr := ⟨_, rfl⟩
          rw [← hV] at HSO HO HRB HBr
          rw [← hV]
          have hVW : W.heap.size ≤ V.heap.size := HBr.out.size
          have KX : Hid (∀ w', Below V.heap.size V w' → CBoxAt w' pg S N) := fun w' hb => HX.out.to HX.out.lt (HBr.out.trans (hb.mono hVW))
          have KT : Hid (∀ w', Below V.heap.size V w' → w'.cell? ⟨tb, tz + k, none⟩ = some (.slice tA row.length tC)) := fun w' hb => ((HBr.out.trans (hb.mono hVW)).cell (p := ⟨tb, tz + k, none⟩) (Nat.lt_of_lt_of_le htb hBW)).trans KT0
          have HRW : Hid (∀ w', Below V.heap.size V w' → RowAt B w' tA 1 (row.map boolC)) := fun w' hb => htr.out.to ((HBr.out.trans (hb.mono hVW)).mono hBW)
          have HNV : Hid (CnAt B V S N) := HAW.out.to (HBr.out.mono hBW)
          have hBV : B ≤ V.heap.size := Nat.le_trans hBW hVW
          subst ea
          clear hz htc hV HSO0 hrow htr KT0
          go_wp2_with fail
          have HOv0 : Hid ((V.alloc (.cells #[.bool false, .bool true] 4)).ownsRow V.heap.size 4 1 (.slice (some ⟨V.heap.size, 0, none⟩) 2 2) 2 (([false, true] ++ inRow 0 row).map bV)) := World.ownsRow_lit V #[.bool false, .bool true] 2 (Nat.le_refl _) (by decide) rfl
          go_loopw [9, 10] (fun v i' w' => ∃ (i : Nat), i ≤ ni ∧ i' = .int .i64 i ∧ Hid (w'.ownsRow V.heap.size 4 1 v (2 + i) (([false, true] ++ inRow i row).map bV)) ∧ Hid (Below V.heap.size V w')) (fun _ i' _ => ni - (intOf i').toNat)
          case atStart => exact ⟨0, Nat.zero_le _, rfl, HOv0.out, (Below.refl _ _).alloc (Nat.le_refl _) _⟩
          case round =>
            clear HOv0
            obtain ⟨i, hi, rfl, HOv, HBv⟩ := hrel
            have q0 := (KX.out _ HBv.out).c0
            rw [HF.out.ins] at q0
            have ct := KT.out _ HBv.out
            by_cases hlt2 : i < ni
            · have hltI2 : (i : Int) < (ni : Int) := by omega
              have e3 : IntKind.i64.wrap ((i : Int) + 1) = (i : Int) + 1 := wrapI _ (by omega) (by omega)
              have hm1 : 2 + i + 1 ≤ maxLen := by simp only [maxLen]; omega
              have hm2 : (2 + i + 1) * 1 ≤ 140737488355328 := by omega
              have hsz := HBv.out.size
              have HNX : Hid (([false, true] ++ inRow (i + 1) row).map bV = ([false, true] ++ inRow i row).map bV ++ [.bool (row[i]?.getD false)]) := by
                show _ = _
                rw [inRow_next, ← List.append_assoc, List.map_append]; rfl
              by_cases hin : i < row.length
              · obtain ⟨x, hx⟩ := getElem_lt hin
                obtain ⟨rb, ro, ea, hrb, cx⟩ := rowB (HRW.out _ HBv.out) hx
                rw [hx] at HNX
                simp only [Option.getD_some] at HNX
                have hinI : (i : Int) < (row.length : Int) := by omega
                rw [ea] at ct
                clear hx hrb ea
                have hm3 : V.heap.size ≤ (wr.alloc (.cells #[.bool x] 4)).heap.size := by simp; omega
                have tok : True := trivial
                go_wp2_with (have _t := tok; at_builtin; (refine wpList_append_lies _ rfl (.tmp 48) (.tmp 65) 22 rfl V.heap.size 4 ib _ 1 1 Tryd.underlying22 HI.out HZ.out HS.out HBY.out rfl (by decide) u9 (2 + i) _ rfl (HOv.out.alloc _) ⟨wr.heap.size, 0, none⟩ 1 1 [.bool x] rfl rfl (World.news_of_block (heap_new _ _)) (by simp [Value.oneCell']) (by decide) hm1 hm2 hm3 _ rfl ?_; intro g cap w5 hown hgrow hat5 hlt5; clear tok))
                have HO5 : Hid (w5.ownsRow V.heap.size 4 1 (.slice (some ⟨g, 0, none⟩) (2 + i + 1) cap) (2 + (i + 1)) (([false, true] ++ inRow (i + 1) row).map bV)) := by
                  show World.ownsRow _ _ _ _ _ _ _
                  rw [HNX.out]
                  exact hown
                have HB5 : Hid (Below V.heap.size V w5) := grown_plain HBv.out HOv.out hgrow
                clear hown hgrow hat5 hlt5 hm1 hm2 hm3 HOv HBv HNX
                go_wp2
                go_roundw
                case measure => simp [intOf]; omega
                case rel => exact ⟨i + 1, by omega, by simp, HO5.out, HB5.out⟩
              · have hinI : ¬ (i : Int) < (row.length : Int) := by omega
                rw [List.getElem?_eq_none (by omega)] at HNX
                simp only [Option.getD_none] at HNX
                have hm3 : V.heap.size ≤ (wr.alloc (.cells #[.bool false] 4)).heap.size := by simp; omega
                have tok : True := trivial
                go_wp2_with (have _t := tok; at_builtin; (refine wpList_append_lies _ rfl (.tmp 48) (.tmp 65) 22 rfl V.heap.size 4 ib _ 1 1 Tryd.underlying22 HI.out HZ.out HS.out HBY.out rfl (by decide) u9 (2 + i) _ rfl (HOv.out.alloc _) ⟨wr.heap.size, 0, none⟩ 1 1 [.bool false] rfl rfl (World.news_of_block (heap_new _ _)) (by simp [Value.oneCell']) (by decide) hm1 hm2 hm3 _ rfl ?_; intro g cap w5 hown hgrow hat5 hlt5; clear tok))
                have HO5 : Hid (w5.ownsRow V.heap.size 4 1 (.slice (some ⟨g, 0, none⟩) (2 + i + 1) cap) (2 + (i + 1)) (([false, true] ++ inRow (i + 1) row).map bV)) := by
                  show World.ownsRow _ _ _ _ _ _ _
                  rw [HNX.out]
                  exact hown
                have HB5 : Hid (Below V.heap.size V w5) := grown_plain HBv.out HOv.out hgrow
                clear hown hgrow hat5 hlt5 hm1 hm2 hm3 HOv HBv HNX
                go_wp2
                go_roundw
                case measure => simp [intOf]; omega
                case rel => exact ⟨i + 1, by omega, by simp, HO5.out, HB5.out⟩
            · have hge : ¬ ((i : Int) < (ni : Int)) := by omega
              obtain rfl : i = ni := by omega
              have hm1 : 2 + i + st.length ≤ maxLen := by simp only [maxLen]; omega
              have hm2 : (2 + i + st.length) * 1 ≤ 140737488355328 := by omega
              have HSV : Hid (BS wr v0 st) := (BS.of HSO.out).to HBv.out
              have tok : True := trivial
              go_wp2_with (have _t := tok; at_builtin; (refine wpList_append_any _ rfl (.tmp 67) (.tmp 68) 22 rfl V.heap.size 4 ib _ 1 Tryd.underlying22 HI.out HZ.out HS.out HBY.out rfl u9 (2 + i) _ rfl HOv.out v0 st rfl HSV.out hm1 hm2 HBv.out.size ?_; intro v6 w6 hown hgrow; have HB6 := hidden (grown_bare HBv.out HOv.out hgrow); have HO6 := hidden hown; clear tok hown hgrow))
              obtain ⟨bl, HBL0⟩ : ∃ b0, Hid ([false, true] ++ (inC i row ++ st) = b0) := ⟨_, rfl⟩
              have HBL : Hid (bl.length = 2 + i + nr) := by
                show _ = _
                rw [← HBL0.out]; simp [inC_length, hstl]; omega
              have HO7 : Hid (w6.ownsRow V.heap.size 4 1 v6 (colsC bl (N.cols.take 0)).length ((colsC bl (N.cols.take 0)).map bV)) := by
                have := HO6.out
                show w6.ownsRow _ _ _ _ bl.length (bl.map bV)
                rw [HBL.out, ← HBL0.out]
                rw [hstl, ← List.map_append, List.append_assoc, inRow_inC] at this
                exact this
              have HRE : Hid (colsC bl N.cols = R) := by
                show _ = _
                rw [← HRR.out, ← HBL0.out]; exact cyc_cols N i HF.out.ins row st
              have HRL : Hid (R.length = 2 + nw) := by
                show _ = _
                rw [← HRE.out]
                exact cols_len _ _ _ HF.out.cl (fun e => by have := HF.out.nc; rw [e] at this; simp at this)
              clear HOv HO6 HBv hm1 hm2 q0 ct HSV
              have q5 := (KX.out _ HB6.out).c5
              go_wp2_with fail
              clear q5
              go_loopw [9, 11] (fun v i' w' => ∃ (j : Nat), j ≤ nc ∧ i' = .int .i64 j ∧ Hid (w'.ownsRow V.heap.size 4 1 v (colsC bl (N.cols.take j)).length ((colsC bl (N.cols.take j)).map bV)) ∧ Hid (Below V.heap.size V w')) (fun _ i' _ => nc - (intOf i').toNat)
              case atStart => exact ⟨0, Nat.zero_le _, rfl, HO7.out, HB6.out⟩
              case round =>
                clear HO7 HB6
                obtain ⟨j, hj, rfl, HOv, HBv⟩ := hrel
                have q5 := (KX.out _ HBv.out).c5
                rw [HNC.out] at q5
                by_cases hlt : j < nc
                · have hltI : (j : Int) < (nc : Int) := by omega
                  obtain ⟨d, hd⟩ := getElem_lt (show j < N.cols.length by rw [HNC.out]; exact hlt)
                  obtain ⟨b, o, ea, hlb, hc⟩ := HNV.out.c.el hd
                  have hbV : b < V.heap.size := Nat.lt_of_lt_of_le hlb hBV
                  have HRC := hidden (HNV.out.cc d (List.mem_of_getElem? hd))
                  have hdl : d.cs.length = nw := by have := HF.out.cl d (List.mem_of_getElem? hd); omega
                  obtain ⟨vs, HVS⟩ : ∃ vs, Hid (colsC bl (N.cols.take j) = vs) := ⟨_, rfl⟩
                  have hvl : vs.length = if j = 0 then 2 + i + nr else 2 + nw := by
                    rw [← HVS.out]
                    by_cases h0 : j = 0
                    · rw [if_pos h0, h0]; exact HBL.out
                    · rw [if_neg h0]
                      refine cols_len _ _ _ (fun d hd => HF.out.cl d (List.mem_of_mem_take hd)) (fun e => ?_)
                      have := congrArg List.length e
                      rw [List.length_take, HNC.out] at this
                      simp at this
                      omega
                  have HSB : Hid (∀ e, e ∈ d.cs → (0 ≤ e.s0 ∧ 0 ≤ e.s1 ∧ 0 ≤ e.s2 ∧ 0 ≤ e.s3) ∧ (e.s0 < (vs.length : Nat) ∧ e.s1 < (vs.length : Nat) ∧ e.s2 < (vs.length : Nat) ∧ e.s3 < (vs.length : Nat)) ∧ 0 ≤ e.bits) := fun e he => by
                    have h := HF.out.ok j d hd e he
                    rw [← hvl] at h
                    exact ⟨h.1, h.2, HBT.out d (List.mem_of_getElem? hd) e he⟩
                  have HVN : Hid (colsC bl (N.cols.take (j + 1)) = colV vs d.cs) := by
                    show _ = _
                    rw [take_next _ j d hd]
                    unfold colsC
                    rw [List.foldl_append, ← HVS.out]
                    rfl
                  have hvsm : vs.length ≤ 2000 := by rw [hvl]; split <;> omega
                  have KC0 : Hid (∀ w', Below V.heap.size V w' → w'.cell? ⟨b, o + j, none⟩ = some (.slice d.a nw d.c)) := fun w' hb => by
                    have h0 := (hb.cell (p := ⟨b, o + j * 1 + 0, none⟩) hbV).trans (hc 0 _ rfl)
                    rw [hdl] at h0
                    simpa using h0
                  have KQ5 : Hid (∀ w', Below V.heap.size V w' → w'.cell? ⟨pg, 5, none⟩ = some (.slice (some ⟨b, o, none⟩) nc S.c1)) := fun w' hb => by have := (KX.out w' hb).c5; rw [HNC.out, ea] at this; exact this
                  have hO := HOv.out
                  rw [HVS.out] at hO
                  obtain ⟨-, av, cv, hu, hrv⟩ := ownRow (g := bV) hO
                  subst hu
                  have HO2 := hidden hO
                  have HRV := hidden hrv
                  rw [ea] at q5
                  have c0 := KC0.out _ HBv.out
                  have e3 : IntKind.i64.wrap ((j : Int) + 1) = (j : Int) + 1 := wrapI _ (by omega) (by omega)
                  obtain ⟨vl, hvle⟩ : ∃ m, m = vs.length := ⟨_, rfl⟩
                  have HVL := hidden hvle
                  rw [← hvle] at HSB HO2 hvsm
                  rw [← hvle]
                  obtain ⟨cs, hcs⟩ : ∃ c, c = d.cs := ⟨_, rfl⟩
                  rw [← hcs] at HRC hdl HSB HVN
                  generalize d.a = da at *
                  generalize d.c = dc at *
                  have HDL := hidden hdl
                  clear hd hc ea hlb hO hrv HOv hvl hvle hcs hdl
                  obtain ⟨U, hU⟩ : ∃ U, U = wr := ⟨_, rfl⟩
                  rw [← hU] at HO2 HBv q5 HRV c0
                  rw [← hU]
                  clear hU
                  go_wp2_with fail
                  clear q5 c0
                  have HON0 : Hid ((U.alloc (.cells #[.bool false, .bool true] 4)).ownsRow U.heap.size 4 1 (.slice (some ⟨U.heap.size, 0, none⟩) 2 2) (2 + 0) (([false, true] ++ (cs.take 0).map (fun e => cellV e vs)).map bV)) := World.ownsRow_lit U #[.bool false, .bool true] 2 (Nat.le_refl _) (by decide) rfl
                  go_loopw [12, 13] (fun nv k' w' => ∃ (m : Nat), m ≤ nw ∧ k' = .int .i64 m ∧ Hid (w'.ownsRow U.heap.size 4 1 nv (2 + m) (([false, true] ++ (cs.take m).map (fun e => cellV e vs)).map bV)) ∧ Hid (Below U.heap.size U w')) (fun _ k' _ => nw - (intOf k').toNat)
                  case atStart => exact ⟨0, Nat.zero_le _, rfl, HON0.out, (Below.refl _ _).alloc (Nat.le_refl _) _⟩
                  case round =>
                    clear HON0
                    obtain ⟨m, hm, rfl, HON, HBn⟩ := hrel
                    have HBVn : Hid (Below V.heap.size V wr) := HBv.out.trans (HBn.out.mono HBv.out.size)
                    have q5 := KQ5.out _ HBVn.out
                    have c0 := KC0.out _ HBVn.out
                    by_cases hlt2 : m < nw
                    · have hltI2 : (m : Int) < (nw : Int) := by omega
                      obtain ⟨e, he⟩ := getElem_lt (show m < cs.length by rw [HDL.out]; exact hlt2)
                      obtain ⟨eb, eo, eea, helb, hec⟩ := HRC.out.el he
                      obtain ⟨⟨g0, g1, g2, g3⟩, ⟨l0, l1, l2, l3⟩, hbt0⟩ := HSB.out e (List.mem_of_getElem? he)
                      have hce : ∀ j' v, e.cells[j']? = some v → wr.cell? ⟨eb, eo + m * 5 + j', none⟩ = some v := fun j' v hv => (HBVn.out.cell (p := ⟨eb, eo + m * 5 + j', none⟩) (Nat.lt_of_lt_of_le helb hBV)).trans (hec j' v hv)
                      have HNXN : Hid (([false, true] ++ (cs.take (m + 1)).map (fun e => cellV e vs)).map bV = ([false, true] ++ (cs.take m).map (fun e => cellV e vs)).map bV ++ [.bool (cellV e vs)]) := by
                        show _ = _
                        have e9 : ([false, true] ++ (cs.take m ++ [e]).map (fun e => cellV e vs)) = ([false, true] ++ (cs.take m).map (fun e => cellV e vs)) ++ [cellV e vs] := by simp
                        rw [take_next _ m _ he, e9, List.map_append]; rfl
                      obtain ⟨a0, ha0⟩ := getElem_lt (l := vs) (k := e.s0.toNat) (by have := HVL.out; omega)
                      obtain ⟨a1, ha1⟩ := getElem_lt (l := vs) (k := e.s1.toNat) (by have := HVL.out; omega)
                      obtain ⟨a2, ha2⟩ := getElem_lt (l := vs) (k := e.s2.toNat) (by have := HVL.out; omega)
                      obtain ⟨a3, ha3⟩ := getElem_lt (l := vs) (k := e.s3.toNat) (by have := HVL.out; omega)
                      have HCE : Hid (cellV e vs = bitAt e.bits (spell [a0, a1, a2, a3])) := by
                        show _ = _
                        unfold cellV sV
                        rw [ha0, ha1, ha2, ha3]; rfl
                      obtain ⟨vb, vo, va, hvb, hvc0⟩ := rowB HRV.out ha0
                      have hvc : ∀ (j' : Nat) (x : Bool), vs[j']? = some x → wr.cell? ⟨vb, vo + j', none⟩ = some (.bool x) := fun j' x hx => by
                        obtain ⟨vb', vo', va', hvb', hc'⟩ := rowB HRV.out hx
                        rw [va] at va'
                        have e1 : vb = vb' ∧ vo = vo' := by simpa using va'
                        obtain ⟨rfl, rfl⟩ := e1
                        exact (HBn.out.cell (p := ⟨vb, vo + j', none⟩) hvb').trans hc'
                      have x0 := hvc _ _ ha0
                      have x1 := hvc _ _ ha1
                      have x2 := hvc _ _ ha2
                      have x3 := hvc _ _ ha3
                      have d0 := hce 0 _ rfl
                      have d1 := hce 1 _ rfl
                      have d2 := hce 2 _ rfl
                      have d3 := hce 3 _ rfl
                      have d4 := hce 4 _ rfl
                      rw [va]
                      rw [eea] at c0
                      rw [Nat.add_zero] at d0
                      obtain ⟨s0, s1, s2, s3, bits⟩ := e
                      dsimp only at *
                      obtain ⟨tv, HTV⟩ : ∃ b, Hid (cellV ⟨s0, s1, s2, s3, bits⟩ vs = b) := ⟨_, rfl⟩
                      rw [HTV.out] at HNXN HCE
                      have em : IntKind.i64.wrap ((m : Int) + 1) = (m : Int) + 1 := wrapI _ (by omega) (by omega)
                      have hm1 : 2 + m + 1 ≤ maxLen := by simp only [maxLen]; omega
                      have hm2 : (2 + m + 1) * 1 ≤ 140737488355328 := by omega
                      have hvbr : vb < wr.heap.size := World.block_lt_of_cell? _ _ x0
                      have hvbU : vb < U.heap.size := hvb
                      clear he hec hce ha0 ha1 ha2 ha3 hvc0 hvc eea helb hvb HTV
                      go_upto_region 24 with fail
                      generalize hY : World.alloc wr _ = Y
                      obtain ⟨xb, hxb⟩ : ∃ x, x = wr.heap.size := ⟨_, rfl⟩
                      have hbY : Below wr.heap.size wr Y := by rw [← hY]; exact (Below.refl _ _).alloc (Nat.le_refl _) _
                      have HXB : Hid (Blk Y xb 69 #[.int .i64 s0, .int .i64 s1, .int .i64 s2, .int .i64 s3, .int .i64 bits]) := by rw [← hY, hxb]; exact Blk.new wr 69 _
                      have HBUY : Hid (Below U.heap.size U Y) := HBn.out.trans (hbY.mono HBn.out.size)
                      have HONY : Hid (Y.ownsRow U.heap.size 4 1 u12 (2 + m) (([false, true] ++ (cs.take m).map (fun e => cellV e vs)).map bV)) := own_below HON.out hbY
                      have HNXB : Hid (u12.ownBlock ≠ some xb) := fun e => by have := (HON.out.lt xb e).2; omega
                      have HNVB : Hid (u12.ownBlock ≠ some vb) := fun e => by have := (HON.out.lt vb e).1; omega
                      have KS : Hid (∀ w', Below Y.heap.size Y w' → (fun w' => w'.cell? ⟨xb, 0, none⟩ = some (.int .i64 s0) ∧ w'.cell? ⟨xb, 1, none⟩ = some (.int .i64 s1) ∧ w'.cell? ⟨xb, 2, none⟩ = some (.int .i64 s2) ∧ w'.cell? ⟨xb, 3, none⟩ = some (.int .i64 s3) ∧ w'.cell? ⟨xb, 4, none⟩ = some (.int .i64 bits) ∧ w'.cell? ⟨vb, vo + s0.toNat, none⟩ = some (.bool a0) ∧ w'.cell? ⟨vb, vo + s1.toNat, none⟩ = some (.bool a1) ∧ w'.cell? ⟨vb, vo + s2.toNat, none⟩ = some (.bool a2) ∧ w'.cell? ⟨vb, vo + s3.toNat, none⟩ = some (.bool a3)) w') := fun w' hw' => by
                        have hx := HXB.out.below hw'
                        have hcy : ∀ (p : Addr) (v : Value), wr.cell? p = some v → p.block < wr.heap.size → w'.cell? p = some v := fun p v hv hp => (hw'.cell (p := p) (Nat.lt_of_lt_of_le hp hbY.size)).trans ((hbY.cell (p := p) hp).trans hv)
                        exact ⟨hx.cell rfl, hx.cell rfl, hx.cell rfl, hx.cell rfl, hx.cell rfl, hcy _ _ x0 hvbr, hcy _ _ x1 hvbr, hcy _ _ x2 hvbr, hcy _ _ x3 hvbr⟩
                      rw [← hxb]
                      clear hY hbY hxb x0 x1 x2 x3 d0 d1 d2 d3 d4 q5 c0 HON HBn HBVn hvbr
                      have HB0 : Hid (Below Y.heap.size Y Y.drew) := Below.drew (Below.refl _ _)
                      obtain ⟨Yd, hYd⟩ : ∃ x, x = Y.drew := ⟨_, rfl⟩
                      refine wp_region_noPanic ?_
                      refine wp_region_held_drew (S := (fun w' => w'.cell? ⟨xb, 0, none⟩ = some (.int .i64 s0) ∧ w'.cell? ⟨xb, 1, none⟩ = some (.int .i64 s1) ∧ w'.cell? ⟨xb, 2, none⟩ = some (.int .i64 s2) ∧ w'.cell? ⟨xb, 3, none⟩ = some (.int .i64 s3) ∧ w'.cell? ⟨xb, 4, none⟩ = some (.int .i64 bits) ∧ w'.cell? ⟨vb, vo + s0.toNat, none⟩ = some (.bool a0) ∧ w'.cell? ⟨vb, vo + s1.toNat, none⟩ = some (.bool a1) ∧ w'.cell? ⟨vb, vo + s2.toNat, none⟩ = some (.bool a2) ∧ w'.cell? ⟨vb, vo + s3.toNat, none⟩ = some (.bool a3))) (by kernel_rfl) (by rw [← hYd]; exact KS.out _ (by rw [hYd]; exact HB0.out)) (fun hHeld => ?_)
                      rw [← hYd] at hHeld ⊢
                      have HB0 : Hid (Below Y.heap.size Y Yd) := by rw [hYd]; exact HB0.out
                      clear hYd
                      refine wpAnyH_take (i := 0) (oi := _) (v := ?_) rfl (by kernel_rfl) (by kernel_rfl) (by kernel_rfl) (fun _ _ _ h => h) (Or.inl ⟨by rfl, ?_⟩) (by assumption) ?_
                      rotate_left
                      · (intro w0 hSw; (try dsimp only at hSw); (try simp only [List.getElem_toArray, List.getElem_cons_zero]); go_simp; try (with_reducible rfl))
                      try simp only [Act.put, List.getElem_toArray, List.getElem_cons_zero, List.setIfInBounds_toArray, List.set_cons_zero, List.set_cons_succ]
                      refine wpAnyH_take (i := 1) (oi := _) (v := ?_) rfl (by kernel_rfl) (by kernel_rfl) (by kernel_rfl) (fun _ _ _ h => h) (Or.inl ⟨by rfl, ?_⟩) (by assumption) ?_
                      rotate_left
                      · (intro w0 hSw; (try dsimp only at hSw); (try simp only [List.getElem_toArray, List.getElem_cons_zero, List.getElem_cons_succ]); go_simp; try (with_reducible rfl))
                      try simp only [Act.put, List.getElem_toArray, List.getElem_cons_zero, List.getElem_cons_succ, List.setIfInBounds_toArray, List.set_cons_zero, List.set_cons_succ]
                      refine wpAnyH_take (i := 2) (oi := _) (v := ?_) rfl (by kernel_rfl) (by kernel_rfl) (by kernel_rfl) (fun _ _ _ h => h) (Or.inl ⟨by rfl, ?_⟩) (by assumption) ?_
                      rotate_left
                      · (intro w0 hSw; (try dsimp only at hSw); (try simp only [List.getElem_toArray, List.getElem_cons_zero, List.getElem_cons_succ]); go_simp; try (with_reducible rfl))
                      try simp only [Act.put, List.getElem_toArray, List.getElem_cons_zero, List.getElem_cons_succ, List.setIfInBounds_toArray, List.set_cons_zero, List.set_cons_succ]
                      refine wpAnyH_take (i := 3) (oi := _) (v := ?_) rfl (by kernel_rfl) (by kernel_rfl) (by kernel_rfl) (fun _ _ _ h => h) (Or.inl ⟨by rfl, ?_⟩) (by assumption) ?_
                      rotate_left
                      · (intro w0 hSw; (try dsimp only at hSw); (try simp only [List.getElem_toArray, List.getElem_cons_zero, List.getElem_cons_succ]); go_simp; try (with_reducible rfl))
                      try simp only [Act.put, List.getElem_toArray, List.getElem_cons_zero, List.getElem_cons_succ, List.setIfInBounds_toArray, List.set_cons_zero, List.set_cons_succ]
                      refine wpAnyH_take (i := 4) (oi := _) (v := ?_) rfl (by kernel_rfl) (by kernel_rfl) (by kernel_rfl) (fun _ _ _ h => h) (Or.inl ⟨by rfl, ?_⟩) (by assumption) ?_
                      rotate_left
                      · (intro w0 hSw; (try dsimp only at hSw); (try simp only [List.getElem_toArray, List.getElem_cons_zero, List.getElem_cons_succ]); go_simp; try (with_reducible rfl))
                      try simp only [Act.put, List.getElem_toArray, List.getElem_cons_zero, List.getElem_cons_succ, List.setIfInBounds_toArray, List.set_cons_zero, List.set_cons_succ]
                      refine wpAnyH_take (i := 5) (oi := _) (v := ?_) rfl (by kernel_rfl) (by kernel_rfl) (by kernel_rfl) (fun _ _ _ h => h) (Or.inl ⟨by rfl, ?_⟩) (by assumption) ?_
                      rotate_left
                      · (intro w0 hSw; (try dsimp only at hSw); (try simp only [List.getElem_toArray, List.getElem_cons_zero, List.getElem_cons_succ]); go_simp; try (with_reducible rfl))
                      try simp only [Act.put, List.getElem_toArray, List.getElem_cons_zero, List.getElem_cons_succ, List.setIfInBounds_toArray, List.set_cons_zero, List.set_cons_succ]
                      refine wpAnyH_take (i := 6) (oi := _) (v := ?_) rfl (by kernel_rfl) (by kernel_rfl) (by kernel_rfl) (fun _ _ _ h => h) (Or.inl ⟨by rfl, ?_⟩) (by assumption) ?_
                      rotate_left
                      · (intro w0 hSw; (try dsimp only at hSw); (try simp only [List.getElem_toArray, List.getElem_cons_zero, List.getElem_cons_succ]); go_simp; try (with_reducible rfl))
                      try simp only [Act.put, List.getElem_toArray, List.getElem_cons_zero, List.getElem_cons_succ, List.setIfInBounds_toArray, List.set_cons_zero, List.set_cons_succ]
                      refine wpAnyH_take (i := 7) (oi := _) (v := ?_) rfl (by kernel_rfl) (by kernel_rfl) (by kernel_rfl) (fun _ _ _ h => h) (Or.inl ⟨by rfl, ?_⟩) (by assumption) ?_
                      rotate_left
                      · (intro w0 hSw; (try dsimp only at hSw); (try simp only [List.getElem_toArray, List.getElem_cons_zero, List.getElem_cons_succ]); go_simp; try (with_reducible rfl))
                      try simp only [Act.put, List.getElem_toArray, List.getElem_cons_zero, List.getElem_cons_succ, List.setIfInBounds_toArray, List.set_cons_zero, List.set_cons_succ]
                      refine wpAnyH_take (i := 8) (oi := _) (v := ?_) rfl (by kernel_rfl) (by kernel_rfl) (by kernel_rfl) (fun _ _ _ h => h) (Or.inl ⟨by rfl, ?_⟩) (by assumption) ?_
                      rotate_left
                      · (intro w0 hSw; (try dsimp only at hSw); (try simp only [List.getElem_toArray, List.getElem_cons_zero, List.getElem_cons_succ]); go_simp; try (with_reducible rfl))
                      try simp only [Act.put, List.getElem_toArray, List.getElem_cons_zero, List.getElem_cons_succ, List.setIfInBounds_toArray, List.set_cons_zero, List.set_cons_succ]
                      refine wpAnyH_take (i := 9) (oi := _) (v := ?_) rfl (by kernel_rfl) (by kernel_rfl) (by kernel_rfl) (fun _ _ _ h => h) (Or.inl ⟨by rfl, ?_⟩) (by assumption) ?_
                      rotate_left
                      · (intro w0 hSw; (try dsimp only at hSw); (try simp only [List.getElem_toArray, List.getElem_cons_zero, List.getElem_cons_succ]); go_simp; try (with_reducible rfl))
                      try simp only [Act.put, List.getElem_toArray, List.getElem_cons_zero, List.getElem_cons_succ, List.setIfInBounds_toArray, List.set_cons_zero, List.set_cons_succ]
                      refine wpAnyH_take (i := 10) (oi := _) (v := ?_) rfl (by kernel_rfl) (by kernel_rfl) (by kernel_rfl) (fun _ _ _ h => h) (Or.inl ⟨by rfl, ?_⟩) (by assumption) ?_
                      rotate_left
                      · (intro w0 hSw; (try dsimp only at hSw); (try simp only [List.getElem_toArray, List.getElem_cons_zero, List.getElem_cons_succ]); go_simp; try (with_reducible rfl))
                      try simp only [Act.put, List.getElem_toArray, List.getElem_cons_zero, List.getElem_cons_succ, List.setIfInBounds_toArray, List.set_cons_zero, List.set_cons_succ]
                      refine wpAnyH_take (i := 11) (oi := _) (v := ?_) rfl (by kernel_rfl) (by kernel_rfl) (by kernel_rfl) (fun _ _ _ h => h) (Or.inl ⟨by rfl, ?_⟩) (by assumption) ?_
                      rotate_left
                      · (intro w0 hSw; (try dsimp only at hSw); (try simp only [List.getElem_toArray, List.getElem_cons_zero, List.getElem_cons_succ]); go_simp; try (with_reducible rfl))
                      try simp only [Act.put, List.getElem_toArray, List.getElem_cons_zero, List.getElem_cons_succ, List.setIfInBounds_toArray, List.set_cons_zero, List.set_cons_succ]
                      refine wpAnyH_take (i := 12) (oi := _) (v := ?_) rfl (by kernel_rfl) (by kernel_rfl) (by kernel_rfl) (fun _ _ _ h => h) (Or.inl ⟨by rfl, ?_⟩) (by assumption) ?_
                      rotate_left
                      · (intro w0 hSw; (try dsimp only at hSw); (try simp only [List.getElem_toArray, List.getElem_cons_zero, List.getElem_cons_succ]); go_simp; try (with_reducible rfl))
                      try simp only [Act.put, List.getElem_toArray, List.getElem_cons_zero, List.getElem_cons_succ, List.setIfInBounds_toArray, List.set_cons_zero, List.set_cons_succ]
                      refine wpAnyH_take (i := 13) (oi := _) (v := ?_) rfl (by kernel_rfl) (by kernel_rfl) (by kernel_rfl) (fun _ _ _ h => h) (Or.inl ⟨by rfl, ?_⟩) (by assumption) ?_
                      rotate_left
                      · (intro w0 hSw; (try dsimp only at hSw); (try simp only [List.getElem_toArray, List.getElem_cons_zero, List.getElem_cons_succ]); go_simp; try (with_reducible rfl))
                      try simp only [Act.put, List.getElem_toArray, List.getElem_cons_zero, List.getElem_cons_succ, List.setIfInBounds_toArray, List.set_cons_zero, List.set_cons_succ]
                      refine wpAnyH_take (i := 14) (oi := _) (v := ?_) rfl (by kernel_rfl) (by kernel_rfl) (by kernel_rfl) (fun _ _ _ h => h) (Or.inl ⟨by rfl, ?_⟩) (by assumption) ?_
                      rotate_left
                      · (intro w0 hSw; (try dsimp only at hSw); (try simp only [List.getElem_toArray, List.getElem_cons_zero, List.getElem_cons_succ]); go_simp; try (with_reducible rfl))
                      try simp only [Act.put, List.getElem_toArray, List.getElem_cons_zero, List.getElem_cons_succ, List.setIfInBounds_toArray, List.set_cons_zero, List.set_cons_succ]
                      refine wpAnyH_take (i := 15) (oi := _) (v := ?_) rfl (by kernel_rfl) (by kernel_rfl) (by kernel_rfl) (fun _ _ _ h => h) (Or.inl ⟨by rfl, ?_⟩) (by assumption) ?_
                      rotate_left
                      · (intro w0 hSw; (try dsimp only at hSw); (try simp only [List.getElem_toArray, List.getElem_cons_zero, List.getElem_cons_succ]); go_simp; try (with_reducible rfl))
                      try simp only [Act.put, List.getElem_toArray, List.getElem_cons_zero, List.getElem_cons_succ, List.setIfInBounds_toArray, List.set_cons_zero, List.set_cons_succ]
                      refine wpAnyH_take (i := 16) (oi := _) (v := ?_) rfl (by kernel_rfl) (by kernel_rfl) (by kernel_rfl) (fun _ _ _ h => h) (Or.inl ⟨by rfl, ?_⟩) (by assumption) ?_
                      rotate_left
                      · (intro w0 hSw; (try dsimp only at hSw); (try simp only [List.getElem_toArray, List.getElem_cons_zero, List.getElem_cons_succ]); go_simp; try (with_reducible rfl))
                      try simp only [Act.put, List.getElem_toArray, List.getElem_cons_zero, List.getElem_cons_succ, List.setIfInBounds_toArray, List.set_cons_zero, List.set_cons_succ]
                      refine wpAnyH_take (i := 17) (oi := _) (v := ?_) rfl (by kernel_rfl) (by kernel_rfl) (by kernel_rfl) (fun _ _ _ h => h) (Or.inl ⟨by rfl, ?_⟩) (by assumption) ?_
                      rotate_left
                      · (intro w0 hSw; (try dsimp only at hSw); (try simp only [List.getElem_toArray, List.getElem_cons_zero, List.getElem_cons_succ]); go_simp; try (with_reducible rfl))
                      try simp only [Act.put, List.getElem_toArray, List.getElem_cons_zero, List.getElem_cons_succ, List.setIfInBounds_toArray, List.set_cons_zero, List.set_cons_succ]
                      refine wpAnyH_take (i := 18) (oi := _) (v := ?_) rfl (by kernel_rfl) (by kernel_rfl) (by kernel_rfl) (fun _ _ _ h => h) (Or.inl ⟨by rfl, ?_⟩) (by assumption) ?_
                      rotate_left
                      · (intro w0 hSw; (try dsimp only at hSw); (try simp only [List.getElem_toArray, List.getElem_cons_zero, List.getElem_cons_succ]); go_simp; try (with_reducible rfl))
                      try simp only [Act.put, List.getElem_toArray, List.getElem_cons_zero, List.getElem_cons_succ, List.setIfInBounds_toArray, List.set_cons_zero, List.set_cons_succ]
                      refine wpAnyH_take (i := 19) (oi := _) (v := ?_) rfl (by kernel_rfl) (by kernel_rfl) (by kernel_rfl) (fun _ _ _ h => h) (Or.inl ⟨by rfl, ?_⟩) (by assumption) ?_
                      rotate_left
                      · (intro w0 hSw; (try dsimp only at hSw); (try simp only [List.getElem_toArray, List.getElem_cons_zero, List.getElem_cons_succ]); go_simp; try (with_reducible rfl))
                      try simp only [Act.put, List.getElem_toArray, List.getElem_cons_zero, List.getElem_cons_succ, List.setIfInBounds_toArray, List.set_cons_zero, List.set_cons_succ]
                      refine wpAnyH_take (i := 20) (oi := _) (v := ?_) rfl (by kernel_rfl) (by kernel_rfl) (by kernel_rfl) (fun _ _ _ h => h) (Or.inl ⟨by rfl, ?_⟩) (by assumption) ?_
                      rotate_left
                      · (intro w0 hSw; (try dsimp only at hSw); (try simp only [List.getElem_toArray, List.getElem_cons_zero, List.getElem_cons_succ]); go_simp; try (with_reducible rfl))
                      try simp only [Act.put, List.getElem_toArray, List.getElem_cons_zero, List.getElem_cons_succ, List.setIfInBounds_toArray, List.set_cons_zero, List.set_cons_succ]
                      refine wpAnyH_take (i := 21) (oi := _) (v := ?_) rfl (by kernel_rfl) (by kernel_rfl) (by kernel_rfl) (fun _ _ _ h => h) (Or.inl ⟨by rfl, ?_⟩) (by assumption) ?_
                      rotate_left
                      · (intro w0 hSw; (try dsimp only at hSw); (try simp only [List.getElem_toArray, List.getElem_cons_zero, List.getElem_cons_succ]); go_simp; try (with_reducible rfl))
                      try simp only [Act.put, List.getElem_toArray, List.getElem_cons_zero, List.getElem_cons_succ, List.setIfInBounds_toArray, List.set_cons_zero, List.set_cons_succ]
                      refine wpAnyH_take (i := 22) (oi := _) (v := ?_) rfl (by kernel_rfl) (by kernel_rfl) (by kernel_rfl) (fun _ _ _ h => h) (Or.inl ⟨by rfl, ?_⟩) (by assumption) ?_
                      rotate_left
                      · (intro w0 hSw; (try dsimp only at hSw); (try simp only [List.getElem_toArray, List.getElem_cons_zero, List.getElem_cons_succ]); go_simp; try (with_reducible rfl))
                      try simp only [Act.put, List.getElem_toArray, List.getElem_cons_zero, List.getElem_cons_succ, List.setIfInBounds_toArray, List.set_cons_zero, List.set_cons_succ]
                      refine wpAnyH_take (i := 23) (oi := _) (v := ?_) rfl (by kernel_rfl) (by kernel_rfl) (by kernel_rfl) (fun _ _ _ h => h) (Or.inl ⟨by rfl, ?_⟩) (by assumption) ?_
                      rotate_left
                      · (intro w0 hSw; (try dsimp only at hSw); (try simp only [List.getElem_toArray, List.getElem_cons_zero, List.getElem_cons_succ]); go_simp; try (with_reducible rfl))
                      try simp only [Act.put, List.getElem_toArray, List.getElem_cons_zero, List.getElem_cons_succ, List.setIfInBounds_toArray, List.set_cons_zero, List.set_cons_succ]
                      refine wpAnyH_take (i := 24) (oi := _) (v := ?_) rfl (by kernel_rfl) (by kernel_rfl) (by kernel_rfl) (fun _ _ _ h => h) (Or.inl ⟨by rfl, ?_⟩) (by assumption) ?_
                      rotate_left
                      · (intro w0 hSw; (try dsimp only at hSw); (try simp only [List.getElem_toArray, List.getElem_cons_zero, List.getElem_cons_succ]); go_simp; try (with_reducible rfl))
                      try simp only [Act.put, List.getElem_toArray, List.getElem_cons_zero, List.getElem_cons_succ, List.setIfInBounds_toArray, List.set_cons_zero, List.set_cons_succ]
                      refine wpAnyH_take (i := 25) (oi := _) (v := ?_) rfl (by kernel_rfl) (by kernel_rfl) (by kernel_rfl) (fun _ _ _ h => h) (Or.inl ⟨by rfl, ?_⟩) (by assumption) ?_
                      rotate_left
                      · (intro w0 hSw; (try dsimp only at hSw); (try simp only [List.getElem_toArray, List.getElem_cons_zero, List.getElem_cons_succ]); go_simp; try (with_reducible rfl))
                      try simp only [Act.put, List.getElem_toArray, List.getElem_cons_zero, List.getElem_cons_succ, List.setIfInBounds_toArray, List.set_cons_zero, List.set_cons_succ]
                      refine wpAnyH_take (i := 26) (oi := _) (v := ?_) rfl (by kernel_rfl) (by kernel_rfl) (by kernel_rfl) (fun _ _ _ h => h) (Or.inl ⟨by rfl, ?_⟩) (by assumption) ?_
                      rotate_left
                      · (intro w0 hSw; (try dsimp only at hSw); (try simp only [List.getElem_toArray, List.getElem_cons_zero, List.getElem_cons_succ]); go_simp; try (with_reducible rfl))
                      try simp only [Act.put, List.getElem_toArray, List.getElem_cons_zero, List.getElem_cons_succ, List.setIfInBounds_toArray, List.set_cons_zero, List.set_cons_succ]
                      refine wpAnyH_ready (rs := [27]) (by kernel_rfl) (by simp) ?_
                      refine AllReadyH.cons (o := _) rfl (fun K hK => ?_) AllReadyH.nil
                      (try simp only [List.getElem_toArray, List.getElem_cons_zero, List.getElem_cons_succ])
                      go_simp
                      have HB1y : Hid (Below Y.heap.size Y (Yd.alloc (.cells #[.bool a0, .bool a1, .bool a2, .bool a3] 4))) := HB0.out.alloc HB0.out.size _
                      have HR4 : Hid (RowAt (Yd.alloc (.cells #[.bool a0, .bool a1, .bool a2, .bool a3] 4)).heap.size (Yd.alloc (.cells #[.bool a0, .bool a1, .bool a2, .bool a3] 4)) (some ⟨Yd.heap.size, 0, none⟩) 1 ([a0, a1, a2, a3].map boolC)) := row_lit Yd _
                      refine hK.out _ _ (by exact KS.out _ HB1y.out) (fun hHeld1 => ?_)
                      clear hK K
                      generalize Yd.alloc (.cells #[.bool a0, .bool a1, .bool a2, .bool a3] 4) = Y1 at *
                      generalize Yd.heap.size = y1b at *
                      have TC : Hid (Calls Tryd.prog 28 #[.int .i64 bits, .slice (some ⟨y1b, 0, none⟩) 4 4] Y1 fun e w' => e = .returned (.bool tv) ∧ w' = Y1) := by
                        have := told_doc Y1 (some ⟨y1b, 0, none⟩) 4 [a0, a1, a2, a3] HR4.out (by simp) bits hbt0
                        rw [← HCE.out] at this
                        exact this
                      (try simp only [Act.put]); (try simp only [List.setIfInBounds_toArray]); (try simp only [List.set_cons_zero, List.set_cons_succ])
                      refine wpAnyH_ready (rs := [28]) (by kernel_rfl) (by simp) ?_
                      refine AllReadyH.cons (o := _) rfl (fun K hK => ?_) AllReadyH.nil
                      (try simp only [List.getElem_toArray, List.getElem_cons_zero, List.getElem_cons_succ])
                      go_simp
                      go_at_call 28
                      refine TC.out.mono ?_
                      rintro e v9 ⟨rfl, hv9⟩
                      rw [hv9]
                      clear hv9 TC HR4
                      go_wp2_with fail
                      refine hK.out _ _ (by exact KS.out _ HB1y.out) (fun hHeld2 => ?_)
                      clear hK K
                      (try simp only [Act.put]); (try simp only [List.setIfInBounds_toArray]); (try simp only [List.set_cons_zero, List.set_cons_succ])
                      refine wpAnyH_ready (rs := [29]) (by kernel_rfl) (by simp) ?_
                      refine AllReadyH.cons (o := _) rfl (fun K hK => ?_) AllReadyH.nil
                      (try simp only [List.getElem_toArray, List.getElem_cons_zero, List.getElem_cons_succ])
                      go_simp
                      have HB3 : Hid (Below Y.heap.size Y (Y1.alloc (.cells #[.bool tv] 4))) := HB1y.out.alloc HB1y.out.size _
                      have HO3 : Hid ((Y1.alloc (.cells #[.bool tv] 4)).ownsRow U.heap.size 4 1 u12 (2 + m) (([false, true] ++ (cs.take m).map (fun e => cellV e vs)).map bV)) := own_below HONY.out HB3.out
                      have HNW : Hid (∀ (j : Nat) (u : Value), ([.bool tv] : List Value)[j]? = some u → (Y1.alloc (.cells #[.bool tv] 4)).cell? ((⟨Y1.heap.size, 0, none⟩ : Addr).add j) = some u) := World.news_of_block (heap_new _ _)
                      have hm3 : U.heap.size ≤ (Y1.alloc (.cells #[.bool tv] 4)).heap.size := by have h1 := HBUY.out.size; have h2 := HB3.out.size; omega
                      refine hK.out _ _ (by exact KS.out _ HB3.out) (fun hHeld3 => ?_)
                      clear hK K
                      generalize Y1.alloc (.cells #[.bool tv] 4) = Y2 at *
                      generalize Y1.heap.size = y2b at *
                      (try simp only [Act.put]); (try simp only [List.setIfInBounds_toArray]); (try simp only [List.set_cons_zero, List.set_cons_succ])
                      refine wpAnyH_ready (rs := [30]) (by kernel_rfl) (by simp) ?_
                      refine AllReadyH.cons (o := _) rfl (fun K hK => ?_) AllReadyH.nil
                      refine step_append_lies _ rfl (.tmp 96) (.tmp 125) 22 rfl U.heap.size 4 ib _ 1 1 Tryd.underlying22 HI.out HZ.out HS.out HBY.out rfl (by decide) u12 (2 + m) _ rfl HO3.out ⟨y2b, 0, none⟩ 1 1 [.bool tv] rfl rfl HNW.out (by simp [Value.oneCell']) (by decide) hm1 hm2 hm3 _ rfl ?_
                      intro g5 cap5 w5 hown hgrow hat5 hlt5
                      have HO5 : Hid (w5.ownsRow U.heap.size 4 1 (.slice (some ⟨g5, 0, none⟩) (2 + m + 1) cap5) (2 + (m + 1)) (([false, true] ++ (cs.take (m + 1)).map (fun e => cellV e vs)).map bV)) := by
                        show World.ownsRow _ _ _ _ _ _ _
                        rw [HNXN.out]
                        exact hown
                      have HBU2 : Hid (Below U.heap.size U Y2) := HBUY.out.trans (HB3.out.mono HBUY.out.size)
                      have HB5u : Hid (Below U.heap.size U w5) := HBU2.out.trans (below_grown hgrow HBU2.out.size (fun x hx => (HO3.out.lt x hx).1))
                      have HS5 : Hid ((fun w' => w'.cell? ⟨xb, 0, none⟩ = some (.int .i64 s0) ∧ w'.cell? ⟨xb, 1, none⟩ = some (.int .i64 s1) ∧ w'.cell? ⟨xb, 2, none⟩ = some (.int .i64 s2) ∧ w'.cell? ⟨xb, 3, none⟩ = some (.int .i64 s3) ∧ w'.cell? ⟨xb, 4, none⟩ = some (.int .i64 bits) ∧ w'.cell? ⟨vb, vo + s0.toNat, none⟩ = some (.bool a0) ∧ w'.cell? ⟨vb, vo + s1.toNat, none⟩ = some (.bool a1) ∧ w'.cell? ⟨vb, vo + s2.toNat, none⟩ = some (.bool a2) ∧ w'.cell? ⟨vb, vo + s3.toNat, none⟩ = some (.bool a3)) w5) := by
                        have h0 := KS.out _ HB3.out
                        obtain ⟨k0, k1, k2, k3, k4, k5, k6, k7, k8⟩ := h0
                        have hne : ∀ (p : Addr) (v : Value), Y2.cell? p = some v → u12.ownBlock ≠ some p.block → w5.cell? p = some v := fun p v hv hn => hgrow.cell hv (fun e => hn e.symm)
                        refine ⟨hne _ _ k0 HNXB.out, hne _ _ k1 HNXB.out, hne _ _ k2 HNXB.out, hne _ _ k3 HNXB.out, hne _ _ k4 HNXB.out, hne _ _ k5 HNVB.out, hne _ _ k6 HNVB.out, hne _ _ k7 HNVB.out, hne _ _ k8 HNVB.out⟩
                      refine hK.out _ _ (by exact HS5.out) (fun hHeld4 => ?_)
                      clear hK K hown hgrow hat5 hlt5 HO3 HNW hm3
                      (try simp only [Act.put]); (try simp only [List.setIfInBounds_toArray]); (try simp only [List.set_cons_zero, List.set_cons_succ])
                      refine wpAnyH_take (i := 31) (oi := _) (v := ?_) rfl (by kernel_rfl) (by kernel_rfl) (by kernel_rfl) (fun _ _ _ h => h) (Or.inl ⟨by rfl, ?_⟩) (by assumption) ?_
                      rotate_left
                      · (intro w0 hSw; (try dsimp only at hSw); (try simp only [List.getElem_toArray, List.getElem_cons_zero, List.getElem_cons_succ]); go_simp; try (with_reducible rfl))
                      try simp only [Act.put, List.getElem_toArray, List.getElem_cons_zero, List.getElem_cons_succ, List.setIfInBounds_toArray, List.set_cons_zero, List.set_cons_succ]
                      refine wpAnyH_done (by kernel_rfl) ?_ _
                      refine NoPanic.normal ?_
                      clear hHeld1 hHeld2 hHeld3 hHeld4 HS5 KS
                      go_wp2
                      go_roundw
                      case measure => simp [intOf]; omega
                      case rel => exact ⟨m + 1, by omega, by simp, HO5.out, HB5u.out⟩
                    · have hge2 : ¬ ((m : Int) < (nw : Int)) := by omega
                      have HOE : Hid (wr.ownsRow V.heap.size 4 1 u12 (colsC bl (N.cols.take (j + 1))).length ((colsC bl (N.cols.take (j + 1))).map bV)) := by
                        have h := HON.out
                        rw [List.take_of_length_le (by have := HDL.out; omega)] at h
                        have hcl : (colV vs cs).length = 2 + m := by unfold colV; simp; have := HDL.out; omega
                        rw [HVN.out, hcl]
                        exact own_mono h HBv.out.size
                      have HBE : Hid (Below V.heap.size V wr) := HBVn.out
                      clear HON HBn HBVn
                      go_wp2
                      go_roundw
                      case measure => simp [intOf]; omega
                      case rel => exact ⟨j + 1, by omega, by simp, HOE.out, HBE.out⟩
                · have hge : ¬ ((j : Int) < (nc : Int)) := by omega
                  have HOv6 : Hid (wr.ownsRow V.heap.size 4 1 u9 R.length (R.map bV)) := by
                    have := HOv.out
                    rw [List.take_of_length_le (by have := HNC.out; omega), HRE.out] at this
                    exact this
                  have HFV0 : Hid (∀ x, u9.ownBlock = some x → V.heap.size ≤ x) := fun x hx => (HOv6.out.lt x hx).1
                  clear HOv
                  rw [HRL.out] at HOv6
                  have q7 := (KX.out _ HBv.out).c7
                  obtain ⟨U, hU⟩ : ∃ U, U = wr := ⟨_, rfl⟩
                  have HOv2 := HOv6
                  rw [← hU] at HOv2 HBv q7 q5
                  rw [← hU]
                  clear hU HOv6
                  have HBU := HBv
                  clear HBv
                  obtain ⟨-, av, cv, hu, hrv⟩ := ownRow (g := bV) HOv2.out
                  subst hu
                  have HRV := hidden hrv
                  have HFV : Hid (∀ b o, av = some ⟨b, o, none⟩ → u7.ownBlock ≠ some b) := fun b o e e' => by
                    have h1 := HFV0.out b (by rw [e]; rfl)
                    have h2 := (HO.out.lt b e').2
                    omega
                  have HFW : Hid (∀ b o, av = some ⟨b, o, none⟩ → v0.ownBlock ≠ some b) := fun b o e e' => by
                    have h1 := HFV0.out b (by rw [e]; rfl)
                    have h2 := (HSO.out.lt b e').2
                    omega
                  clear HFV0
                  clear hrv
                  go_wp2_with fail
                  clear q7 q5
                  go_loopw [15, 16] (fun ov i' w' => ∃ (j : Nat), j ≤ N.outs.length ∧ i' = .int .i64 j ∧ Hid (w'.ownsRow U.heap.size 4 1 ov j (((N.outs.take j).map (sV R)).map bV)) ∧ Hid (Below U.heap.size U w')) (fun _ i' _ => N.outs.length - (intOf i').toNat)
                  case atStart => exact ⟨0, Nat.zero_le _, rfl, World.ownsRow_nil _ _ _ _, Below.refl _ _⟩
                  case round =>
                    obtain ⟨j, hj, rfl, HOo, HBo⟩ := hrel
                    have HBVo : Hid (Below V.heap.size V wr) := HBU.out.trans (HBo.out.mono HBU.out.size)
                    have q7 := (KX.out _ HBVo.out).c7
                    by_cases hlt : j < N.outs.length
                    · have hltI : (j : Int) < (N.outs.length : Int) := by omega
                      obtain ⟨s, hs⟩ := getElem_lt hlt
                      obtain ⟨b, o, ea, hlb, hc⟩ := HNV.out.o.int hs
                      have hsb := HF.out.ou s (List.mem_of_getElem? hs)
                      obtain ⟨x, hx⟩ := getElem_lt (l := R) (k := s.toNat) (by have := HRL.out; omega)
                      have hsx : sV R s = x := by unfold sV; rw [hx]; rfl
                      obtain ⟨vb, vo, va, hvb, hvc⟩ := rowB HRV.out hx
                      have c0 : wr.cell? ⟨b, o + j, none⟩ = some (.int .i64 s) := (HBVo.out.cell (p := ⟨b, o + j, none⟩) (Nat.lt_of_lt_of_le hlb hBV)).trans hc
                      have c1 : wr.cell? ⟨vb, vo + s.toNat, none⟩ = some (.bool x) := (HBo.out.cell (p := ⟨vb, vo + s.toNat, none⟩) hvb).trans hvc
                      have HNX : Hid (((N.outs.take (j + 1)).map (sV R)).map bV = ((N.outs.take j).map (sV R)).map bV ++ [.bool x]) := by
                        show _ = _
                        rw [take_next _ j _ hs, List.map_append, List.map_append]
                        show _ ++ [bV (sV R s)] = _
                        rw [hsx]; rfl
                      have hs0 := hsb.1
                      have hs1 := hsb.2
                      rw [va]
                      rw [ea] at q7
                      have e3 : IntKind.i64.wrap ((j : Int) + 1) = (j : Int) + 1 := wrapI _ (by omega) (by omega)
                      have hm1 : j + 1 ≤ maxLen := by simp only [maxLen]; omega
                      have hm2 : (j + 1) * 1 ≤ 140737488355328 := by omega
                      have hsz := HBo.out.size
                      have hm3 : U.heap.size ≤ (wr.alloc (.cells #[.bool x] 4)).heap.size := by simp; omega
                      clear hs hc ea hlb hsb hx hvc hsx
                      have tok : True := trivial
                      go_wp2_with (have _t := tok; at_builtin; (refine wpList_append_lies _ rfl (.tmp 135) (.tmp 144) 22 rfl U.heap.size 4 ib _ 1 1 Tryd.underlying22 HI.out HZ.out HS.out HBY.out rfl (by decide) u15 (j) _ rfl (HOo.out.alloc _) ⟨wr.heap.size, 0, none⟩ 1 1 [.bool x] rfl rfl (World.news_of_block (heap_new _ _)) (by simp [Value.oneCell']) (by decide) hm1 hm2 hm3 _ rfl ?_; intro g cap w5 hown hgrow hat5 hlt5; clear tok))
                      have HO5 : Hid (w5.ownsRow U.heap.size 4 1 (.slice (some ⟨g, 0, none⟩) (j + 1) cap) (j + 1) (((N.outs.take (j + 1)).map (sV R)).map bV)) := by
                        show World.ownsRow _ _ _ _ _ _ _
                        rw [HNX.out]
                        exact hown
                      have HB5 : Hid (Below U.heap.size U w5) := grown_plain HBo.out HOo.out hgrow
                      clear hown hgrow hat5 hlt5 hm1 hm2 hm3 HOo HBo HNX c0 c1 q7
                      go_wp2
                      go_roundw
                      case measure => simp [intOf]; omega
                      case rel => exact ⟨j + 1, by omega, by simp, HO5.out, HB5.out⟩
                    · have hge : ¬ ((j : Int) < (N.outs.length : Int)) := by omega
                      have HOo6 : Hid (wr.ownsRow U.heap.size 4 1 u15 N.outs.length ((outC N R).map bV)) := by
                        have := HOo.out
                        rw [List.take_of_length_le (by omega), show j = N.outs.length by omega] at this
                        exact this
                      clear HOo
                      have hol6 : N.outs.length = (outC N R).length := by unfold outC; simp
                      rw [hol6] at HOo6
                      clear hol6
                      obtain ⟨ox, HOX⟩ : ∃ ox, Hid (outC N R = ox) := ⟨_, rfl⟩
                      rw [HOX.out] at HOo6 HNR
                      obtain ⟨-, oa, oc, hvo, -⟩ := ownRow (g := bV) HOo6.out
                      subst hvo
                      have HBW2 : Hid (Below V.heap.size V wr) := HBVo.out
                      have HO3 : Hid (wr.ownsRow W.heap.size 22 1 u7 k (rows.map RD.v)) := own_below HO.out HBW2.out
                      have HRB3 : Hid (∀ r, r ∈ rows → BS wr r.v r.l ∧ Far u7 r.v ∧ Far v0 r.v) := fun r hr => ⟨(HRB.out r hr).1.to HBW2.out, (HRB.out r hr).2⟩
                      have HFO : Hid (Far u7 (.slice oa ox.length oc)) := far_own HO.out HOo6.out HBU.out.size
                      have HFS' : Hid (Far v0 (.slice oa ox.length oc)) := far_own HSO.out HOo6.out HBU.out.size
                      have HBO : Hid (BS wr (.slice oa ox.length oc) ox) := BS.of HOo6.out
                      have HST3 : Hid (wr.ownsRow W.heap.size 4 1 v0 nr (st.map bV)) := own_below HSO.out HBW2.out
                      have HW2 : Hid (Below W.heap.size W wr) := HBr.out.trans (HBW2.out.mono HBr.out.size)
                      have HOv3 : Hid (RowAt wr.heap.size wr av 1 (R.map boolC)) := (HRV.out.to HBo.out).mono HBo.out.size
                      have hsz := HW2.out.size
                      have hm1 : k + 1 ≤ maxLen := by simp only [maxLen]; omega
                      have hm2 : (k + 1) * 24 ≤ 140737488355328 := by omega
                      have hm3 : W.heap.size ≤ (wr.alloc (.cells #[.slice oa ox.length oc] 22)).heap.size := by simp; omega
                      clear HOo6 HO HRB HBVo HBo HBU HOv2 HRV HSO
                      have tok : True := trivial
                      go_wp2_with (have _t := tok; at_builtin; (refine wpList_append_lies _ rfl (.tmp 146) (.tmp 148) 29 rfl W.heap.size 22 ic _ 1 24 Tryd.underlying29 HI2.out HZ2.out HS2.out HBY2.out rfl (by decide) u7 (k) _ rfl (HO3.out.alloc _) ⟨wr.heap.size, 0, none⟩ 1 1 [.slice oa ox.length oc] rfl rfl (World.news_of_block (heap_new _ _)) (by simp [Value.oneCell']) (by decide) hm1 hm2 hm3 _ rfl ?_; intro g cap w5 hown hgrow hat5 hlt5; clear tok))
                      have hb25 : Below wr.heap.size wr (wr.alloc (.cells #[.slice oa ox.length oc] 22)) := (Below.refl _ _).alloc (Nat.le_refl _) _
                      have HAL : Hid (∀ v l, BS wr v l → Far u7 v → BS w5 v l ∧ Far (.slice (some ⟨g, 0, none⟩) (k + 1) cap) v) := fun v l hv hf => by
                        have hv1 : BS (wr.alloc (.cells #[.slice oa ox.length oc] 22)) v l := hv.to hb25
                        exact ⟨hv1.kept hgrow hf, hf.new hv1 hat5 (Nat.le_refl _)⟩
                      have HO5 : Hid (w5.ownsRow W.heap.size 22 1 (.slice (some ⟨g, 0, none⟩) (k + 1) cap) (k + 1) ((rows ++ [(RD.mk (.slice oa ox.length oc) ox)]).map RD.v)) := by
                        show World.ownsRow _ _ _ _ _ _ _
                        rw [List.map_append]
                        exact hown
                      have HB5 : Hid (Below W.heap.size W w5) := grown_plain HW2.out HO3.out hgrow
                      have HR5 : Hid (∀ r, r ∈ rows ++ [(RD.mk (.slice oa ox.length oc) ox)] → BS w5 r.v r.l ∧ Far (.slice (some ⟨g, 0, none⟩) (k + 1) cap) r.v ∧ Far v0 r.v) := by
                        intro r hr
                        rcases List.mem_append.1 hr with hr | hr
                        · have := HAL.out _ _ (HRB3.out r hr).1 (HRB3.out r hr).2.1
                          exact ⟨this.1, this.2, (HRB3.out r hr).2.2⟩
                        · rw [List.mem_singleton.1 hr]
                          have := HAL.out _ _ HBO.out HFO.out
                          exact ⟨this.1, this.2, HFS'.out⟩
                      have HS5 : Hid (w5.ownsRow W.heap.size 4 1 v0 nr (st.map bV) ∧ Far (.slice (some ⟨g, 0, none⟩) (k + 1) cap) v0) := by
                        have h1 := HAL.out _ _ (BS.of HST3.out) HFS.out
                        refine ⟨(own_below HST3.out hb25).kept hgrow ?_, h1.2⟩
                        cases e : v0.ownBlock with
                        | none => exact .inl rfl
                        | some y => exact .inr (fun e' => HFS.out y e'.symm e)
                      have HV5 : Hid (∀ (i : Nat) (x : Bool), R[i]? = some x → ∃ b o, av = some ⟨b, o, none⟩ ∧ W.heap.size ≤ W.heap.size ∧ w5.cell? ⟨b, o + i, none⟩ = some (.bool x)) := fun i x hx => by
                        obtain ⟨b, o, e1, e2, e3⟩ := rowB HOv3.out hx
                        refine ⟨b, o, e1, Nat.le_refl _, ?_⟩
                        rw [hgrow.cell_far ⟨b, o + i, none⟩ (Nat.lt_of_lt_of_le e2 hb25.size) ?_]
                        · exact (hb25.cell (p := ⟨b, o + i, none⟩) e2).trans e3
                        · intro e
                          exact HFV.out b o e1 e.symm
                      have HL5 : Hid ((rows ++ [(RD.mk (.slice oa ox.length oc) ox)]).map RD.l = runC N ((trs.take (k + 1)).map TR.l) (N.regs.map RgD.init)) := by
                        show _ = _
                        rw [List.map_append, HNR.out, HRL5.out]; rfl
                      clear hown hgrow hat5 hlt5 hm1 hm2 hm3 HO3 HW2 HAL HNR HBO HFO HFS' HRB3 HFS hb25 HOv3 HST3 HBW2
                      obtain ⟨U3, hU3⟩ : ∃ U, U = w5 := ⟨_, rfl⟩
                      rw [← hU3] at HO5 HB5 HR5 HS5 HV5
                      rw [← hU3]
                      clear hU3
                      have q6 := (HX.out.to HX.out.lt HB5.out).c6
                      go_wp2_with fail
                      clear q6
                      go_loopw [17] (fun i' w' => ∃ (j : Nat), j ≤ N.regs.length ∧ i' = .int .i64 j ∧ Hid (w'.ownsRow W.heap.size 4 1 v0 nr ((((N.regs.take j).map (fun d => sV R d.sel)) ++ st.drop j).map bV)) ∧ Hid (U3.grownBy w' v0.ownBlock)) (fun i' _ => N.regs.length - (intOf i').toNat)
                      case atStart => exact ⟨0, Nat.zero_le _, rfl, by show World.ownsRow _ _ _ _ _ _ _; simpa using HS5.out.1, grown_refl _ _⟩
                      case round =>
                        obtain ⟨j, hj, rfl, HON, HGN⟩ := hrel
                        have HBN : Hid (Below W.heap.size W wr) := HB5.out.trans (below_grown HGN.out HB5.out.size (fun y hy => (HS5.out.1.lt y hy).1))
                        have q6 := (HX.out.to HX.out.lt HBN.out).c6
                        by_cases hlt : j < N.regs.length
                        · have hltI : (j : Int) < (N.regs.length : Int) := by omega
                          obtain ⟨s, hs⟩ := getElem_lt hlt
                          obtain ⟨b, o, ea, hlb, hc9⟩ := HAW.out.r.el hs
                          have hc : W.cell? ⟨b, o + j * 2, none⟩ = some (.int .i64 s.sel) := hc9 0 _ rfl
                          clear hc9
                          have hsb := HF.out.rg s (List.mem_of_getElem? hs)
                          obtain ⟨x, hx⟩ := getElem_lt (l := R) (k := s.sel.toNat) (by have := HRL.out; omega)
                          have hsx : sV R s.sel = x := by unfold sV; rw [hx]; rfl
                          obtain ⟨vb, vo, va, -, hvc⟩ := HV5.out _ _ hx
                          have c0 : wr.cell? ⟨b, o + j * 2, none⟩ = some (.int .i64 s.sel) := (HBN.out.cell (p := ⟨b, o + j * 2, none⟩) (Nat.lt_of_lt_of_le hlb hBW)).trans hc
                          have c1 : wr.cell? ⟨vb, vo + s.sel.toNat, none⟩ = some (.bool x) := (HGN.out.cell_far ⟨vb, vo + s.sel.toNat, none⟩ (World.block_lt_of_cell? _ _ hvc) (fun e => HFW.out vb vo va e.symm)).trans hvc
                          have hnl := HF.out.rl
                          rcases HON.out.2 with ⟨hn0, hn1⟩ | ⟨gs, cap2, cur, hv5, -⟩
                          · exfalso; omega
                          have hs0 := hsb.1
                          have hs1 := hsb.2
                          subst hv5
                          have hcl := HON.out.cellAt j (by omega)
                          have hfz := HON.out.frozenAt j
                          have hold : ∃ old, wr.cell? ⟨gs, j, none⟩ = some old := by
                            rw [hcl]
                            have hL : j < ((((N.regs.take j).map (fun d => sV R d.sel)) ++ st.drop j).map bV).length := by simp; omega
                            exact ⟨_, List.getElem?_eq_getElem hL⟩
                          obtain ⟨old, hold⟩ := hold
                          have HSTO := hidden (HON.out.stored j (.bool x))
                          have HNX : Hid (((((N.regs.take j).map (fun d => sV R d.sel)) ++ st.drop j).map bV).set j (.bool x) = ((((N.regs.take (j + 1)).map (fun d => sV R d.sel)) ++ st.drop (j + 1)).map bV)) := by
                            show _ = _
                            have e : ((N.regs.take j ++ [s]).map (fun d => sV R d.sel)) = ((N.regs.take j).map (fun d => sV R d.sel)) ++ [x] := by rw [List.map_append]; simp [hsx]
                            rw [take_next _ j _ hs, e]
                            exact set_next _ _ j _ (by simp; omega) (by omega)
                          rw [va]
                          rw [ea] at q6
                          have e3 : IntKind.i64.wrap ((j : Int) + 1) = (j : Int) + 1 := wrapI _ (by omega) (by omega)
                          have hjI2 : (j : Int) < (nr : Int) := by omega
                          obtain ⟨ss, hss⟩ : ∃ x, x = s.sel := ⟨_, rfl⟩
                          rw [← hss] at c0 c1 hs0 hs1
                          clear hss
                          clear hs hc ea hlb hsb hx hvc hsx hcl HON
                          go_wp2
                          go_roundw
                          case measure => simp [intOf]; omega
                          case rel => exact ⟨j + 1, by omega, by simp, by show World.ownsRow _ _ _ _ _ _ _; rw [← HNX.out]; exact HSTO.out.1, grown_trans HGN.out HSTO.out.2⟩
                        · have hge : ¬ ((j : Int) < (N.regs.length : Int)) := by omega
                          have HSN : Hid (wr.ownsRow W.heap.size 4 1 v0 nr ((stC N (N.regs.map RgD.init) ((trs.take (k + 1)).map TR.l)).map bV)) := by
                            have := HON.out
                            rw [List.take_of_length_le (by omega), List.drop_eq_nil_of_le (by have := HF.out.rl; omega), List.append_nil] at this
                            show World.ownsRow _ _ _ _ _ _ _
                            rw [HNS.out]
                            exact this
                          have HFG : Hid (Far v0 (.slice (some ⟨g, 0, none⟩) (k + 1) cap)) := HS5.out.2.symm
                          have HAN : Hid (wr.ownsRow W.heap.size 22 1 (.slice (some ⟨g, 0, none⟩) (k + 1) cap) (k + 1) ((rows ++ [(RD.mk (.slice oa ox.length oc) ox)]).map RD.v)) := HO5.out.kept HGN.out (.inr (fun e => HFG.out g (by rw [← e]; rfl) rfl))
                          have HRN : Hid (∀ r, r ∈ rows ++ [(RD.mk (.slice oa ox.length oc) ox)] → BS wr r.v r.l ∧ Far (.slice (some ⟨g, 0, none⟩) (k + 1) cap) r.v ∧ Far v0 r.v) := fun r hr => ⟨(HR5.out r hr).1.kept HGN.out (HR5.out r hr).2.2, (HR5.out r hr).2⟩
                          have HFN : Hid (Far (.slice (some ⟨g, 0, none⟩) (k + 1) cap) v0) := HS5.out.2
                          clear HON HO5 HR5 HS5 HV5 HGN HB5
                          go_wp2
                          go_roundw
                          case measure => simp [intOf]; omega
                          case rel => exact ⟨k + 1, _, by omega, by simp, HSN.out, HAN.out, HL5.out, HRN.out, HFN.out, HBN.out⟩
        · have hge : ¬ ((k : Int) < (trs.length : Int)) := by omega
          have HO6 : Hid (wr.ownsRow W.heap.size 22 1 u7 trs.length (rows.map RD.v)) := by
            have := HO.out
            rwa [show k = trs.length by omega] at this
          have HL6 : Hid (rows.map RD.l = runC N (trs.map TR.l) (N.regs.map RgD.init)) := by
            have := HRL5.out
            rwa [List.take_of_length_le (by omega)] at this
          clear HO HRL5
          go_wp2
          go_ret
          exact ⟨_, rfl, rows, own_mono HO6.out hwW, HL6.out, fun r hr => (HRB.out r hr).1, HB1.out.trans (HBr.out.mono hwW)⟩


end Go.Proofs.YtibjgoigdajkkaaDoor
