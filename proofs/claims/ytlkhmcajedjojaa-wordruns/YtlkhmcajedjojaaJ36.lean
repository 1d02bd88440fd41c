import Derived.Test.YtlkhmcajedjojaaJ35
namespace Go.Proofs.Ytlkhmcajedjojaa
open Go.RowKit

set_option maxRecDepth 100000 in
set_option maxHeartbeats 8000000 in
theorem workOut_any (B C : Nat) (w : World) (S : NetS) (N : NetD) (hat : NetAt B w S N) (hok : NetOk N = true) (mk nbk vb rg wb : Nat) (vals regs : List Nat) (ms : List MB) (hM : WmAt C w mk nbk vb rg wb S N vals regs ms) (hA : Apart B mk nbk vb rg wb ms) (hvl : vals.length = N.nodes.length) (st : StOk N regs (ms.map MB.l)) (row : List Nat) (ai : Option Addr) (ci : Nat) (hrow : RowAt B w ai 1 (row.map uN)) (hrl : row.length < big) (hr64 : ∀ x, x ∈ row → x < 18446744073709551616) :
    Calls Try.prog 33 #[.pointer (some ⟨mk, 0, none⟩), .slice ai row.length ci] w fun e w' => (∃ v, e = .returned v) ∧ w'.heap[vb]? = some (.cells ((evalN N row regs (ms.map MB.l) N.nodes.length).map uV).toArray 33 (0, 0)) ∧ w.grownBy w' (some vb) := by
  have HAT := hidden hat
  have HOK := hidden hok
  have HM := hidden hM
  have HA := hidden hA
  have HVL := hidden hvl
  have HST := hidden st
  have HROW := hidden hrow
  have HR64 := hidden hr64
  have hln := hat.ln
  simp only [big] at hln hrl
  have hvs : vals.length < 17592186044416 := by omega
  have m0 := hM.m0
  have mlt := hM.mlt
  have blt := hM.blt
  have b1 : w.cell? ⟨nbk, 1, none⟩ = some (.slice S.a1 N.nodes.length S.c1) := hM.box 1
  clear hat hok hM hA hvl st hrow hr64
  obtain ⟨sa0, sc0, sa1, sc1, sa2, sc2, sa3, sc3, sa4, sc4, sa5, sc5⟩ := S
  dsimp only at *
  go_enter Try.func33, Try.ntmps33
  go_wp2_with fail
  clear m0 b1
  go_loopw [16] (fun i' w' => ∃ (k : Nat), k ≤ N.nodes.length ∧ i' = .int .i64 k ∧ Hid (w'.heap[vb]? = some (.cells ((evalN N row regs (ms.map MB.l) k ++ vals.drop k).map uV).toArray 33 (0, 0))) ∧ Hid (w.grownBy w' (some vb))) (fun i' _ => N.nodes.length - (intOf i').toNat)
  case atStart => exact ⟨0, Nat.zero_le _, rfl, HM.out.vrow, grown_refl _ _⟩
  case round =>
    obtain ⟨k, hk, rfl, HRK, HG⟩ := hrel
    have n1 := HA.out.mv
    have n2 := HA.out.nv
    have far : ∀ (b j : Nat) (v : Value), b ≠ vb → w.cell? ⟨b, j, none⟩ = some v → wr.cell? ⟨b, j, none⟩ = some v := fun b j v hb hc => HG.out.cell hc (by intro e; cases e; exact hb rfl)
    have m0R := far mk 0 _ n1 HM.out.m0
    have m1R := far mk 1 _ n1 HM.out.m1
    have m2R := far mk 2 _ n1 HM.out.m2
    have m3R := far mk 3 _ n1 HM.out.m3
    have b1R : wr.cell? ⟨nbk, 1, none⟩ = some (.slice sa1 N.nodes.length sc1) := far nbk 1 _ n2 (HM.out.box 1)
    by_cases hlt : k < N.nodes.length
    · obtain ⟨d, hd⟩ : ∃ d, N.nodes[k]? = some d := ⟨N.nodes[k], List.getElem?_eq_getElem hlt⟩
      obtain ⟨nb, no, ea, hnb, hnc⟩ := HAT.out.n.el hd
      have hnbv : nb ≠ vb := by have := HA.out.v; omega
      have k0 : wr.cell? ⟨nb, no + k * 4, none⟩ = some (.int .i64 d.kind) := far nb _ _ hnbv (hnc 0 _ rfl)
      have k1 := far nb _ _ hnbv (hnc 1 _ rfl)
      have k2 := far nb _ _ hnbv (hnc 2 _ rfl)
      have k3 := far nb _ _ hnbv (hnc 3 _ rfl)
      dsimp only at ea
      subst ea
      have hltI : (k : Int) < (N.nodes.length : Int) := by omega
      have hltV : (k : Int) < (vals.length : Int) := by have := HVL.out; omega
      have e3 : IntKind.i64.wrap ((k : Int) + 1) = (k : Int) + 1 := wrapI _ (by omega) (by omega)
      obtain ⟨vs, HVS⟩ : ∃ vs, Hid (evalN N row regs (ms.map MB.l) k = vs) := ⟨_, rfl⟩
      have HVO : Hid (VsOk N vs) := by rw [← HVS.out]; exact eval_ok HAT.out HOK.out row regs _ HST.out k
      have hvsl : vs.length = k := by rw [← HVS.out]; exact eval_length _ _ _ _ _
      have HVSL := hidden hvsl
      have hrk := HRK.out
      rw [HVS.out] at hrk
      obtain ⟨val, HVAL⟩ : ∃ val, Hid (nodeVal N row regs (ms.map MB.l) vs d = val) := ⟨_, rfl⟩
      have HNX : Hid (evalN N row regs (ms.map MB.l) (k + 1) = vs ++ [val]) := by
        show _ = _
        rw [eval_next _ _ _ _ _ d hd, HVS.out, HVAL.out]
      obtain ⟨old, hold0⟩ : ∃ old, vals[k]? = some old := ⟨vals[k]'(by have := HVL.out; omega), List.getElem?_eq_getElem (by have := HVL.out; omega)⟩
      have hcurk : (vs ++ vals.drop k)[k]? = some old := by rw [List.getElem?_append_right (by omega), hvsl, Nat.sub_self, List.getElem?_drop]; exact hold0
      have hold := row_cell hrk hcurk
      have hfz : wr.frozen? ⟨vb, k, none⟩ = false := frozen_of_row wr vb k _ _ hrk
      have HLOW : Hid (∀ (j x : Nat), vs[j]? = some x → wr.cell? ⟨vb, j, none⟩ = some (.int .u64 (x : Int)) ∧ j < k) := fun j x hx => by
        have hj : j < vs.length := (List.getElem?_eq_some_iff.1 hx).1
        exact ⟨row_cell hrk (by rw [List.getElem?_append_left hj]; exact hx), by omega⟩
      have HSET : Hid (∀ y : Nat, ((vs ++ vals.drop k).set k y) = vs ++ [y] ++ vals.drop (k + 1)) := by
        intro y
        have e1 : vals.drop k = old :: vals.drop (k + 1) := by
          rw [List.drop_eq_getElem_cons (by have := HVL.out; omega)]
          have : vals[k]'(by have := HVL.out; omega) = old := by
            have h1 := List.getElem?_eq_getElem (l := vals) (i := k) (by have := HVL.out; omega)
            rw [hold0] at h1; exact (Option.some.inj h1).symm
          rw [this]
        rw [e1]
        have := set_mid vs old y (vals.drop (k + 1))
        rw [hvsl] at this
        rw [this]; simp
      have HFIN : Hid (∀ w' : World, w'.heap[vb]? = some (.cells (((vs ++ vals.drop k).set k val).map uV).toArray 33 (0, 0)) → wr.grownBy w' (some vb) → w'.heap[vb]? = some (.cells ((evalN N row regs (ms.map MB.l) (k + 1) ++ vals.drop (k + 1)).map uV).toArray 33 (0, 0)) ∧ w.grownBy w' (some vb)) := fun w' h1 h2 => ⟨by rw [h1, HSET.out, HNX.out], grown_trans HG.out h2⟩
      have HST1 : Hid (∀ (X : World) (c : List Nat) (y : Nat), X.heap[vb]? = some (.cells (c.map uV).toArray 33 (0, 0)) → (X.setCell ⟨vb, k, none⟩ (.int .u64 (y : Int))).heap[vb]? = some (.cells ((c.set k y).map uV).toArray 33 (0, 0))) := fun X c y hX => by
        rw [heap_setCell_same _ vb k _ _ _ hX]; simp [uV]
      have HRKV := hidden hrk
      have HD := hidden hd
      have HFAR := hidden far
      clear hd far hnc hrk HRK HG hold0 hcurk HNX HSET hvsl
      obtain ⟨ho, hin, he⟩ := ok_parts (ok_node HOK.out HD.out)
      have hw' := width_range ho
      have hww := widthOf ho
      have hna := HAT.out.na d (List.mem_of_getElem? HD.out)
      unfold nodeEnd at he
      by_cases h30 : d.kind = 30
      · clear he
        have eL : IntKind.u64.wrap (row.length : Int) = (row.length : Int) := wrapU _ (by omega) (by omega)
        have MK : Hid (∀ w, Calls Try.prog 28 #[.int .i64 d.width] w fun e w' => e = .returned (.int .u64 (maskN d.width)) ∧ w' = w) := fun w => pmask_int d.width hww w
        have HV2 : Hid (val = if d.num < (row.length : Int) then (row[d.num.toNat]?).getD 0 % 2 ^ d.width.toNat else 0) := by
          show _ = _
          rw [← HVAL.out]; unfold nodeVal; rw [if_pos h30]
        have hn0 := hna.2.1
        rw [h30] at k0
        generalize d.width = wd at *
        generalize d.num = nm at *
        clear hna ho hin HD HVAL h30
        by_cases g : nm < (row.length : Int)
        · obtain ⟨x, hx⟩ : ∃ x, row[nm.toNat]? = some x := ⟨row[nm.toNat]'(by omega), List.getElem?_eq_getElem (by omega)⟩
          obtain ⟨tb, tq, rfl, htb, c0⟩ := rowU HROW.out hx
          have htbv : tb ≠ vb := by have := HA.out.v; omega
          have c0R := HFAR.out tb _ _ htbv c0
          have hx64 := HR64.out x (List.mem_of_getElem? hx)
          have e1 : bits BinOp.and IntKind.u64 (x : Int) (maskN wd) = (val : Int) := by
            have := and_mask x wd.toNat hx64 (by omega)
            rw [show ((wd.toNat : Nat) : Int) = wd by omega] at this
            rw [this, HV2.out, if_pos g, hx]; rfl
          clear HV2 hx c0
          go_upto_region 8 with fail
          have HC0 : Hid (∀ b' o, b' ≠ vb → (wr.setCell ⟨vb, k, none⟩ (.int .u64 0)).cell? ⟨b', o, none⟩ = wr.cell? ⟨b', o, none⟩) := fun b' o h1 => World.cell?_setCell_far _ _ _ _ (fun e => h1 (by have e' : vb = b' := e; exact e'.symm))
          have HR0 : Hid ((wr.setCell ⟨vb, k, none⟩ (.int .u64 0)).heap[vb]? = some (.cells (((vs ++ vals.drop k).set k 0).map uV).toArray 33 (0, 0))) := HST1.out wr _ 0 HRKV.out
          have HG0 : Hid (wr.grownBy (wr.setCell ⟨vb, k, none⟩ (.int .u64 0)) (some vb)) := grown_setCell _ _ _ _
          generalize hw0 : wr.setCell ⟨vb, k, none⟩ (.int .u64 0) = w0 at *
          have z1 : w0.cell? ⟨mk, 1, none⟩ = _ := (HC0.out mk 1 n1).trans m1R
          have zk1 := (HC0.out nb _ hnbv).trans k1
          have zk2 := (HC0.out nb _ hnbv).trans k2
          have zc := (HC0.out tb _ htbv).trans c0R
          have hold0 : w0.cell? ⟨vb, k, none⟩ = some (.int .u64 ((0 : Nat) : Int)) := row_cell HR0.out (by rw [List.getElem?_set_self (by simp; have := HVSL.out; have := HVL.out; omega)])
          have hfz0 : w0.frozen? ⟨vb, k, none⟩ = false := frozen_of_row w0 vb k _ _ HR0.out
          have HE := hidden (HFIN.out ((w0.setCell ⟨vb, k, none⟩ (.int .u64 (val : Int))).drew) (by
            show (w0.setCell ⟨vb, k, none⟩ (.int .u64 (val : Int))).heap[vb]? = _
            rw [HST1.out w0 _ val HR0.out, List.set_set]) (grown_trans HG0.out (grown_trans (grown_setCell _ _ _ _) (grown_drew _ _))))
          clear hw0 hold hfz HRKV HLOW HFIN HST1 m0R m1R m2R m3R b1R k0 k1 k2 k3 c0R HC0 HR0 HG0
          go_upto_region 9 with fail
          go_region_held3 (fun w' => ∀ b' o, b' ≠ vb → w'.cell? ⟨b', o, none⟩ = w0.cell? ⟨b', o, none⟩)
            (first | assumption | (intro b' o h1; rfl) | (intro b' o h1; exact World.cell?_setCell_far _ _ _ _ (fun e => h1 (by have e' : vb = b' := e; exact e'.symm))))
            (first | (go_at_call 28; refine (MK.out _).mono ?_; rintro e w2 ⟨rfl, rfl⟩))
          all_goals
            go_wp2_with fail
            go_roundw
            case measure => simp [intOf]; omega
            case rel => exact ⟨k + 1, by omega, by simp, HE.out.1, HE.out.2⟩
        · have hdg : decide (nm < (row.length : Int)) = false := by simp [g]
          have ev : val = 0 := by rw [HV2.out, if_neg g]
          have HE := hidden (HFIN.out (wr.setCell ⟨vb, k, none⟩ (.int .u64 0)) (by
            have := HST1.out wr _ val HRKV.out
            rw [ev] at this ⊢
            exact this) (grown_setCell _ _ _ _))
          clear HFIN HST1 HRKV HLOW ev
          go_wp2
          go_roundw
          case measure => simp [intOf]; omega
          case rel => exact ⟨k + 1, by omega, by simp, HE.out.1, HE.out.2⟩
      · rw [if_neg h30] at he
        by_cases h31 : d.kind = 31
        · rw [if_pos h31, decide_eq_true_iff] at he
          have hn1 : d.num < (N.regs.length : Int) := he.1
          have hn0 := hna.2.1
          have HV2 : Hid (val = (regs[d.num.toNat]?).getD 0) := by
            show _ = _
            rw [← HVAL.out]; unfold nodeVal; rw [if_neg h30, if_pos h31]
          rw [h31] at k0
          generalize d.num = nm at *
          have hrg : regs.length = N.regs.length := HST.out.rl
          obtain ⟨x, hx⟩ : ∃ x, regs[nm.toNat]? = some x := ⟨regs[nm.toNat]'(by omega), List.getElem?_eq_getElem (by omega)⟩
          have cR := HFAR.out rg _ _ HA.out.rv (row_cell HM.out.rrow hx)
          have n3 := HA.out.rv
          have ev : val = x := by rw [HV2.out, hx]; rfl
          subst ev
          have HE := hidden (HFIN.out ((wr.setCell ⟨vb, k, none⟩ (.int .u64 (val : Int))).drew) (HST1.out wr _ val HRKV.out) (grown_trans (grown_setCell _ _ _ _) (grown_drew _ _)))
          clear HV2 hx hrg he hna ho hin HD HVAL h30 h31 HFIN HST1 HRKV HLOW m3R
          go_upto_region 11 with fail
          go_region_held3 (fun w' => ∀ b' o, b' ≠ vb → w'.cell? ⟨b', o, none⟩ = wr.cell? ⟨b', o, none⟩)
            (first | assumption | (intro b' o h1; rfl) | (intro b' o h1; exact World.cell?_setCell_far _ _ _ _ (fun e => h1 (by have e' : vb = b' := e; exact e'.symm))))
            (fail)
          all_goals
            go_wp2_with fail
            go_roundw
            case measure => simp [intOf]; omega
            case rel => exact ⟨k + 1, by omega, by simp, HE.out.1, HE.out.2⟩
        · rw [if_neg h31] at he
          by_cases h32 : d.kind = 32
          · rw [if_pos h32, decide_eq_true_iff] at he
            have hn1 : d.num < (N.mems.length : Int) := he.1
            have hn0 := hna.2.1
            have hl := lenOf ho (n := 1) (by rw [h32]; rfl) (by decide)
            have hl' : 0 < d.args.length := by omega
            have ha := hin _ (List.mem_of_getElem? (at0_of hl'))
            obtain ⟨ab, ao, eaa, hab, hac⟩ := hna.1.int hl'
            have cA := hac 0 hl'
            have habv : ab ≠ vb := by have := HA.out.v; omega
            have cAR := HFAR.out ab _ _ habv cA
            have HV2 : Hid (val = ((((ms.map MB.l)[d.num.toNat]?).getD [])[vAt vs (at0 d.args 0)]?).getD 0) := by
              show _ = _
              rw [← HVAL.out]; unfold nodeVal; rw [if_neg h30, if_neg h31, if_pos h32]
            have hml : ms.length = N.mems.length := by have := HST.out.ml; simpa using this
            obtain ⟨m, hm⟩ : ∃ m, ms[d.num.toNat]? = some m := ⟨ms[d.num.toNat]'(by omega), List.getElem?_eq_getElem (by omega)⟩
            obtain ⟨z, hzz⟩ : ∃ z, N.mems[d.num.toNat]? = some z := ⟨N.mems[d.num.toNat]'(by omega), List.getElem?_eq_getElem (by omega)⟩
            have hmm : (ms.map MB.l)[d.num.toNat]? = some m.l := by rw [List.getElem?_map, hm]; rfl
            have hlen := (HST.out.mm _ m.l z hmm hzz).1
            have hzw := ((net_parts HOK.out).mem z (List.mem_of_getElem? hzz)).2
            have hmem := List.mem_of_getElem? hm
            have hmv := HA.out.msv m hmem
            have n3 := HA.out.wv
            have cW : w.cell? ⟨wb, d.num.toNat, none⟩ = some (.slice (some ⟨m.b, 0, none⟩) m.l.length m.l.length) := by
              rw [cell_of_row w wb _ _ _ _ HM.out.wrow]
              simp [hm, MB.val]
            have cWR := HFAR.out wb _ _ n3 cW
            obtain ⟨y, hy⟩ : ∃ y, vs[(at0 d.args 0).toNat]? = some y := ⟨vs[(at0 d.args 0).toNat]'(by have := HVSL.out; omega), List.getElem?_eq_getElem (by have := HVSL.out; omega)⟩
            have cY := HLOW.out _ y hy
            have eY : vAt vs (at0 d.args 0) = y := by unfold vAt; rw [hy]; rfl
            rw [hmm, eY] at HV2
            simp only [Option.getD_some] at HV2
            have hmb : ∀ (q x : Nat), m.l[q]? = some x → w.cell? ⟨m.b, q, none⟩ = some (.int .u64 (x : Int)) := fun q x hq => by
              have hh := (HM.out.mem.own m hmem).cells (g := m.b) rfl q (.int .u64 (x : Int)) (by rw [List.getElem?_map, hq]; rfl)
              rw [add0] at hh
              simpa using hh
            have HMB := hidden hmb
            rw [h32] at k0
            generalize d.num = nm at *
            have hl1 : d.args.length = 1 := by omega
            rw [hl1] at k3
            generalize at0 d.args 0 = a0 at *
            rw [eaa] at k3
            generalize hml0 : m.l.length = ml at *
            have eL : IntKind.u64.wrap (ml : Int) = (ml : Int) := wrapU _ (by omega) (by omega)
            have hne : a0.toNat ≠ k := by omega
            have ha0 := ha.1
            have ha1 : a0 < (vals.length : Int) := by omega
            clear he hna ho hin HD HVAL h30 h31 h32 hac cA hm hzz hmm hlen hzw hmem cW hy hmb hl hl' hl1
            go_upto_region 14 with fail
            have HC0 : Hid (∀ b' o, b' ≠ vb → (wr.setCell ⟨vb, k, none⟩ (.int .u64 0)).cell? ⟨b', o, none⟩ = wr.cell? ⟨b', o, none⟩) := fun b' o h1 => World.cell?_setCell_far _ _ _ _ (fun e => h1 (by have e' : vb = b' := e; exact e'.symm))
            have HR0 : Hid ((wr.setCell ⟨vb, k, none⟩ (.int .u64 0)).heap[vb]? = some (.cells (((vs ++ vals.drop k).set k 0).map uV).toArray 33 (0, 0))) := HST1.out wr _ 0 HRKV.out
            have HG0 : Hid (wr.grownBy (wr.setCell ⟨vb, k, none⟩ (.int .u64 0)) (some vb)) := grown_setCell _ _ _ _
            have yc : (wr.setCell ⟨vb, k, none⟩ (.int .u64 0)).cell? ⟨vb, a0.toNat, none⟩ = some (.int .u64 (y : Int)) := by
              rw [cell_of_row _ vb _ _ _ _ HR0.out]
              have h1 := cY.1
              rw [cell_of_row _ vb _ _ _ _ HRKV.out] at h1
              have h2 : ((vs ++ vals.drop k).set k 0)[a0.toNat]? = (vs ++ vals.drop k)[a0.toNat]? := List.getElem?_set_ne (Ne.symm hne)
              simp only [List.getElem?_toArray, List.getElem?_map] at h1 ⊢
              rw [h2]; exact h1
            generalize hw0 : wr.setCell ⟨vb, k, none⟩ (.int .u64 0) = w0 at *
            have z1 : w0.cell? ⟨mk, 1, none⟩ = _ := (HC0.out mk 1 n1).trans m1R
            have z3 : w0.cell? ⟨mk, 3, none⟩ = _ := (HC0.out mk 3 n1).trans m3R
            have zk2 := (HC0.out nb _ hnbv).trans k2
            have zk3 := (HC0.out nb _ hnbv).trans k3
            have zA : w0.cell? ⟨ab, ao, none⟩ = some (.int .i64 a0) := (HC0.out ab _ habv).trans cAR
            have zW := (HC0.out wb _ n3).trans cWR
            have HE0 : Hid (val = 0 → ∀ n, (w0.drewN n).heap[vb]? = some (.cells ((evalN N row regs (ms.map MB.l) (k + 1) ++ vals.drop (k + 1)).map uV).toArray 33 (0, 0)) ∧ w.grownBy (w0.drewN n) (some vb)) := fun hv n => HFIN.out (w0.drewN n) (by
              show w0.heap[vb]? = _
              rw [hv]; exact HR0.out) (grown_drewN HG0.out n)
            have HMB0 : Hid (∀ (q x : Nat), m.l[q]? = some x → w0.cell? ⟨m.b, q, none⟩ = some (.int .u64 (x : Int))) := fun q x hq => (HC0.out m.b q hmv).trans (HFAR.out m.b q _ hmv (HMB.out q x hq))
            clear hold hfz HRKV HLOW m0R m1R m2R m3R b1R k0 k1 k2 k3 cAR cWR cY HC0 HMB
            go_quiet (fail)
            go_upto_region 15 with fail
            go_quiet (fail)
            by_cases g : y < ml
            · obtain ⟨x, hx⟩ : ∃ x, m.l[y]? = some x := ⟨m.l[y]'(by omega), List.getElem?_eq_getElem (by omega)⟩
              have ev : val = x := by rw [HV2.out, hx]; rfl
              subst ev
              have gI : (y : Int) < (ml : Int) := by omega
              have zM := HMB0.out y val hx
              clear HE0 HMB0 hx HV2
              go_upto_region 17 with fail
              generalize hw1 : World.drewN w0 _ = w1
              have y1 : w1.cell? ⟨mk, 1, none⟩ = some (.slice (some ⟨vb, 0, none⟩) vals.length vals.length) := by rw [← hw1]; exact z1
              have yM : w1.cell? ⟨m.b, y, none⟩ = some (.int .u64 (val : Int)) := by rw [← hw1]; exact zM
              have HR1 : Hid (w1.heap[vb]? = some (.cells (((vs ++ vals.drop k).set k 0).map uV).toArray 33 (0, 0))) := by rw [← hw1]; exact HR0.out
              have hold1 : w1.cell? ⟨vb, k, none⟩ = some (.int .u64 ((0 : Nat) : Int)) := row_cell HR1.out (by rw [List.getElem?_set_self (by simp; have := HVSL.out; have := HVL.out; omega)])
              have hfz1 : w1.frozen? ⟨vb, k, none⟩ = false := frozen_of_row w1 vb k _ _ HR1.out
              have HE := hidden (HFIN.out ((w1.setCell ⟨vb, k, none⟩ (.int .u64 (val : Int))).drew) (by
                show (w1.setCell ⟨vb, k, none⟩ (.int .u64 (val : Int))).heap[vb]? = _
                rw [HST1.out w1 _ val HR1.out, List.set_set]) (grown_trans (by rw [← hw1]; exact grown_drewN HG0.out _) (grown_trans (grown_setCell _ _ _ _) (grown_drew _ _))))
              clear hw1 hw0 z1 z3 zk2 zk3 zA zW zM HR0 HG0 HR1 yc HFIN HST1
              go_region_held3 (fun w' => ∀ b' o, b' ≠ vb → w'.cell? ⟨b', o, none⟩ = w1.cell? ⟨b', o, none⟩)
                (first | assumption | (intro b' o h1; rfl) | (intro b' o h1; exact World.cell?_setCell_far _ _ _ _ (fun e => h1 (by have e' : vb = b' := e; exact e'.symm))))
                (fail)
              all_goals
                go_wp2_with fail
                go_roundw
                case measure => simp [intOf]; omega
                case rel => exact ⟨k + 1, by omega, by simp, HE.out.1, HE.out.2⟩
            · have gI : ¬ (y : Int) < (ml : Int) := by omega
              have ev : val = 0 := by rw [HV2.out, List.getElem?_eq_none (by omega)]; rfl
              have HE := hidden (HE0.out ev)
              clear HE0 ev HV2 HFIN HST1 HMB0
              go_wp2
              go_roundw
              case measure => simp [intOf]; omega
              case rel => exact ⟨k + 1, by omega, by simp, (HE.out _).1, (HE.out _).2⟩
          · have hop := opok_of HAT.out HOK.out HD.out vs (by have := HVSL.out; omega) HVO.out ⟨h30, h31, h32⟩
            have HV2 : Hid (opN d.kind d.width.toNat d.num.toNat (pairsOf N vs d.args) = val) := by
              show _ = _
              rw [← HVAL.out]; unfold nodeVal; rw [if_neg h30, if_neg h31, if_neg h32]
            have ew : d.width = ((d.width.toNat : Nat) : Int) := by omega
            have en : d.num = ((d.num.toNat : Nat) : Int) := by have := hna.2.1; omega
            have hpl : (pairsOf N vs d.args).length = d.args.length := by unfold pairsOf; simp
            have WT : Hid (∀ w', w'.heap = wr.heap → Calls Try.prog 38 #[.pointer (some ⟨nb, no + k * 4, none⟩), .slice (some ⟨nb, no, none⟩) N.nodes.length sc1, .slice (some ⟨vb, 0, none⟩) vals.length vals.length] w' fun e w'' => e = .returned (.int .u64 (val : Int)) ∧ ∃ q, w'' = w'.drewN q) := by
              intro w' hw'
              have hc : ∀ a : Addr, w'.cell? a = wr.cell? a := fun a => by simp [World.cell?, hw']
              have hh := worth_any w' d.kind d.width.toNat d.num.toNat (pairsOf N vs d.args) hop nb (no + k * 4) d.aa d.ac vb 0 vals.length vals.length nb no N.nodes.length sc1 (by rw [hc]; exact k0) (by rw [hc, ← ew]; exact k1) (by rw [hc, ← en]; exact k2) (by rw [hc, hpl]; exact k3) (fun hne => by
                have hl' : 0 < d.args.length := by rw [← hpl]; exact List.length_pos_iff.2 hne
                obtain ⟨ab, ao, eaa, hab, hac⟩ := hna.1.int hl'
                refine ⟨ab, ao, eaa, fun j p hp => ?_⟩
                have hj : j < d.args.length := by rw [← hpl]; exact (List.getElem?_eq_some_iff.1 hp).1
                have hr := hin _ (List.mem_of_getElem? (at0_of hj))
                have ep : (vAt vs (at0 d.args j), (widthAt N (at0 d.args j)).toNat) = p := by
                  unfold pairsOf at hp
                  rw [List.getElem?_map, at0_of hj] at hp
                  exact Option.some.inj hp
                obtain ⟨y, hy⟩ : ∃ y, vs[(at0 d.args j).toNat]? = some y := ⟨vs[(at0 d.args j).toNat]'(by have := HVSL.out; omega), List.getElem?_eq_getElem (by have := HVSL.out; omega)⟩
                obtain ⟨dd, hdd⟩ : ∃ dd, N.nodes[(at0 d.args j).toNat]? = some dd := ⟨N.nodes[(at0 d.args j).toNat]'(by omega), List.getElem?_eq_getElem (by omega)⟩
                obtain ⟨nb', no', eb', hnb', hnc'⟩ := HAT.out.n.el hdd
                have e2 : nb' = nb ∧ no' = no := by cases eb'; exact ⟨rfl, rfl⟩
                obtain ⟨rfl, rfl⟩ := e2
                have hdw := width_range (ok_parts (ok_node HOK.out hdd)).1
                refine ⟨(at0 d.args j).toNat, ?_, by have := HVL.out; omega, by omega, ?_, ?_⟩
                · rw [hc, show (((at0 d.args j).toNat : Nat) : Int) = at0 d.args j by omega]
                  exact HFAR.out ab _ _ (by have := HA.out.v; omega) (hac j hj)
                · rw [hc, ← ep, Nat.zero_add]
                  have := (HLOW.out _ y hy).1
                  rw [show vAt vs (at0 d.args j) = y by unfold vAt; rw [hy]; rfl]
                  exact this
                · rw [hc, ← ep]
                  have h3 := HFAR.out _ _ _ hnbv (hnc' 1 _ rfl)
                  rw [show (((widthAt N (at0 d.args j)).toNat : Nat) : Int) = dd.width by
                    have e4 : widthAt N (at0 d.args j) = dd.width := by unfold widthAt; rw [hdd]; rfl
                    rw [e4]; omega]
                  exact h3)
              rw [HV2.out] at hh
              exact hh
            have HE := hidden (fun n => HFIN.out ((wr.drewN n).setCell ⟨vb, k, none⟩ (.int .u64 (val : Int))) (HST1.out (wr.drewN n) _ val HRKV.out) (grown_trans (grown_drewN (grown_refl _ _) n) (grown_setCell _ _ _ _)))
            generalize d.kind = kd at *
            clear he hna ho hin HD HVAL HFIN HST1 HRKV HLOW m2R m3R hop HV2 ew en hpl
            go_upto_region 5 with fail
            go_region_held3 (fun w' => ∀ b' o, b' ≠ vb → w'.cell? ⟨b', o, none⟩ = wr.cell? ⟨b', o, none⟩)
              (first | assumption | (intro b' o h1; rfl) | (intro b' o h1; exact World.cell?_setCell_far _ _ _ _ (fun e => h1 (by have e' : vb = b' := e; exact e'.symm))))
              (first | (go_at_call 38; refine (WT.out wr.drew rfl).mono ?_; rintro e w2 ⟨rfl, q, rfl⟩))
            all_goals
              go_wp2_with fail
              go_roundw
              case measure => simp [intOf]; omega
              case rel => exact ⟨k + 1, by omega, by simp, (HE.out _).1, (HE.out _).2⟩
    · have hge : ¬ ((k : Int) < (N.nodes.length : Int)) := by omega
      have HRE : Hid (wr.heap[vb]? = some (.cells ((evalN N row regs (ms.map MB.l) N.nodes.length).map uV).toArray 33 (0, 0))) := by
        have := HRK.out
        rw [show k = N.nodes.length by omega, List.drop_eq_nil_of_le (by have := HVL.out; omega), List.append_nil] at this
        exact this
      clear HRK far
      go_wp2
      go_end0
      exact ⟨⟨_, rfl⟩, HRE.out, HG.out⟩

end Go.Proofs.Ytlkhmcajedjojaa
