import Derived.Test.YtibjgoigdajkkaaDoorJ22
namespace Go.Proofs.YtibjgoigdajkkaaDoor
open Go.RowKit

set_option maxRecDepth 100000 in
set_option maxHeartbeats 8000000 in
theorem putEarly_any (D : PnS) (w : World) (col ld : Nat → Int) (tv : Nat → Value) (h : PlRaw D w col ld tv) (lev : Nat → Nat) (hL : PlLv D lev) (hO : PlOk D) (B : Nat) (hB : B ≤ D.ib ∧ B ≤ D.lb ∧ B ≤ D.C) :
    Calls Tryd.prog 42 #[.pointer (some ⟨D.pb, 0, none⟩)] w fun e w' => (∃ v, e = .returned v) ∧ (∃ T, PlAt D w' T ∧ Good D T) ∧ Below B w w' := by
  have hns := h.tk.bs.nn
  have hfst := h.tk.bs.fst
  have hcc := h.tk.bs.cc
  have TA := hidden (takeAllOut_any D w col ld tv h.tk)
  obtain ⟨pb, Epb⟩ := exh D.pb
  obtain ⟨n, En⟩ := exh D.n
  obtain ⟨fs, Efs⟩ := exh D.first
  obtain ⟨ia, Eia⟩ := exh D.ia
  have HNI := hidden h.tk.bs.insn
  have HC : Hid (∀ (v : World) (T : PnT), PlAt D v T → v.cell? ⟨pb, 6, none⟩ = some (.slice ia n D.icap) ∧ v.cell? ⟨pb, 7, none⟩ = some (.int .i64 (fs : Int))) := fun v T hv => by
    rw [Epb.out, En.out, Efs.out, Eia.out]
    exact ⟨hv.bs.c6, hv.bs.c7⟩
  have HL := hidden hL
  have HO := hidden hO
  have HBB := hidden hB
  have HCC := hidden hcc
  have HRW := hidden h
  rw [← Epb.out] at TA
  rw [← Epb.out]
  rw [← En.out] at hns
  rw [← En.out, ← Efs.out] at hfst
  have hsz := h.tk.bs.sz
  clear h hL hO hB hcc
  go_enter Tryd.func42, Tryd.ntmps42
  go_wp2_with fail
  go_at_call 55
  refine TA.out.mono ?_
  rintro e w1 ⟨⟨r1, rfl⟩, ⟨tb, hp1, ht1, ho1⟩, hb1⟩
  have HP1 := hidden (hp1.at ht1 HRW.out.cb HRW.out.ldb)
  have HI1 : Hid (Inv D ⟨col, tb, endK D, ld⟩ (onLo D fs)) := inv_none D col ld tb _ (fun j => by
    cases e : onLo D fs j with
    | false => rfl
    | true => have := onLo_true.1 e; have := Efs.out; omega) HRW.out.c0
  have HB1 : Hid (Below B w w1) := hb1.below HBB.out.1 (Nat.le_trans HBB.out.2.2 hsz)
  have HTB : Hid (∀ i, i < D.n → B ≤ tb i) := fun i hi => by have := ho1 i hi; have := HBB.out.2.2; omega
  clear hp1 ht1 ho1 hb1 TA
  obtain ⟨-, c7⟩ := HC.out w1 _ HP1.out
  go_wp2_with fail
  clear c7
  go_loopw [2] (fun i' w' => ∃ (k : Nat) (T : PnT), fs ≤ k ∧ k ≤ n ∧ i' = .int .i64 (k : Int) ∧ Hid (T.tb = tb) ∧ Hid (PlAt D w' T) ∧ Hid (Inv D T (onLo D k)) ∧ Hid (∀ j, D.first ≤ j → j < k → T.col j + 1 ≤ lev j) ∧ Hid (Below B w w')) (fun i' _ => n - (intOf i').toNat)
  case atStart => exact ⟨fs, ⟨col, tb, endK D, ld⟩, Nat.le_refl _, hfst, rfl, rfl, HP1.out, HI1.out, fun j h1 h2 => by have := Efs.out; omega, HB1.out⟩
  case round =>
    clear HP1 HI1 HB1
    obtain ⟨k, T, hk1, hk2, rfl, HT, HP, HI, HV, HB⟩ := hrel
    obtain ⟨c6, c7⟩ := HC.out wr _ HP.out
    by_cases hlt : k < n
    · have hltI : (k : Int) < (n : Int) := by omega
      have hi : D.first ≤ k := by rw [← Efs.out]; omega
      have hn : k < D.n := by rw [← En.out]; omega
      obtain ⟨f, s1, s2, s3, s4⟩ := early_step HL.out HO.out HNI.out hi hn HI.out HV.out
      have LA := earliest_any D T wr HP.out k hn
      rw [s1] at LA
      have PU := put_any D T wr HP.out k hn f s2 (fun x hx => by
        have hxn := HNI.out k hn x hx
        rw [HI.out.tk x (by omega) _ (by omega)]
        have h1 := cntT_le D T.col (onLo D k) x f
        have h2 : endK D x f = 0 := by unfold endK; rw [if_neg (by omega)]
        have := En.out
        omega)
      rw [← Epb.out] at LA PU
      have HV2 : Hid (∀ j, D.first ≤ j → j < k + 1 → (putT D T k f).col j + 1 ≤ lev j) := fun j h1 h2 => by
        show upd T.col k (f : Int) j + 1 ≤ _
        by_cases e : j = k
        · rw [e, upd_same]; exact s3
        · rw [upd_ne e]; exact HV.out j h1 (by omega)
      have HI2 := hidden s4
      replace LA := hidden LA
      replace PU := hidden PU
      have e2 : IntKind.i64.wrap ((k : Int) + 1) = (k : Int) + 1 := wrapI _ (by omega) (by omega)
      clear s1 s2 s3 s4 HI HV HP
      go_wp2_with fail
      go_at_call 61
      refine LA.out.mono ?_
      rintro e v ⟨rfl, hv⟩
      rw [hv]
      clear hv v
      go_wp2_with fail
      go_at_call 56
      refine PU.out.mono ?_
      rintro e w2 ⟨⟨r2, rfl⟩, hp2, hf2⟩
      have HP2 := hidden hp2
      have HB2 : Hid (Below B w w2) := HB.out.trans (hf2.below (Nat.le_trans HBB.out.2.2 (Nat.le_trans hsz HB.out.size)) HBB.out.1 HBB.out.2.1 (by rw [HT.out]; exact HTB.out))
      clear hp2 hf2 HB LA PU
      go_wp2
      go_roundw
      case measure => simp [intOf]; omega
      case rel => exact ⟨k + 1, putT D T k f, by omega, by omega, by simp, HT.out, HP2.out, HI2.out, HV2.out, HB2.out⟩
    · obtain rfl : k = n := by omega
      have hnge : ¬ (k : Int) < (k : Int) := by omega
      have CL := countLoads_any D T wr HP.out
      rw [← Epb.out] at CL
      replace CL := hidden CL
      go_wp2_with fail
      go_at_call 58
      refine CL.out.mono ?_
      rintro e w2 ⟨⟨r2, rfl⟩, hp2, hb2⟩
      have HP2 := hidden hp2
      have HG2 : Hid (Good D { T with ld := ldN D T D.n }) := by
        have := HI.out
        rw [En.out, onLo_n] at this
        exact ⟨⟨this.on, this.c0, this.tk, this.od⟩, rfl⟩
      have HB2 : Hid (Below B w w2) := HB.out.trans (hb2.below HBB.out.2.1 (Nat.le_trans HBB.out.2.2 (Nat.le_trans hsz HB.out.size)))
      clear hp2 hb2
      go_wp2
      go_end0
      exact ⟨⟨_, rfl⟩, ⟨_, HP2.out, HG2.out⟩, HB2.out⟩
theorem Good.spread {D : PnS} {T : PnT} (h : Good D T) (hc1 : 1 ≤ D.cc) (hr : (D.n : Int) ≤ D.sh.rows) : spreadB D T = true := by
  rw [spreadB_true D T hc1]
  intro c _
  rw [h.ld]
  have := ldN_le D T D.n c
  omega
/-- behind settle: a plan that is good, or none that is -/
def SpP (D : PnS) (B : Nat) (w w' : World) (r : Bool) : Prop := (∃ T, PlAt D w' T ∧ Good D T ∧ (r = true → spreadB D T = true)) ∧ ((D.n : Int) ≤ D.sh.rows → r = true) ∧ Below B w w'
set_option maxRecDepth 100000 in
set_option maxHeartbeats 8000000 in
theorem spread_any (D : PnS) (T : PnT) (w : World) (h : PlAt D w T) (hG : Good D T) (hO : PlOk D) (tf : Bool) (B : Nat) (hB : B ≤ D.ib ∧ B ≤ D.lb ∧ B ≤ D.C) :
    Calls Tryd.prog 41 #[.pointer (some ⟨D.pb, 0, none⟩), .bool tf] w fun e w' => ∃ r : Bool, e = .returned (.bool r) ∧ SpP D B w w' r := by
  have hns := h.bs.nn
  have hfst := h.bs.fst
  have hsz := h.bs.sz
  have HCC := hidden h.bs.cc
  obtain ⟨pb, Epb⟩ := exh D.pb
  obtain ⟨n, En⟩ := exh D.n
  obtain ⟨fs, Efs⟩ := exh D.first
  obtain ⟨ia, Eia⟩ := exh D.ia
  have HC : Hid (∀ (v : World) (T : PnT), PlAt D v T → v.cell? ⟨pb, 6, none⟩ = some (.slice ia n D.icap) ∧ v.cell? ⟨pb, 7, none⟩ = some (.int .i64 (fs : Int))) := fun v T hv => by
    rw [Epb.out, En.out, Efs.out, Eia.out]
    exact ⟨hv.bs.c6, hv.bs.c7⟩
  have IS : Hid (∀ (v : World) (T : PnT), PlAt D v T → Calls Tryd.prog 59 #[.pointer (some ⟨pb, 0, none⟩)] v fun e w' => e = .returned (.bool (spreadB D T)) ∧ ∃ n, w' = v.drewN n) := fun v T hv => by
    rw [Epb.out]; exact isSpread_any D T v hv
  have HTB : Hid (∀ (v : World) (T : PnT), PlAt D v T → ∀ j, j < D.n → B ≤ T.tb j) := fun v T hv j hj => by
    have := (hv.tk j hj).1; omega
  have MV : Hid (∀ (v : World) (T : PnT) (i : Nat) (tf : Bool), PlAt D v T → Good D T → fs ≤ i → i < n → Calls Tryd.prog 60 #[.pointer (some ⟨pb, 0, none⟩), .int .i64 (i : Int), .bool tf] v fun e w' => (∃ v, e = .returned v) ∧ ∃ T', PlAt D w' T' ∧ Good D T' ∧ Below B v w') := fun v T i tf hv hg h1 h2 => by
    rw [Epb.out]
    rw [Efs.out] at h1
    rw [En.out] at h2
    refine (move_any D T v hv hg hO i h1 h2 tf).mono ?_
    rintro e w' ⟨he, T', ht, hp, hg', hf⟩
    exact ⟨he, T', hp, hg', hf.below (Nat.le_trans hB.2.2 hv.bs.sz) hB.1 hB.2.1 (HTB.out v T hv)⟩
  have HH := hidden h
  have HG := hidden hG
  rw [← Epb.out]
  rw [← En.out] at hns
  rw [← En.out, ← Efs.out] at hfst
  clear h hG hO hB
  go_enter Tryd.func41, Tryd.ntmps41
  go_wp2_with fail
  go_loopw [1, 5, 6, 7] (fun t' _ _ i' w' => ∃ (k : Nat) (T : PnT) (tf : Bool), k ≤ 8 ∧ i' = .int .i64 (k : Int) ∧ t' = .bool tf ∧ Hid (PlAt D w' T) ∧ Hid (Good D T) ∧ Hid (Below B w w')) (fun _ _ _ i' _ => 8 - (intOf i').toNat)
  case atStart => exact ⟨0, T, tf, by omega, rfl, rfl, HH.out, HG.out, Below.refl _ _⟩
  case round =>
    clear HH HG
    obtain ⟨k, T, tf, hk, rfl, rfl, HP, HG, HB⟩ := hrel
    by_cases hlt : k < 8
    · have hltI : (k : Int) < 8 := by omega
      have e2 : IntKind.i64.wrap ((k : Int) + 1) = (k : Int) + 1 := wrapI _ (by omega) (by omega)
      have IS1 := hidden (IS.out wr T HP.out)
      go_wp2_with fail
      go_at_call 59
      refine IS1.out.mono ?_
      rintro e v ⟨rfl, q, hv⟩
      rw [hv]
      clear hv v IS1
      have HP1 : Hid (PlAt D (wr.drewN q) T) := HP.out.heap rfl
      have HB1 : Hid (Below B w (wr.drewN q)) := Below.drewN HB.out q
      clear HP HB
      generalize wr.drewN q = w1 at *
      cases hs : spreadB D T with
      | true =>
        go_wp2
        go_ret
        exact ⟨true, rfl, ⟨T, HP1.out, HG.out, fun _ => hs⟩, fun _ => rfl, HB1.out⟩
      | false =>
        obtain ⟨c6, c7⟩ := HC.out w1 _ HP1.out
        have e0 : IntKind.i64.wrap ((n : Int) - 1) = (n : Int) - 1 := wrapI _ (by omega) (by omega)
        clear hs
        cases tf with
        | true =>
          go_wp2_with fail
          clear c6 c7
          go_loopw [5] (fun i' w' => ∃ (i : Nat) (T : PnT), fs ≤ i ∧ i ≤ n ∧ i' = .int .i64 (i : Int) ∧ Hid (PlAt D w' T) ∧ Hid (Good D T) ∧ Hid (Below B w w')) (fun i' _ => n - (intOf i').toNat)
          case atStart => exact ⟨fs, T, Nat.le_refl _, hfst, rfl, HP1.out, HG.out, HB1.out⟩
          case round =>
            clear HP1 HG HB1
            obtain ⟨i, T2, h1, h2, rfl, HP2, HG2, HB2⟩ := hrel
            obtain ⟨c6, c7⟩ := HC.out wr _ HP2.out
            by_cases hl : i < n
            · have hlI : (i : Int) < (n : Int) := by omega
              have e3 : IntKind.i64.wrap ((i : Int) + 1) = (i : Int) + 1 := wrapI _ (by omega) (by omega)
              have MO := hidden (MV.out wr T2 i true HP2.out HG2.out h1 hl)
              clear HP2 HG2
              go_wp2_with fail
              go_at_call 60
              refine MO.out.mono ?_
              rintro e w3 ⟨⟨r3, rfl⟩, T3, hp3, hg3, hb3⟩
              have HP3 := hidden hp3
              have HG3 := hidden hg3
              have HB3 := hidden (HB2.out.trans hb3)
              clear hp3 hg3 hb3 MO c6 c7
              go_wp2
              go_roundw
              case measure => simp [intOf]; omega
              case rel => exact ⟨i + 1, T3, by omega, by omega, by simp, HP3.out, HG3.out, HB3.out⟩
            · have hnI : ¬ (i : Int) < (n : Int) := by omega
              clear c7
              go_wp2
              go_roundw
              case measure => simp [intOf]; omega
              case rel => exact ⟨k + 1, T2, false, by omega, by simp, rfl, HP2.out, HG2.out, HB2.out⟩
        | false =>
          go_wp2_with fail
          clear c6 c7
          go_loopw [6] (fun i' w' => ∃ (i : Nat) (T : PnT), fs ≤ i ∧ i ≤ n ∧ i' = .int .i64 ((i : Int) - 1) ∧ Hid (PlAt D w' T) ∧ Hid (Good D T) ∧ Hid (Below B w w')) (fun i' _ => (intOf i' + 1).toNat)
          case atStart => exact ⟨n, T, hfst, Nat.le_refl _, rfl, HP1.out, HG.out, HB1.out⟩
          case round =>
            clear HP1 HG HB1
            obtain ⟨i1, T2, h1, h2, rfl, HP2, HG2, HB2⟩ := hrel
            obtain ⟨c6, c7⟩ := HC.out wr _ HP2.out
            by_cases hl : fs < i1
            · obtain ⟨i, rfl⟩ : ∃ i, i1 = i + 1 := ⟨i1 - 1, by omega⟩
              have e1 : ((i + 1 : Nat) : Int) - 1 = (i : Int) := by omega
              rw [e1]
              have hlI : (fs : Int) ≤ (i : Int) := by omega
              have e3 : IntKind.i64.wrap ((i : Int) - 1) = (i : Int) - 1 := wrapI _ (by omega) (by omega)
              have MO := hidden (MV.out wr T2 i false HP2.out HG2.out (by omega) (by omega))
              clear HP2 HG2 e1
              go_wp2_with fail
              go_at_call 60
              refine MO.out.mono ?_
              rintro e w3 ⟨⟨r3, rfl⟩, T3, hp3, hg3, hb3⟩
              have HP3 := hidden hp3
              have HG3 := hidden hg3
              have HB3 := hidden (HB2.out.trans hb3)
              clear hp3 hg3 hb3 MO c6 c7
              go_wp2
              go_roundw
              case measure => simp [intOf]
              case rel => exact ⟨i, T3, by omega, by omega, rfl, HP3.out, HG3.out, HB3.out⟩
            · obtain rfl : i1 = fs := by omega
              have hnI : ¬ (i1 : Int) ≤ (i1 : Int) - 1 := by omega
              clear c6
              go_wp2
              go_roundw
              case measure => simp [intOf]; omega
              case rel => exact ⟨k + 1, T2, true, by omega, by simp, rfl, HP2.out, HG2.out, HB2.out⟩
    · have hnI : ¬ (k : Int) < 8 := by omega
      have IS1 := hidden (IS.out wr T HP.out)
      go_wp2_with fail
      go_at_call 59
      refine IS1.out.mono ?_
      rintro e v ⟨rfl, q, hv⟩
      rw [hv]
      clear hv v IS1
      have HP1 : Hid (PlAt D (wr.drewN q) T) := HP.out.heap rfl
      have HB1 : Hid (Below B w (wr.drewN q)) := Below.drewN HB.out q
      have HSP : Hid ((D.n : Int) ≤ D.sh.rows → spreadB D T = true) := fun hr => HG.out.spread HCC.out.2.1 hr
      clear HP HB
      go_wp2
      go_ret
      exact ⟨spreadB D T, rfl, ⟨T, HP1.out, HG.out, fun h => h⟩, HSP.out, HB1.out⟩
set_option maxRecDepth 100000 in
set_option maxHeartbeats 8000000 in
theorem settle_any (D : PnS) (w : World) (col ld : Nat → Int) (tv : Nat → Value) (h : PlRaw D w col ld tv) (lev : Nat → Nat) (hL : PlLv D lev) (hO : PlOk D) (B : Nat) (hB : B ≤ D.ib ∧ B ≤ D.lb ∧ B ≤ D.C) :
    Calls Tryd.prog 20 #[.pointer (some ⟨D.pb, 0, none⟩)] w fun e w' => ∃ r : Bool, e = .returned (.bool r) ∧ (r = true → ∃ T, PlAt D w' T ∧ Good D T ∧ spreadB D T = true) ∧ ((D.n : Int) ≤ D.sh.rows → r = true) ∧ Below B w w' := by
  have c6 := h.tk.bs.c6
  have c7 := h.tk.bs.c7
  have c4 := h.tk.bs.c4
  have c5 := h.tk.bs.c5
  have hns := h.tk.bs.nn
  have hfst := h.tk.bs.fst
  have hcc := h.tk.bs.cc
  have hrw := h.tk.bs.rw_
  rw [hcc.1] at c5
  obtain ⟨pb, Epb⟩ := exh D.pb
  obtain ⟨n, En⟩ := exh D.n
  obtain ⟨fs, Efs⟩ := exh D.first
  obtain ⟨ia, Eia⟩ := exh D.ia
  obtain ⟨cc, Ecc⟩ := exh D.cc
  obtain ⟨rows, Ers⟩ : ∃ r : Nat, Hid (D.sh.rows = r) := ⟨D.sh.rows.toNat, by show _ = _; omega⟩
  rw [← Epb.out, ← En.out, ← Eia.out] at c6
  rw [← Epb.out, ← Efs.out] at c7
  rw [← Epb.out, Ers.out] at c4
  rw [← Epb.out, ← Ecc.out] at c5
  rw [Ers.out] at hrw
  have PLT : Hid (∀ v : World, v.heap = w.heap → Calls Tryd.prog 40 #[.pointer (some ⟨pb, 0, none⟩)] v fun e w' => (∃ v, e = .returned v) ∧ (∃ T, PlAt D w' T ∧ Good D T) ∧ Below B v w') := fun v hv => by
    rw [Epb.out]
    exact putLate_any D v col ld tv ⟨⟨h.tk.bs.heap hv, fun h0 => by unfold Blk; rw [hv]; exact h.tk.it h0, by unfold Blk; rw [hv]; exact h.tk.ld⟩, h.cb, h.c0, h.ldb⟩ lev hL hO B hB
  have PE : Hid (∀ (v : World) (T : PnT), PlAt D v T → Good D T → Calls Tryd.prog 42 #[.pointer (some ⟨pb, 0, none⟩)] v fun e w' => (∃ v, e = .returned v) ∧ (∃ T, PlAt D w' T ∧ Good D T) ∧ Below B v w') := fun v T hv hg => by
    rw [Epb.out]
    exact putEarly_any D v T.col T.ld _ (PlRaw.of hv hg) lev hL hO B hB
  have SP : Hid (∀ (v : World) (T : PnT) (tf : Bool), PlAt D v T → Good D T → Calls Tryd.prog 41 #[.pointer (some ⟨pb, 0, none⟩), .bool tf] v fun e w' => ∃ r : Bool, e = .returned (.bool r) ∧ SpP D B v w' r) := fun v T tf hv hg => by
    rw [Epb.out]
    exact spread_any D T v hv hg hO tf B hB
  have hn2 : (rows : Int) * (cc : Int) = ((rows * cc : Nat) : Int) := by simp
  have hrc : rows * cc ≤ 50000 := by
    have h1 : cc ≤ 100 := by have := Ecc.out; omega
    have h2 : rows ≤ 500 := by omega
    exact Nat.le_trans (Nat.mul_le_mul h2 h1) (by decide)
  have hrc2 : rows ≤ rows * cc := Nat.le_mul_of_pos_right _ (by have := Ecc.out; omega)
  have e1 : IntKind.i64.wrap ((rows : Int) * (cc : Int)) = (rows : Int) * (cc : Int) := by rw [hn2]; exact wrapI _ (by omega) (by omega)
  rw [← En.out] at hns
  rw [← En.out, ← Efs.out] at hfst
  have e2 : IntKind.i64.wrap ((n : Int) - (fs : Int)) = (n : Int) - (fs : Int) := wrapI _ (by omega) (by omega)
  rw [← Epb.out, Ers.out, ← En.out]
  rw [hn2] at e1
  clear h hL hO hB hcc
  by_cases hbig : ((rows * cc : Nat) : Int) < (n : Int) - (fs : Int)
  · have HNO : Hid (¬ (n : Int) ≤ (rows : Int)) := by show ¬ _; omega
    rw [← hn2] at hbig
    rw [← hn2] at e1
    clear hrc hrc2 hn2
    go_enter Tryd.func20, Tryd.ntmps20
    go_wp2
    go_quiet (fail)
    go_wp2
    go_ret
    exact ⟨false, rfl, (fun h => by cases h), (fun h => by have := HNO.out; omega), Below.drewN (Below.refl _ _) _⟩
  · rw [← hn2] at hbig
    rw [← hn2] at e1
    clear hrc hrc2 hn2
    go_enter Tryd.func20, Tryd.ntmps20
    go_wp2
    go_quiet (fail)
    go_wp2_with fail
    go_at_call 40
    refine (PLT.out (w.drewN nq) rfl).mono ?_
    rintro e w1 ⟨⟨r1, rfl⟩, ⟨T1, hp1, hg1⟩, hb1⟩
    have HP1 := hidden hp1
    have HG1 := hidden hg1
    have HB1 : Hid (Below B w w1) := (Below.drewN (Below.refl B w) nq).trans hb1
    clear hp1 hg1 hb1 PLT c6 c7 c4 c5
    go_wp2_with fail
    go_at_call 41
    refine (SP.out w1 T1 true HP1.out HG1.out).mono ?_
    rintro e w2 ⟨r, rfl, hsp⟩
    have HSP := hidden hsp
    clear hsp
    cases r with
    | true =>
      go_wp2
      go_ret
      obtain ⟨⟨T2, h1, h2, h3⟩, -, h4⟩ := HSP.out
      exact ⟨true, rfl, fun _ => ⟨T2, h1, h2, h3 rfl⟩, fun _ => rfl, HB1.out.trans h4⟩
    | false =>
      obtain ⟨⟨T2, hp2, hg2, -⟩, -, hb2⟩ := HSP.out
      have HP2 := hidden hp2
      have HG2 := hidden hg2
      have HB2 := hidden (HB1.out.trans hb2)
      clear hp2 hg2 hb2 HSP
      go_wp2_with fail
      go_at_call 42
      refine (PE.out w2 T2 HP2.out HG2.out).mono ?_
      rintro e w3 ⟨⟨r3, rfl⟩, ⟨T3, hp3, hg3⟩, hb3⟩
      have HP3 := hidden hp3
      have HG3 := hidden hg3
      have HB3 := hidden (HB2.out.trans hb3)
      clear hp3 hg3 hb3
      go_wp2_with fail
      go_at_call 41
      refine (SP.out w3 T3 false HP3.out HG3.out).mono ?_
      rintro e w4 ⟨r, rfl, hsp⟩
      have HSP := hidden hsp
      clear hsp
      go_wp2
      go_ret
      obtain ⟨⟨T4, h1, h2, h3⟩, h5, h4⟩ := HSP.out
      refine ⟨r, rfl, fun hr => ⟨T4, h1, h2, h3 hr⟩, fun hr => h5 ?_, HB3.out.trans h4⟩
      rw [Ers.out, ← En.out]; exact hr


end Go.Proofs.YtibjgoigdajkkaaDoor
