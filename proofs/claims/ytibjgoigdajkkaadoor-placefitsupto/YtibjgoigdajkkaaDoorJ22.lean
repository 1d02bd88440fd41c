import Derived.Test.YtibjgoigdajkkaaDoorJ21
namespace Go.Proofs.YtibjgoigdajkkaaDoor
open Go.RowKit

/-- how many tables stand in a chain up to an item -/
structure PlLv (D : PnS) (lev : Nat → Nat) : Prop where
  up : ∀ j, j < D.n → ∀ x, x ∈ D.ins j → lev x + 1 ≤ lev j
  tab : ∀ i, D.first ≤ i → i < D.n → 1 ≤ lev i
  en : ∀ i, i < D.n → D.isEnd i = true → lev i ≤ D.cc
theorem PlLv.le {D : PnS} {lev : Nat → Nat} (h : PlLv D lev) (hO : PlOk D) (hni : ∀ j, j < D.n → ∀ x, x ∈ D.ins j → x < j) {i : Nat} (hi : D.first ≤ i) (hn : i < D.n) : lev i ≤ D.cc := by
  obtain ⟨m, hm⟩ : ∃ m, m = D.n - i := ⟨_, rfl⟩
  induction m using Nat.strongRecOn generalizing i with
  | _ m ih =>
    rcases hO.use i hi hn with he | ⟨j, hj, hx⟩
    · exact h.en i hn he
    · have h1 := hni j hj i hx
      have h2 := ih (D.n - j) (by omega) (by omega) hj rfl
      have := h.up j hj i hx
      omega
def onHi (D : PnS) (k j : Nat) : Bool := decide (k ≤ j ∧ j < D.n)
def onLo (D : PnS) (k j : Nat) : Bool := decide (D.first ≤ j ∧ j < k)
theorem onHi_true {D : PnS} {k j : Nat} : onHi D k j = true ↔ k ≤ j ∧ j < D.n := by unfold onHi; rw [decide_eq_true_iff]
theorem onLo_true {D : PnS} {k j : Nat} : onLo D k j = true ↔ D.first ≤ j ∧ j < k := by unfold onLo; rw [decide_eq_true_iff]
theorem upd_onHi {D : PnS} {k : Nat} (hk : k < D.n) : upd (onHi D (k + 1)) k true = onHi D k := by
  funext j
  unfold upd
  by_cases e : j = k
  · rw [if_pos e, e]; exact (onHi_true.2 ⟨Nat.le_refl _, hk⟩).symm
  · rw [if_neg e]; unfold onHi; congr 1; exact propext ⟨fun h => ⟨by omega, h.2⟩, fun h => ⟨by omega, h.2⟩⟩
theorem upd_onLo {D : PnS} {k : Nat} (hk : D.first ≤ k) : upd (onLo D k) k true = onLo D (k + 1) := by
  funext j
  unfold upd
  by_cases e : j = k
  · rw [if_pos e, e]; exact (onLo_true.2 ⟨hk, by omega⟩).symm
  · rw [if_neg e]; unfold onLo; congr 1; exact propext ⟨fun h => ⟨h.1, by omega⟩, fun h => ⟨h.1, by omega⟩⟩
/-- one step of putLate -/
theorem late_step {D : PnS} {T : PnT} {lev : Nat → Nat} (hL : PlLv D lev) (hO : PlOk D) (hc1 : 1 ≤ D.cc) (hni : ∀ j, j < D.n → ∀ x, x ∈ D.ins j → x < j) {i : Nat} (hi : D.first ≤ i) (hn : i < D.n) (h : Inv D T (onHi D (i + 1))) (hv : ∀ j, i + 1 ≤ j → j < D.n → (lev j : Int) - 1 ≤ T.col j) :
    (∃ d, 0 < d ∧ d ≤ D.cc ∧ T.tk i d ≠ 0) ∧ latN D T i < D.cc ∧ (lev i : Int) - 1 ≤ latN D T i ∧ Inv D (putT D T i (latN D T i)) (onHi D i) := by
  have hex : ∃ d, 0 < d ∧ d ≤ D.cc ∧ T.tk i d ≠ 0 := by
    rcases hO.use i hi hn with he | ⟨j, hj, hm⟩
    · refine ⟨D.cc, hc1, Nat.le_refl _, ?_⟩
      rw [h.tk i hn D.cc (Nat.le_refl _)]
      have : endK D i D.cc = 1 := by unfold endK; rw [if_pos ⟨rfl, he⟩]
      omega
    · have hji := hni j hj i hm
      have hon := h.on j (onHi_true.2 ⟨by omega, hj⟩)
      have h1 := hv j (by omega) hj
      have h2 := hL.up j hj i hm
      have h3 := hL.tab i hi hn
      refine ⟨(T.col j).toNat, by omega, by omega, ?_⟩
      rw [h.tk i hn _ (by omega)]
      have : 0 < cntT D T.col (onHi D (i + 1)) i (T.col j).toNat := cntT_pos.2 ⟨j, hj, onHi_true.2 ⟨by omega, hj⟩, hm, by omega⟩
      omega
  obtain ⟨s1, s2, s3, s4⟩ := latK_spec (T.tk i) 0 D.cc (by obtain ⟨d, h1, h2, h3⟩ := hex; exact ⟨d, h1, by omega, h3⟩)
  have e : latN D T i = latK (T.tk i) 0 D.cc := rfl
  rw [← e] at s1 s2 s3 s4
  generalize latN D T i = la at *
  have hlv : (lev i : Int) - 1 ≤ la := by
    have hp : 0 < T.tk i (la + 1) := by omega
    rw [h.tk i hn (la + 1) (by omega)] at hp
    by_cases e : 0 < cntT D T.col (onHi D (i + 1)) i (la + 1)
    · obtain ⟨j, hj, h1, h2, h3⟩ := cntT_pos.1 e
      have h4 := hv j (onHi_true.1 h1).1 hj
      have h5 := hL.up j hj i h2
      omega
    · have h1 := endK_pos (show 0 < endK D i (la + 1) by omega)
      have := hL.en i hn h1.2
      omega
  refine ⟨hex, by omega, hlv, ?_⟩
  have := h.put hi hn (by
    cases e : onHi D (i + 1) i with
    | false => rfl
    | true => have := onHi_true.1 e; omega) (c := la) (by omega) (fun x hx hox => by
      have hxi := hni i hn x hx
      rcases hox with hox | hox
      · have := onHi_true.1 hox; omega
      · rw [h.c0 x hox]; omega) (fun j hj hm => by
      have hjn := onHi_true.1 hj
      have h1 := hv j hjn.1 hjn.2
      have h2 := hL.up j hjn.2 i hm
      have h3 := hL.tab i hi hn
      have hon := h.on j hj
      by_cases hlt : (la : Int) < T.col j
      · exact hlt
      · have hz := s4 (T.col j).toNat (by omega) (by omega)
        rw [h.tk i hn _ (by omega)] at hz
        have : 0 < cntT D T.col (onHi D (i + 1)) i (T.col j).toNat := cntT_pos.2 ⟨j, hjn.2, hj, hm, by omega⟩
        omega) (fun hm => by have := hni i hn i hm; omega)
  rw [upd_onHi hn] at this
  exact this
/-- one step of putEarly -/
theorem early_step {D : PnS} {T : PnT} {lev : Nat → Nat} (hL : PlLv D lev) (hO : PlOk D) (hni : ∀ j, j < D.n → ∀ x, x ∈ D.ins j → x < j) {i : Nat} (hi : D.first ≤ i) (hn : i < D.n) (h : Inv D T (onLo D i)) (hv : ∀ j, D.first ≤ j → j < i → T.col j + 1 ≤ lev j) :
    ∃ f : Nat, earL T.col (D.ins i) = f ∧ f < D.cc ∧ (f : Int) + 1 ≤ lev i ∧ Inv D (putT D T i f) (onLo D (i + 1)) := by
  have hle := hL.le hO hni hi hn
  have h1i := hL.tab i hi hn
  obtain ⟨s1, s2, s3⟩ := earL_spec T.col (D.ins i) ((lev i : Int) - 1) (fun x hx => by
    have hxi := hni i hn x hx
    have hu := hL.up i hn x hx
    by_cases e : x < D.first
    · rw [h.c0 x e]; omega
    · have := hv x (by omega) hxi; omega) (by omega)
  refine ⟨(earL T.col (D.ins i)).toNat, by omega, by omega, by omega, ?_⟩
  have := h.put hi hn (by
    cases e : onLo D i i with
    | false => rfl
    | true => have := onLo_true.1 e; omega) (c := (earL T.col (D.ins i)).toNat) (by omega) (fun x hx _ => by have := s3 x hx; omega) (fun j hj hm => by
      have hjn := onLo_true.1 hj
      have := hni j (by omega) i hm
      omega) (fun hm => by have := hni i hn i hm; omega)
  rw [upd_onLo hi] at this
  exact this
theorem onHi_first (D : PnS) : onHi D D.first = allOn D := rfl
theorem onLo_n (D : PnS) : onLo D D.n = allOn D := rfl
/-- a plan before its tables stand: what settle may begin with -/
structure PlRaw (D : PnS) (w : World) (col ld : Nat → Int) (tv : Nat → Value) : Prop where
  tk : PlTk D w col ld tv
  cb : ∀ i, i < D.n → -1 ≤ col i ∧ col i < D.cc
  c0 : ∀ i, i < D.first → col i = -1
  ldb : ∀ c, -2097152 ≤ ld c ∧ ld c ≤ 2097152
theorem PlRaw.of {D : PnS} {w : World} {T : PnT} (h : PlAt D w T) (hG : Good D T) : PlRaw D w T.col T.ld (tbV D T.tb) := ⟨h.tkp, h.col, hG.iv.c0, h.ldb⟩
theorem PlTk.at {D : PnS} {w : World} {col ld : Nat → Int} {tb : Nat → Nat} (h : PlTk D w col ld (tbV D tb)) (ht : TkS D w D.n tb) (hc : ∀ i, i < D.n → -1 ≤ col i ∧ col i < D.cc) (hl : ∀ c, -2097152 ≤ ld c ∧ ld c ≤ 2097152) : PlAt D w ⟨col, tb, endK D, ld⟩ :=
  ⟨h.bs, h.it, h.ld, ht.tk, ht.dj, hc, fun i c _ => Nat.le_trans (endK_le D i c) (by omega), hl⟩
theorem inv_none (D : PnS) (col ld : Nat → Int) (tb : Nat → Nat) (On : Nat → Bool) (ho : ∀ j, On j = false) (c0 : ∀ i, i < D.first → col i = -1) : Inv D ⟨col, tb, endK D, ld⟩ On := by
  have hf : ∀ j, On j = true → False := fun j hj => by rw [ho j] at hj; cases hj
  refine ⟨fun j hj => (hf j hj).elim, c0, fun x _ c _ => ?_, fun j hj => (hf j hj).elim⟩
  have : cntT D col On x c = 0 := by
    by_cases e : 0 < cntT D col On x c
    · obtain ⟨j, _, h1, _⟩ := cntT_pos.1 e; exact (hf j h1).elim
    · omega
  show endK D x c = cntT D col On x c + endK D x c
  omega
set_option maxRecDepth 100000 in
set_option maxHeartbeats 8000000 in
theorem putLate_any (D : PnS) (w : World) (col ld : Nat → Int) (tv : Nat → Value) (h : PlRaw D w col ld tv) (lev : Nat → Nat) (hL : PlLv D lev) (hO : PlOk D) (B : Nat) (hB : B ≤ D.ib ∧ B ≤ D.lb ∧ B ≤ D.C) :
    Calls Tryd.prog 40 #[.pointer (some ⟨D.pb, 0, none⟩)] w fun e w' => (∃ v, e = .returned v) ∧ (∃ T, PlAt D w' T ∧ Good D T) ∧ Below B w w' := by
  have hns := h.tk.bs.nn
  have hfst := h.tk.bs.fst
  have hcc := h.tk.bs.cc
  have TA := hidden (takeAllOut_any D w col ld tv h.tk)
  obtain ⟨pb, Epb⟩ := exh D.pb
  obtain ⟨n, En⟩ := exh D.n
  obtain ⟨fs, Efs⟩ := exh D.first
  obtain ⟨ia, Eia⟩ := exh D.ia
  have HNI := hidden h.tk.bs.insn
  have HC : Hid (∀ (v : World) (T : PnT), PlAt D v T → v.cell? ⟨pb, 6, none⟩ = some (.slice ia n D.icap) ∧ v.cell? ⟨pb, 7, none⟩ = some (.int .i64 (fs : Int))) := fun v T hv => by
    rw [Epb.out, En.out, Efs.out, Eia.out]
    exact ⟨hv.bs.c6, hv.bs.c7⟩
  have HL := hidden hL
  have HO := hidden hO
  have HBB := hidden hB
  have HCC := hidden hcc
  have HRW := hidden h
  rw [← Epb.out] at TA
  rw [← Epb.out]
  rw [← En.out] at hns
  rw [← En.out, ← Efs.out] at hfst
  have hsz := h.tk.bs.sz
  clear h hL hO hB hcc
  go_enter Tryd.func40, Tryd.ntmps40
  go_wp2_with fail
  go_at_call 55
  refine TA.out.mono ?_
  rintro e w1 ⟨⟨r1, rfl⟩, ⟨tb, hp1, ht1, ho1⟩, hb1⟩
  have HP1 := hidden (hp1.at ht1 HRW.out.cb HRW.out.ldb)
  have HI1 : Hid (Inv D ⟨col, tb, endK D, ld⟩ (onHi D n)) := inv_none D col ld tb _ (fun j => by
    cases e : onHi D n j with
    | false => rfl
    | true => have := onHi_true.1 e; have := En.out; omega) HRW.out.c0
  have HB1 : Hid (Below B w w1) := hb1.below HBB.out.1 (Nat.le_trans HBB.out.2.2 hsz)
  have HTB : Hid (∀ i, i < D.n → B ≤ tb i) := fun i hi => by have := ho1 i hi; have := HBB.out.2.2; omega
  clear hp1 ht1 ho1 hb1 TA
  obtain ⟨c6, -⟩ := HC.out w1 _ HP1.out
  have e0 : IntKind.i64.wrap ((n : Int) - 1) = (n : Int) - 1 := wrapI _ (by omega) (by omega)
  go_wp2_with fail
  clear c6
  go_loopw [2] (fun i' w' => ∃ (k : Nat) (T : PnT), fs ≤ k ∧ k ≤ n ∧ i' = .int .i64 ((k : Int) - 1) ∧ Hid (T.tb = tb) ∧ Hid (PlAt D w' T) ∧ Hid (Inv D T (onHi D k)) ∧ Hid (∀ j, k ≤ j → j < D.n → (lev j : Int) - 1 ≤ T.col j) ∧ Hid (Below B w w')) (fun i' _ => (intOf i' + 1).toNat)
  case atStart => exact ⟨n, ⟨col, tb, endK D, ld⟩, hfst, Nat.le_refl _, rfl, rfl, HP1.out, HI1.out, fun j h1 h2 => by have := En.out; omega, HB1.out⟩
  case round =>
    clear HP1 HI1 HB1
    obtain ⟨k, T, hk1, hk2, rfl, HT, HP, HI, HV, HB⟩ := hrel
    obtain ⟨c6, c7⟩ := HC.out wr _ HP.out
    by_cases hlt : fs < k
    · obtain ⟨i, rfl⟩ : ∃ i, k = i + 1 := ⟨k - 1, by omega⟩
      have e1 : ((i + 1 : Nat) : Int) - 1 = (i : Int) := by omega
      rw [e1]
      have hge : (fs : Int) ≤ (i : Int) := by omega
      have hi : D.first ≤ i := by rw [← Efs.out]; omega
      have hn : i < D.n := by rw [← En.out]; omega
      obtain ⟨s1, s2, s3, s4⟩ := late_step HL.out HO.out HCC.out.2.1 HNI.out hi hn HI.out HV.out
      have LA := latest_any D T wr HP.out i hn s1
      have PU := put_any D T wr HP.out i hn (latN D T i) s2 (fun x hx => by
        have hxn := HNI.out i hn x hx
        rw [HI.out.tk x (by omega) _ (by omega)]
        have h1 := cntT_le D T.col (onHi D (i + 1)) x (latN D T i)
        have h2 : endK D x (latN D T i) = 0 := by unfold endK; rw [if_neg (by omega)]
        have := En.out
        omega)
      rw [← Epb.out] at LA PU
      have HV2 : Hid (∀ j, i ≤ j → j < D.n → (lev j : Int) - 1 ≤ (putT D T i (latN D T i)).col j) := fun j h1 h2 => by
        show _ ≤ upd T.col i (latN D T i : Int) j
        by_cases e : j = i
        · rw [e, upd_same]; exact s3
        · rw [upd_ne e]; exact HV.out j (by omega) h2
      have HI2 := hidden s4
      generalize latN D T i = la at *
      replace LA := hidden LA
      replace PU := hidden PU
      have e2 : IntKind.i64.wrap ((i : Int) - 1) = (i : Int) - 1 := wrapI _ (by omega) (by omega)
      clear s1 s2 s3 s4 HI HV HP e1
      go_wp2_with fail
      go_at_call 57
      refine LA.out.mono ?_
      rintro e v ⟨rfl, hv⟩
      rw [hv]
      clear hv v
      go_wp2_with fail
      go_at_call 56
      refine PU.out.mono ?_
      rintro e w2 ⟨⟨r2, rfl⟩, hp2, hf2⟩
      have HP2 := hidden hp2
      have HB2 : Hid (Below B w w2) := HB.out.trans (hf2.below (Nat.le_trans HBB.out.2.2 (Nat.le_trans hsz HB.out.size)) HBB.out.1 HBB.out.2.1 (by rw [HT.out]; exact HTB.out))
      clear hp2 hf2 HB LA PU
      go_wp2
      go_roundw
      case measure => simp [intOf]
      case rel => exact ⟨i, putT D T i la, by omega, by omega, rfl, HT.out, HP2.out, HI2.out, HV2.out, HB2.out⟩
    · obtain rfl : k = fs := by omega
      have hnge : ¬ (k : Int) ≤ (k : Int) - 1 := by omega
      have CL := countLoads_any D T wr HP.out
      rw [← Epb.out] at CL
      replace CL := hidden CL
      go_wp2_with fail
      go_at_call 58
      refine CL.out.mono ?_
      rintro e w2 ⟨⟨r2, rfl⟩, hp2, hb2⟩
      have HP2 := hidden hp2
      have HG2 : Hid (Good D { T with ld := ldN D T D.n }) := by
        have := HI.out
        rw [Efs.out, onHi_first] at this
        exact ⟨⟨this.on, this.c0, this.tk, this.od⟩, rfl⟩
      have HB2 : Hid (Below B w w2) := HB.out.trans (hb2.below HBB.out.2.1 (Nat.le_trans HBB.out.2.2 (Nat.le_trans hsz HB.out.size)))
      clear hp2 hb2
      go_wp2
      go_end0
      exact ⟨⟨_, rfl⟩, ⟨_, HP2.out, HG2.out⟩, HB2.out⟩


end Go.Proofs.YtibjgoigdajkkaaDoor
