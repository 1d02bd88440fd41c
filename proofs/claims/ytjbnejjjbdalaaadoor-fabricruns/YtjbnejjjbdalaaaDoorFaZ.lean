import Derived.Test.YtjbnejjjbdalaaaDoorFaY
import Derived.Lib.MinMax
namespace Go.Proofs.YtjbnejjjbdalaaaDoor
open Go.RowKit

theorem inC_length (n : Nat) (row : List Bool) : (inC n row).length = n := by unfold inC; simp
theorem inC_split (n : Nat) (row : List Bool) : inC n row = row.take n ++ List.replicate (n - row.length) false := by
  apply List.ext_getElem?
  intro i
  unfold inC
  rw [List.getElem?_append, List.getElem?_map]
  rcases Nat.lt_or_ge i n with h | h
  · rcases Nat.lt_or_ge i row.length with h2 | h2
    · rw [if_pos (by simp; omega)]
      simp [h, h2]
    · rw [if_neg (by simp; omega), List.getElem?_replicate, if_pos (by simp; omega)]
      simp [h, List.getElem?_eq_none h2]
  · rw [if_neg (by simp; omega), List.getElem?_replicate, if_neg (by simp; omega)]
    simp [h]
def LB (g0 g1 i : Nat) : Nat := if i % 2 = 0 then g0 else g1
def GL (sb g0 g1 : Nat) : Nat → Nat
  | 0 => sb
  | i + 1 => LB g0 g1 i
theorem LB_cases (g0 g1 i : Nat) : (i % 2 = 0 ∧ LB g0 g1 i = g0) ∨ (i % 2 = 1 ∧ LB g0 g1 i = g1) := by unfold LB; split <;> omega
theorem GL_ne {sb g0 g1 : Nat} (h3 : g0 ≠ sb) (h5 : g0 ≠ g1) (i : Nat) : GL sb g0 g1 i ≠ LB g0 g1 i := by
  cases i with
  | zero => exact fun e => h3 e.symm
  | succ i => rcases LB_cases g0 g1 i with ⟨a, b⟩ | ⟨a, b⟩ <;> rcases LB_cases g0 g1 (i + 1) with ⟨c, d⟩ | ⟨c, d⟩ <;> (show LB g0 g1 i ≠ _) <;> rw [b, d] <;> omega
def machA (gb sb g0 g1 : Nat) (ns n0 n1 : Nat) (last : Value) : Array Value := #[.pointer (some ⟨gb, 0, none⟩), .slice (some ⟨sb, 0, none⟩) ns ns, .slice (some ⟨g0, 0, none⟩) n0 n0, .slice (some ⟨g1, 0, none⟩) n1 n1, last]

/-- what the columns have come to -/
structure OutP (w w' : World) (mk gb sb g0 g1 ns nl : Nat) (V0 R : List Bool) (k : Nat) (a0 a1 : List Bool) : Prop where
  m : Blk w' mk 84 (machA gb sb g0 g1 ns nl nl (.slice (some ⟨GL sb g0 g1 k, 0, none⟩) R.length R.length))
  r : BRow w' (GL sb g0 g1 k) R
  s : BRow w' sb V0
  b0 : BRow w' g0 a0
  b1 : BRow w' g1 a1
  z0 : a0.length = nl
  z1 : a1.length = nl
  t0 : a0.take 2 = [false, true]
  t1 : a1.take 2 = [false, true]
  kp : Kp [mk, sb, g0, g1] w w'
theorem BRow.but {w w' : World} {g b : Nat} {vs : List Bool} (h : BRow w b vs) (hb : But g w w') (hne : b ≠ g) : BRow w' b vs := ⟨Nat.lt_of_lt_of_le h.1 hb.size, (hb.block b h.1 hne).trans h.2⟩
theorem Kp.cell {gs : List Nat} {w w' : World} (h : Kp gs w w') {p : Addr} {v : Value} (hv : w.cell? p = some v) (hp : p.block < w.heap.size) (hne : p.block ∉ gs) : w'.cell? p = some v := by
  rw [← hv]; unfold World.cell?; rw [h.block p.block hp hne]

set_option maxRecDepth 100000 in
set_option maxHeartbeats 8000000 in
theorem workOutC_any (B : Nat) (w : World) (mk gb sb g0 g1 ni nr nl : Nat) (S : CnS) (N : CnD) (st xs l0 l1 : List Bool) (last : Value) (hm : Blk w mk 84 (machA gb sb g0 g1 (2 + ni + nr) nl nl last)) (hx : BoxAt w gb S N) (hs : BRow w sb ([false, true] ++ (xs ++ st))) (hr0 : BRow w g0 l0) (hr1 : BRow w g1 l1)
    (hni : N.sh.ins = (ni : Int)) (hxl : xs.length = ni) (hsl : st.length = nr) (hn0 : ni ≤ 1000) (hn1 : nr ≤ 1000) (h1 : mk ≠ sb) (h2 : gb ≠ sb) (h3 : g0 ≠ sb) (h4 : g1 ≠ sb) (h5 : g0 ≠ g1) (h6 : mk ≠ g0) (h7 : mk ≠ g1) (h8 : gb ≠ g0) (h9 : gb ≠ g1) (h10 : gb ≠ mk) (hB : B ≤ sb ∧ B ≤ g0 ∧ B ≤ g1 ∧ B ≤ mk)
    (hl0 : l0.length = nl) (hl1 : l1.length = nl) (ht0 : l0.take 2 = [false, true]) (ht1 : l1.take 2 = [false, true]) (hBw : B ≤ w.heap.size) (HCN : Hid (CnAt B w S N)) (hcl : ∀ d, d ∈ N.cols → 2 + d.cs.length = nl) (hnl : nl ≤ 100000)
    (hok : ∀ (k : Nat) (d : ClD), N.cols[k]? = some d → ∀ e, e ∈ d.cs → (0 ≤ e.s0 ∧ 0 ≤ e.s1 ∧ 0 ≤ e.s2 ∧ 0 ≤ e.s3) ∧ (e.s0 < (if k = 0 then 2 + ni + nr else nl : Nat) ∧ e.s1 < (if k = 0 then 2 + ni + nr else nl : Nat) ∧ e.s2 < (if k = 0 then 2 + ni + nr else nl : Nat) ∧ e.s3 < (if k = 0 then 2 + ni + nr else nl : Nat)))
    (row : List Bool) (ai : Option Addr) (ci : Nat) (HROW : Hid (RowAt B w ai 1 (row.map boolC))) (hrl : row.length < 281474976710656) :
    Calls Tryd.prog 18 #[.pointer (some ⟨mk, 0, none⟩), .slice ai row.length ci] w fun e w' => (∃ v, e = .returned v) ∧ ∃ a0 a1, OutP w w' mk gb sb g0 g1 (2 + ni + nr) nl ([false, true] ++ (inC ni row ++ st)) (colsC ([false, true] ++ (inC ni row ++ st)) N.cols) N.cols.length a0 a1 := by
  obtain ⟨ib, hib, hzb, hsb, hbb⟩ := info_u8
  have HI := hidden hib
  have HZ := hidden hzb
  clear hib hzb hsb hbb
  have IN := hidden (inputsC_any w mk gb sb ni nr (hm.cell rfl) (hm.cell rfl) (by rw [← hni]; exact hx.c0) hn0 hn1)
  have HM := hidden hm
  have HBX := hidden hx
  have HBS := hidden hs
  have HB0 := hidden hr0
  have HB1 := hidden hr1
  obtain ⟨rl, HRL⟩ : ∃ r, Hid (r = row.length) := ⟨_, rfl⟩
  rw [← HRL.out] at hrl
  rw [← HRL.out]
  have HFIT : Hid (2 + ni ≤ (([false, true] ++ (xs ++ st)).map b8).length) := by show _ ≤ _; simp; omega
  clear hm hx hs hr0 hr1
  have tok : True := trivial
  go_enter Tryd.func18, Tryd.ntmps18
  go_wp2_with fail
  go_at_call 34
  refine IN.out.mono ?_
  rintro e w0 ⟨⟨dp, dc, rfl, hdp⟩, q, hw0⟩
  have HK0 : Hid (But sb w w0) := by rw [hw0]; exact (But.refl _ _).drewN _
  have HS0 : Hid (w0.heap[sb]? = some (.cells (([false, true] ++ (xs ++ st)).map b8).toArray 5 (0, 0))) := by rw [hw0]; exact HBS.out.2
  have HDP := hidden hdp
  clear hw0 IN hdp
  go_upto_region 2 with (have _t := tok; (refine wpList_clear_grown rfl (.tmp 12) 22 rfl 5 ib _ Tryd.underlying22 HI.out HZ.out rfl rfl _ ni _ rfl sb 2 (([false, true] ++ (xs ++ st)).map b8) 5 HS0.out HDP.out HFIT.out ?_; intro w1 hr1 hg1; have HR1 := hidden hr1.out; have HK1 := hidden (HK0.out.trans (grown_but hg1)); clear tok hr1 hg1))
  have HS1 : Hid (Blk w1 sb 5 (([false, true] ++ (List.replicate ni false ++ st)).map b8).toArray) := by
    have h := HR1.out
    rw [rep_b8, splice_b8] at h
    have e : splice ([false, true] ++ (xs ++ st)) 2 (List.replicate ni false) = [false, true] ++ (List.replicate ni false ++ st) := by
      unfold splice
      rw [List.length_replicate, ← hxl]
      have : ([false, true] ++ (xs ++ st)).drop (2 + xs.length) = st := by
        rw [show 2 + xs.length = xs.length + 2 by omega]
        show (xs ++ st).drop xs.length = st
        simp
      rw [this]
      simp
    rw [e] at h
    exact h
  clear HR1 HS0 HK0
  obtain ⟨m, hmE⟩ : ∃ m : Nat, (min (rl : Int) (ni : Int)) = (m : Int) := ⟨min rl ni, by omega⟩
  have hm1 : m ≤ rl := by omega
  have hm2 : m ≤ ni := by omega
  have HMM : Hid (m = min rl ni) := by show _ = _; omega
  go_wp2_with fail
  try rw [hmE]
  clear hmE
  go_loopw [18] (fun i' w' => ∃ (k : Nat), k ≤ m ∧ i' = .int .i64 k ∧ Hid (Blk w' sb 5 (([false, true] ++ (row.take k ++ (List.replicate ni false ++ st).drop k)).map b8).toArray) ∧ Hid (But sb w w')) (fun i' _ => m - (intOf i').toNat)
  case atStart => exact ⟨0, Nat.zero_le _, rfl, by show Blk _ _ _ _; simpa using HS1.out, HK1.out⟩
  case round =>
    obtain ⟨k, hk, rfl, HO, HG⟩ := hrel
    by_cases hlt : k < m
    · obtain ⟨x, hx⟩ := getElem_lt (show k < row.length by rw [← HRL.out]; omega)
      obtain ⟨rb, ro, ea, hrb, hoc⟩ := HROW.out.el hx
      have co : wr.cell? ⟨rb, ro + k, none⟩ = some (.bool x) := HG.out.cell (by have := hoc 0 _ rfl; simpa using this) (by show rb ≠ sb; omega)
      have hdp := HDP.out (by omega)
      have hltI : (k : Int) < (m : Int) := by omega
      have hlt2 : (k : Int) < (rl : Int) := by omega
      have hlt3 : (k : Int) < (ni : Int) := by omega
      have e3 : IntKind.i64.wrap ((k : Int) + 1) = (k : Int) + 1 := wrapI _ (by omega) (by omega)
      have VO := hidden (valueOf_any wr x)
      unfold b8 at VO
      have hfz := HO.out.frozen (2 + k)
      have hold : ∃ old, wr.cell? ⟨sb, 2 + k, none⟩ = some old := by
        have hL : 2 + k < (([false, true] ++ (row.take k ++ (List.replicate ni false ++ st).drop k)).map b8).length := by
          have h1 := HRL.out
          simp
          omega
        exact ⟨_, HO.out.cell (by rw [List.getElem?_toArray]; exact List.getElem?_eq_getElem hL)⟩
      obtain ⟨old, hold⟩ := hold
      have HNX : Hid (Blk (wr.setCell ⟨sb, 2 + k, none⟩ (b8 x)) sb 5 (([false, true] ++ (row.take (k + 1) ++ (List.replicate ni false ++ st).drop (k + 1))).map b8).toArray) := by
        have h := HO.out.set (2 + k) (b8 x)
        rw [set_nextC _ _ _ k 2 x rfl (by rw [List.length_take, ← HRL.out]; omega) (by simp; omega)] at h
        rw [take_next _ k _ hx]
        exact h
      have HBN : Hid (But sb w (wr.setCell ⟨sb, 2 + k, none⟩ (b8 x))) := HG.out.trans (But.set _ _ _ _)
      subst ea
      subst hdp
      clear hoc hx HO
      go_wp2_with fail
      go_at_call 32
      refine VO.out.mono ?_
      rintro e v ⟨rfl, rfl⟩
      go_wp2
      go_roundw
      case measure => simp [intOf]; omega
      case rel => exact ⟨k + 1, by omega, by simp, HNX.out, HBN.out⟩
    · have hge : ¬ ((k : Int) < (m : Int)) := by omega
      have hkm : k = m := by omega
      subst hkm
      have HO6 : Hid (Blk wr sb 5 (([false, true] ++ (inC ni row ++ st)).map b8).toArray) := by
        have h := HO.out
        have e : row.take k ++ (List.replicate ni false ++ st).drop k = inC ni row ++ st := by
          rw [inC_split, List.append_assoc, List.drop_append_of_le_length (by simp; omega), List.drop_replicate, ← List.append_assoc, ← List.append_assoc]
          have h1 := HMM.out
          have h2 := HRL.out
          congr 1
          rcases Nat.lt_or_ge row.length ni with hh | hh
          · rw [List.take_of_length_le (by omega), List.take_of_length_le (by omega)]
            congr 2; omega
          · rw [show k = ni by omega, show ni - row.length = ni - ni by omega]
        rw [e] at h
        exact h
      clear HO
      have m0R : wr.cell? ⟨mk, 0, none⟩ = some (.pointer (some ⟨gb, 0, none⟩)) := (HG.out.blk HM.out h1).cell (i := 0) rfl
      have m1R : wr.cell? ⟨mk, 1, none⟩ = some (.slice (some ⟨sb, 0, none⟩) (2 + ni + nr) (2 + ni + nr)) := (HG.out.blk HM.out h1).cell (i := 1) rfl
      have m4R : wr.cell? ⟨mk, 4, none⟩ = some last := (HG.out.blk HM.out h1).cell (i := 4) rfl
      have f4R := (HG.out.blk HM.out h1).frozen 4
      go_upto_region 8 with fail
      obtain ⟨V0, HV0⟩ : ∃ v, Hid ([false, true] ++ (inC ni row ++ st) = v) := ⟨_, rfl⟩
      rw [HV0.out] at HO6
      have HGOAL : Hid (∀ w', (∃ a0 a1, OutP w w' mk gb sb g0 g1 (2 + ni + nr) nl V0 (colsC V0 N.cols) N.cols.length a0 a1) → ∃ a0 a1, OutP w w' mk gb sb g0 g1 (2 + ni + nr) nl ([false, true] ++ (inC ni row ++ st)) (colsC ([false, true] ++ (inC ni row ++ st)) N.cols) N.cols.length a0 a1) := by intro w' hh; rw [HV0.out]; exact hh
      have HVL : Hid (V0.length = 2 + ni + nr) := by show _ = _; rw [← HV0.out]; simp [inC_length]; omega
      generalize hX : World.setCell wr _ _ = X
      have HXM : Hid (But mk wr X) := by rw [← hX]; exact But.set _ _ _ _
      have HP0 : Hid (OutP w X mk gb sb g0 g1 (2 + ni + nr) nl V0 (colsC V0 (N.cols.take 0)) 0 l0 l1) := by
        refine ⟨?_, ?_, ?_, (HB0.out.but HG.out h3).but HXM.out (Ne.symm h6), (HB1.out.but HG.out h4).but HXM.out (Ne.symm h7), hl0, hl1, ht0, ht1, (HG.out.kp (by simp)).trans (HXM.out.kp (by simp))⟩
        · have h := (HG.out.blk HM.out h1).set 4 (.slice (some ⟨sb, 0, none⟩) (2 + ni + nr) (2 + ni + nr))
          rw [hX] at h
          show Blk X mk _ (machA gb sb g0 g1 (2 + ni + nr) nl nl (.slice (some ⟨sb, 0, none⟩) V0.length V0.length))
          rw [HVL.out]
          exact h
        · exact (BRow.but ⟨HO6.out.lt, HO6.out⟩ HXM.out (Ne.symm h1))
        · exact (BRow.but ⟨HO6.out.lt, HO6.out⟩ HXM.out (Ne.symm h1))
      have m0X : X.cell? ⟨mk, 0, none⟩ = some (.pointer (some ⟨gb, 0, none⟩)) := HP0.out.m.cell (i := 0) rfl
      have q5X : X.cell? ⟨gb, 5, none⟩ = some (.slice S.a1 N.cols.length S.c1) := HP0.out.kp.cell HBX.out.c5 HBX.out.lt (by simp; exact ⟨h10, h2, h8, h9⟩)
      have HOK := hidden hok
      have HCL := hidden hcl
      have hKM : ∀ d, d ∈ [mk, sb, g0, g1] → B ≤ d := by intro d hd; simp at hd; omega
      have HKM := hidden hKM
      obtain ⟨nc, HNC⟩ : ∃ n, Hid (n = N.cols.length) := ⟨_, rfl⟩
      rw [← HNC.out] at q5X
      clear hX HXM HO6 m0R m1R m4R f4R hok hcl hl0 hl1 ht0 ht1 HG HDP HK1 HS1 hKM
      go_wp2_with fail
      go_loopw [45] (fun i' w' => ∃ (i : Nat) (a0 a1 : List Bool), i ≤ nc ∧ i' = .int .i64 i ∧ Hid (OutP w w' mk gb sb g0 g1 (2 + ni + nr) nl V0 (colsC V0 (N.cols.take i)) i a0 a1)) (fun i' _ => nc - (intOf i').toNat)
      case atStart => exact ⟨0, l0, l1, Nat.zero_le _, rfl, HP0.out⟩
      case round =>
        obtain ⟨i, a0, a1, hi, rfl, HP⟩ := hrel
        by_cases hlc : i < nc
        · have hlcI : (i : Int) < (nc : Int) := by omega
          obtain ⟨d, hd⟩ := getElem_lt (show i < N.cols.length by rw [← HNC.out]; exact hlc)
          obtain ⟨db, do', ea, hdb, hdc⟩ := HCN.out.c.el hd
          have HDI := hidden hd
          have hdm := List.mem_of_getElem? hd
          have cd : wr.cell? ⟨db, do' + i, none⟩ = some (.slice d.a d.cs.length d.c) := by
            have := HP.out.kp.cell (hdc 0 _ rfl) (show db < w.heap.size by omega) (fun hm => by have := HKM.out _ hm; dsimp only at this; omega)
            simpa using this
          obtain ⟨p, hp2, hpm, lb, al, hlb, HLB, hml, HAL, hall, halt⟩ : ∃ p : Nat, p < 2 ∧ (i : Int).tmod 2 = (p : Int) ∧ ∃ (lb : Nat) (al : List Bool), (lb = g0 ∨ lb = g1) ∧ Hid (LB g0 g1 i = lb) ∧ wr.cell? ⟨mk, 2 + p, none⟩ = some (.slice (some ⟨lb, 0, none⟩) nl nl) ∧ Hid (BRow wr lb al) ∧ al.length = nl ∧ al.take 2 = [false, true] := by
            rcases LB_cases g0 g1 i with ⟨hc1, hc2⟩ | ⟨hc1, hc2⟩
            · exact ⟨0, by omega, by rw [Int.tmod_eq_emod_of_nonneg (by omega)]; omega, g0, a0, Or.inl rfl, hc2, HP.out.m.cell (i := 2) rfl, HP.out.b0, HP.out.z0, HP.out.t0⟩
            · exact ⟨1, by omega, by rw [Int.tmod_eq_emod_of_nonneg (by omega)]; omega, g1, a1, Or.inr rfl, hc2, HP.out.m.cell (i := 3) rfl, HP.out.b1, HP.out.z1, HP.out.t1⟩
          have hp2I : (p : Int) < 2 := by omega
          have e3 : IntKind.i64.wrap ((i : Int) + 1) = (i : Int) + 1 := wrapI _ (by have := HCN.out.lc; omega) (by have := HCN.out.lc; simp only [big] at this; have := HNC.out; omega)
          have m4X : wr.cell? ⟨mk, 4, none⟩ = some (.slice (some ⟨GL sb g0 g1 i, 0, none⟩) (colsC V0 (N.cols.take i)).length (colsC V0 (N.cols.take i)).length) := HP.out.m.cell (i := 4) rfl
          rw [ea]
          clear hdc hdb ea hd
          go_upto_region 12 with fail
          obtain ⟨vs, HVS⟩ : ∃ v, Hid (colsC V0 (N.cols.take i) = v) := ⟨_, rfl⟩
          obtain ⟨gl, HGL⟩ : ∃ v, Hid (GL sb g0 g1 i = v) := ⟨_, rfl⟩
          have HP1 := HP
          rw [HVS.out] at m4X HP1
          rw [HGL.out] at m4X
          have HGR : Hid (BRow wr gl vs) := by rw [← HGL.out]; exact HP1.out.r
          have hgll : gl ≠ lb := by rw [← HGL.out, ← HLB.out]; exact GL_ne h3 h5 i
          have hmlb : mk ≠ lb := by rcases hlb with e | e <;> rw [e] <;> assumption
          have hBlb : B ≤ lb := by rcases hlb with e | e <;> rw [e] <;> omega
          obtain ⟨nw, HNW⟩ : ∃ n, Hid (n = d.cs.length) := ⟨_, rfl⟩
          rw [← HNW.out]
          have hnw : 2 + nw = nl := by rw [HNW.out]; exact HCL.out d hdm
          obtain ⟨nvs, HNVS⟩ : ∃ n, Hid (n = vs.length) := ⟨_, rfl⟩
          rw [← HNVS.out] at m4X
          have HCS : Hid (RowAt B wr d.a 5 (d.cs.map CeD.cells)) := (HCN.out.cc d hdm).to (HP1.out.kp.below (fun g hg => HKM.out g hg) hBw)
          obtain ⟨Y, rfl⟩ : ∃ Y, Y = wr := ⟨_, rfl⟩
          have HY0 : Hid (Blk Y lb 5 (([false, true] ++ ((d.cs.take 0).map (fun e => cellV e vs) ++ (al.drop 2).drop 0)).map b8).toArray) := by
            have h := HAL.out.2
            show Blk _ _ _ _
            have e : [false, true] ++ ((d.cs.take 0).map (fun e => cellV e vs) ++ (al.drop 2).drop 0) = al := by
              rw [← halt]; simp
            rw [e]
            exact h
          have hel : ∀ e, e ∈ d.cs → (0 ≤ e.s0 ∧ 0 ≤ e.s1 ∧ 0 ≤ e.s2 ∧ 0 ≤ e.s3) ∧ (e.s0 < (nvs : Int) ∧ e.s1 < (nvs : Int) ∧ e.s2 < (nvs : Int) ∧ e.s3 < (nvs : Int)) := by
            intro e he
            have hb := HOK.out i d HDI.out e he
            have hE : (if i = 0 then 2 + ni + nr else nl : Nat) = nvs := by
              rw [HNVS.out, ← HVS.out]
              cases i with
              | zero => exact HVL.out.symm
              | succ i' =>
                obtain ⟨d', hd'⟩ := getElem_lt (show i' < N.cols.length by rw [← HNC.out]; omega)
                rw [take_next _ i' _ hd']
                unfold colsC
                rw [List.foldl_append]
                have := HCL.out d' (List.mem_of_getElem? hd')
                simp [colV]
                omega
            rw [hE] at hb
            exact hb
          have HEL := hidden hel
          clear hel
          go_wp2_with fail
          go_loopw [59] (fun i' w' => ∃ (j : Nat), j ≤ nw ∧ i' = .int .i64 j ∧ Hid (Blk w' lb 5 (([false, true] ++ ((d.cs.take j).map (fun e => cellV e vs) ++ (al.drop 2).drop j)).map b8).toArray) ∧ Hid (But lb Y w')) (fun i' _ => nw - (intOf i').toNat)
          case atStart => exact ⟨0, Nat.zero_le _, rfl, HY0.out, But.refl _ _⟩
          case round =>
            obtain ⟨j, hj, rfl, HO, HG⟩ := hrel
            by_cases hlj : j < nw
            · have hljI : (j : Int) < (nw : Int) := by omega
              obtain ⟨e, he⟩ := getElem_lt (show j < d.cs.length by rw [← HNW.out]; exact hlj)
              obtain ⟨cb, co, ec, hcb, hcc⟩ := HCS.out.el he
              obtain ⟨⟨p0, p1, p2, p3⟩, p4, p5, p6, p7⟩ := HEL.out e (List.mem_of_getElem? he)
              obtain ⟨s0, s1, s2, s3, bt⟩ := e
              dsimp only at p0 p1 p2 p3 p4 p5 p6 p7
              obtain ⟨n0, rfl⟩ : ∃ n : Nat, s0 = (n : Int) := ⟨s0.toNat, by omega⟩
              obtain ⟨n1, rfl⟩ : ∃ n : Nat, s1 = (n : Int) := ⟨s1.toNat, by omega⟩
              obtain ⟨n2, rfl⟩ : ∃ n : Nat, s2 = (n : Int) := ⟨s2.toNat, by omega⟩
              obtain ⟨n3, rfl⟩ : ∃ n : Nat, s3 = (n : Int) := ⟨s3.toNat, by omega⟩
              have hcl : cb ≠ lb := by omega
              obtain ⟨x, HXV⟩ : ∃ x, Hid (cellV ⟨n0, n1, n2, n3, bt⟩ vs = x) := ⟨_, rfl⟩
              have TD : Hid (∀ w', But lb Y w' → Calls Tryd.prog 35 #[.pointer (some ⟨cb, co + j * 5, none⟩), .slice (some ⟨gl, 0, none⟩) nvs nvs] w' fun e w'' => e = .returned (b8 x) ∧ ∃ n, w'' = w'.drewN n) := by
                intro w' hw'
                rw [← HXV.out]
                refine told_any w' cb (co + j * 5) gl 0 nvs nvs vs n0 n1 n2 n3 bt HNVS.out.symm (hw'.cell (hcc 0 _ rfl) hcl) (hw'.cell (hcc 1 _ rfl) hcl) (hw'.cell (hcc 2 _ rfl) hcl) (hw'.cell (hcc 3 _ rfl) hcl) (hw'.cell (hcc 4 _ rfl) hcl) (fun i x hx => ?_) (by omega) (by omega) (by omega) (by omega)
                rw [Nat.zero_add]
                exact hw'.cell (HGR.out.cell hx) hgll
              unfold b8 at TD
              obtain ⟨t, ht⟩ : ∃ t, t = 2 + j := ⟨_, rfl⟩
              have e5 : IntKind.i64.wrap (2 + (j : Int)) = (t : Int) := by rw [wrapI _ (by omega) (by omega)]; omega
              have e6 : (2 + (j : Int)) = (t : Int) := by omega
              have htl : (t : Int) < (nl : Int) := by omega
              have e8 : IntKind.i64.wrap (t : Int) = (t : Int) := wrapI _ (by omega) (by omega)
              have m4R := HG.out.cell m4X hmlb
              have e7 : IntKind.i64.wrap ((j : Int) + 1) = (j : Int) + 1 := wrapI _ (by omega) (by omega)
              have HNX : Hid (∀ v, But lb Y v → Blk v lb 5 (([false, true] ++ ((d.cs.take j).map (fun e => cellV e vs) ++ (al.drop 2).drop j)).map b8).toArray → (∃ old, v.cell? ⟨lb, t, none⟩ = some old) ∧ v.frozen? ⟨lb, t, none⟩ = false ∧ Blk (v.setCell ⟨lb, t, none⟩ (b8 x)) lb 5 (([false, true] ++ ((d.cs.take (j + 1)).map (fun e => cellV e vs) ++ (al.drop 2).drop (j + 1))).map b8).toArray ∧ But lb Y (v.setCell ⟨lb, t, none⟩ (b8 x))) := by
                intro v hv hb
                have hL : t < (([false, true] ++ ((d.cs.take j).map (fun e => cellV e vs) ++ (al.drop 2).drop j)).map b8).length := by
                  have h1 := HNW.out
                  simp
                  omega
                refine ⟨⟨_, hb.cell (by rw [List.getElem?_toArray]; exact List.getElem?_eq_getElem hL)⟩, hb.frozen t, ?_, hv.trans (But.set _ _ _ _)⟩
                have h := hb.set t (b8 x)
                rw [ht, set_nextC _ _ _ j 2 x rfl (by rw [List.length_map, List.length_take, ← HNW.out]; omega) (by rw [List.length_drop]; omega)] at h
                rw [take_next _ j _ he]
                have e10 : (d.cs.take j ++ [(⟨n0, n1, n2, n3, bt⟩ : CeD)]).map (fun e => cellV e vs) = (d.cs.take j).map (fun e => cellV e vs) ++ [x] := by rw [List.map_append]; simp [HXV.out]
                rw [e10, ht]
                exact h
              rw [ec]
              clear hcc hcb ec he ht
              have HGD : Hid (But lb Y wr.drew) := HG.out.drewN 1
              have KP : Hid (∀ w', But lb Y w' → (fun w' => w'.cell? ⟨mk, 4, none⟩ = some (.slice (some ⟨gl, 0, none⟩) nvs nvs)) w') := fun w' hw' => hw'.cell m4X hmlb
              go_wp2_with fail
              clear m4R
              refine wp_region_noPanic ?_
              refine wp_region_held_drew (S := (fun w' => w'.cell? ⟨mk, 4, none⟩ = some (.slice (some ⟨gl, 0, none⟩) nvs nvs))) (by kernel_rfl) (by first | assumption | exact KP.out _ HGD.out | exact KP.out _ HVV.out | exact KP.out _ HN2.out) (fun hHeld => ?_)
              refine wpAnyH_take (i := 0) (oi := _) (v := ?_) rfl (by kernel_rfl) (by kernel_rfl) (by kernel_rfl) (fun _ _ _ h => h) (Or.inl ⟨by rfl, ?_⟩) (by assumption) ?_
              rotate_left
              · (intro w0 hSw; (try dsimp only at hSw); (try simp only [List.getElem_toArray, List.getElem_cons_zero]); go_simp; try (with_reducible rfl))
              try simp only [Act.put, List.getElem_toArray, List.getElem_cons_zero, List.setIfInBounds_toArray, List.set_cons_zero, List.set_cons_succ]
              refine wpAnyH_take (i := 1) (oi := _) (v := ?_) rfl (by kernel_rfl) (by kernel_rfl) (by kernel_rfl) (fun _ _ _ h => h) (Or.inl ⟨by rfl, ?_⟩) (by assumption) ?_
              rotate_left
              · (intro w0 hSw; (try dsimp only at hSw); (try simp only [List.getElem_toArray, List.getElem_cons_zero, List.getElem_cons_succ]); go_simp; try (with_reducible rfl))
              try simp only [Act.put, List.getElem_toArray, List.getElem_cons_zero, List.getElem_cons_succ, List.setIfInBounds_toArray, List.set_cons_zero, List.set_cons_succ]
              refine wpAnyH_take (i := 2) (oi := _) (v := ?_) rfl (by kernel_rfl) (by kernel_rfl) (by kernel_rfl) (fun _ _ _ h => h) (Or.inl ⟨by rfl, ?_⟩) (by assumption) ?_
              rotate_left
              · (intro w0 hSw; (try dsimp only at hSw); (try simp only [List.getElem_toArray, List.getElem_cons_zero, List.getElem_cons_succ]); go_simp; try (with_reducible rfl))
              try simp only [Act.put, List.getElem_toArray, List.getElem_cons_zero, List.getElem_cons_succ, List.setIfInBounds_toArray, List.set_cons_zero, List.set_cons_succ]
              refine wpAnyH_take (i := 3) (oi := _) (v := ?_) rfl (by kernel_rfl) (by kernel_rfl) (by kernel_rfl) (fun _ _ _ h => h) (Or.inl ⟨by rfl, ?_⟩) (by assumption) ?_
              rotate_left
              · (intro w0 hSw; (try dsimp only at hSw); (try simp only [List.getElem_toArray, List.getElem_cons_zero, List.getElem_cons_succ]); go_simp; try (with_reducible rfl))
              try simp only [Act.put, List.getElem_toArray, List.getElem_cons_zero, List.getElem_cons_succ, List.setIfInBounds_toArray, List.set_cons_zero, List.set_cons_succ]
              refine wpAnyH_take (i := 4) (oi := _) (v := ?_) rfl (by kernel_rfl) (by kernel_rfl) (by kernel_rfl) (fun _ _ _ h => h) (Or.inl ⟨by rfl, ?_⟩) (by assumption) ?_
              rotate_left
              · (intro w0 hSw; (try dsimp only at hSw); (try simp only [List.getElem_toArray, List.getElem_cons_zero, List.getElem_cons_succ]); go_simp; try (with_reducible rfl))
              try simp only [Act.put, List.getElem_toArray, List.getElem_cons_zero, List.getElem_cons_succ, List.setIfInBounds_toArray, List.set_cons_zero, List.set_cons_succ]
              refine wpAnyH_take (i := 5) (oi := _) (v := ?_) rfl (by kernel_rfl) (by kernel_rfl) (by kernel_rfl) (fun _ _ _ h => h) (Or.inl ⟨by rfl, ?_⟩) (by assumption) ?_
              rotate_left
              · (intro w0 hSw; (try dsimp only at hSw); (try simp only [List.getElem_toArray, List.getElem_cons_zero, List.getElem_cons_succ]); go_simp; try (with_reducible rfl))
              try simp only [Act.put, List.getElem_toArray, List.getElem_cons_zero, List.getElem_cons_succ, List.setIfInBounds_toArray, List.set_cons_zero, List.set_cons_succ]
              refine wpAnyH_take (i := 6) (oi := _) (v := ?_) rfl (by kernel_rfl) (by kernel_rfl) (by kernel_rfl) (fun _ _ _ h => h) (Or.inl ⟨by rfl, ?_⟩) (by assumption) ?_
              rotate_left
              · (intro w0 hSw; (try dsimp only at hSw); (try simp only [List.getElem_toArray, List.getElem_cons_zero, List.getElem_cons_succ]); go_simp; try (with_reducible rfl))
              try simp only [Act.put, List.getElem_toArray, List.getElem_cons_zero, List.getElem_cons_succ, List.setIfInBounds_toArray, List.set_cons_zero, List.set_cons_succ]
              refine wpAnyH_take (i := 7) (oi := _) (v := ?_) rfl (by kernel_rfl) (by kernel_rfl) (by kernel_rfl) (fun _ _ _ h => h) (Or.inl ⟨by rfl, ?_⟩) (by assumption) ?_
              rotate_left
              · (intro w0 hSw; (try dsimp only at hSw); (try simp only [List.getElem_toArray, List.getElem_cons_zero, List.getElem_cons_succ]); go_simp; try (with_reducible rfl))
              try simp only [Act.put, List.getElem_toArray, List.getElem_cons_zero, List.getElem_cons_succ, List.setIfInBounds_toArray, List.set_cons_zero, List.set_cons_succ]
              refine wpAnyH_take (i := 8) (oi := _) (v := ?_) rfl (by kernel_rfl) (by kernel_rfl) (by kernel_rfl) (fun _ _ _ h => h) (Or.inl ⟨by rfl, ?_⟩) (by assumption) ?_
              rotate_left
              · (intro w0 hSw; (try dsimp only at hSw); (try simp only [List.getElem_toArray, List.getElem_cons_zero, List.getElem_cons_succ]); go_simp; try (with_reducible rfl))
              try simp only [Act.put, List.getElem_toArray, List.getElem_cons_zero, List.getElem_cons_succ, List.setIfInBounds_toArray, List.set_cons_zero, List.set_cons_succ]
              refine wpAnyH_take (i := 9) (oi := _) (v := ?_) rfl (by kernel_rfl) (by kernel_rfl) (by kernel_rfl) (fun _ _ _ h => h) (Or.inl ⟨by rfl, ?_⟩) (by assumption) ?_
              rotate_left
              · (intro w0 hSw; (try dsimp only at hSw); (try simp only [List.getElem_toArray, List.getElem_cons_zero, List.getElem_cons_succ]); go_simp; try (with_reducible rfl))
              try simp only [Act.put, List.getElem_toArray, List.getElem_cons_zero, List.getElem_cons_succ, List.setIfInBounds_toArray, List.set_cons_zero, List.set_cons_succ]
              refine wpAnyH_ready (rs := [10]) (by kernel_rfl) (by simp) ?_
              refine AllReadyH.cons (o := _) rfl (fun K hK => ?_) AllReadyH.nil
              (try simp only [List.getElem_toArray, List.getElem_cons_zero, List.getElem_cons_succ])
              go_simp
              go_at_call 35
              refine (TD.out _ HGD.out).mono ?_
              rintro e v ⟨rfl, n, hv⟩
              have HVV : Hid (But lb Y v) := by rw [hv]; exact HGD.out.drewN n
              have HVB : Hid (Blk v lb 5 (([false, true] ++ ((d.cs.take j).map (fun e => cellV e vs) ++ (al.drop 2).drop j)).map b8).toArray) := by rw [hv]; exact HO.out
              obtain ⟨⟨old, hold⟩, hfz, hn1, hn2⟩ := HNX.out v HVV.out HVB.out
              have HN1 := hidden hn1
              have HN2 := hidden hn2
              clear hn1 hn2 hv
              go_wp2_with fail
              refine hK.out _ _ (by first | assumption | exact KP.out _ HGD.out | exact KP.out _ HVV.out | exact KP.out _ HN2.out) (fun hHeld1 => ?_)
              clear hK K
              (try simp only [Act.put]); (try simp only [List.setIfInBounds_toArray]); (try simp only [List.set_cons_zero, List.set_cons_succ])
              refine wpAnyH_take (i := 11) (oi := _) (v := ?_) rfl (by kernel_rfl) (by kernel_rfl) (by kernel_rfl) (fun _ _ _ h => h) (Or.inl ⟨by rfl, ?_⟩) (by assumption) ?_
              rotate_left
              · (intro w0 hSw; (try dsimp only at hSw); (try simp only [List.getElem_toArray, List.getElem_cons_zero, List.getElem_cons_succ]); go_simp; try (with_reducible rfl))
              try simp only [Act.put, List.getElem_toArray, List.getElem_cons_zero, List.getElem_cons_succ, List.setIfInBounds_toArray, List.set_cons_zero, List.set_cons_succ]
              refine wpAnyH_ready (rs := [12]) (by kernel_rfl) (by simp) ?_
              refine AllReadyH.cons (o := _) rfl (fun K hK => ?_) AllReadyH.nil
              (try simp only [List.getElem_toArray, List.getElem_cons_zero, List.getElem_cons_succ])
              go_simp
              refine hK.out _ _ (by first | assumption | exact KP.out _ HGD.out | exact KP.out _ HVV.out | exact KP.out _ HN2.out) (fun hHeld3 => ?_)
              clear hK K
              (try simp only [Act.put]); (try simp only [List.setIfInBounds_toArray]); (try simp only [List.set_cons_zero, List.set_cons_succ])
              refine wpAnyH_done (by kernel_rfl) ?_ _
              refine NoPanic.normal ?_
              go_wp2_with fail
              go_roundw
              case measure => simp [intOf]; omega
              case rel => exact ⟨j + 1, by omega, by simp, HN1.out, HN2.out⟩
            · have hge : ¬ ((j : Int) < (nw : Int)) := by omega
              have hjn : j = nw := by omega
              have HRE : Hid (Blk wr lb 5 ((colV vs d.cs).map b8).toArray) := by
                have h := HO.out
                rw [List.take_of_length_le (by have := HNW.out; omega), List.drop_eq_nil_of_le (by rw [List.length_drop]; omega), List.append_nil] at h
                exact h
              have HRL2 : Hid ((colV vs d.cs).length = nl) := by show _ = _; unfold colV; simp; have := HNW.out; omega
              have m0R : wr.cell? ⟨mk, 0, none⟩ = some (.pointer (some ⟨gb, 0, none⟩)) := (HG.out.blk HP1.out.m hmlb).cell (i := 0) rfl
              have m4R := HG.out.cell m4X hmlb
              have f4R := (HG.out.blk HP1.out.m hmlb).frozen 4
              have HBM : Hid (But mk wr (wr.setCell ⟨mk, 4, none⟩ (.slice (some ⟨lb, 0, none⟩) nl nl))) := But.set _ _ _ _
              have HTK : Hid (colsC V0 (N.cols.take (i + 1)) = colV vs d.cs) := by
                show _ = _
                rw [take_next _ i _ HDI.out]
                unfold colsC
                rw [List.foldl_append, ← HVS.out]
                rfl
              have HNP : Hid (∃ b0 b1, OutP w (wr.setCell ⟨mk, 4, none⟩ (.slice (some ⟨lb, 0, none⟩) nl nl)) mk gb sb g0 g1 (2 + ni + nr) nl V0 (colsC V0 (N.cols.take (i + 1))) (i + 1) b0 b1) := by
                rw [HTK.out]
                have hkp : Kp [mk, sb, g0, g1] w (wr.setCell ⟨mk, 4, none⟩ (.slice (some ⟨lb, 0, none⟩) nl nl)) := (HP1.out.kp.trans (HG.out.kp (by rcases hlb with e | e <;> simp [e]))).trans (HBM.out.kp (by simp))
                have hgl : GL sb g0 g1 (i + 1) = lb := HLB.out
                have hmm : Blk (wr.setCell ⟨mk, 4, none⟩ (.slice (some ⟨lb, 0, none⟩) nl nl)) mk 84 (machA gb sb g0 g1 (2 + ni + nr) nl nl (.slice (some ⟨GL sb g0 g1 (i + 1), 0, none⟩) (colV vs d.cs).length (colV vs d.cs).length)) := by
                  rw [hgl, HRL2.out]
                  exact (HG.out.blk HP1.out.m hmlb).set 4 _
                have hrr : BRow (wr.setCell ⟨mk, 4, none⟩ (.slice (some ⟨lb, 0, none⟩) nl nl)) lb (colV vs d.cs) := BRow.but ⟨HRE.out.lt, HRE.out⟩ HBM.out (Ne.symm hmlb)
                have hsb2 : sb ≠ lb := by rcases hlb with e | e <;> rw [e] <;> exact Ne.symm (by assumption)
                have hss : BRow (wr.setCell ⟨mk, 4, none⟩ (.slice (some ⟨lb, 0, none⟩) nl nl)) sb V0 := (HP1.out.s.but HG.out hsb2).but HBM.out (Ne.symm h1)
                have htt : (colV vs d.cs).take 2 = [false, true] := rfl
                rcases hlb with e | e
                · subst e
                  exact ⟨colV vs d.cs, a1, hmm, by rw [hgl]; exact hrr, hss, hrr, (HP1.out.b1.but HG.out (Ne.symm h5)).but HBM.out (Ne.symm h7), HRL2.out, HP1.out.z1, htt, HP1.out.t1, hkp⟩
                · subst e
                  exact ⟨a0, colV vs d.cs, hmm, by rw [hgl]; exact hrr, hss, (HP1.out.b0.but HG.out h5).but HBM.out (Ne.symm h6), hrr, HP1.out.z0, HRL2.out, HP1.out.t0, htt, hkp⟩
              clear HO HY0
              go_wp2
              go_roundw
              case measure => simp [intOf]; omega
              case rel =>
                obtain ⟨b0, b1, hb⟩ := HNP.out
                exact ⟨i + 1, b0, b1, by omega, by simp, hb⟩
        · have hge : ¬ ((i : Int) < (nc : Int)) := by omega
          have hin : i = N.cols.length := by have := HNC.out; omega
          subst hin
          have HFIN : Hid (OutP w wr mk gb sb g0 g1 (2 + ni + nr) nl V0 (colsC V0 N.cols) N.cols.length a0 a1) := by have := HP.out; rwa [List.take_of_length_le (Nat.le_refl _)] at this
          clear HP
          go_wp2
          go_end0
          exact ⟨⟨_, rfl⟩, HGOAL.out _ ⟨a0, a1, HFIN.out⟩⟩

end Go.Proofs.YtjbnejjjbdalaaaDoor
