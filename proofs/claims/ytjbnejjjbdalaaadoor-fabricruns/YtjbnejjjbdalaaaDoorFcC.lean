import Derived.Test.YtjbnejjjbdalaaaDoorFcB
import Derived.Test.YtjbnejjjbdalaaaDoorFaB
import Derived.Lib.SlBytesConst
namespace Go.Proofs.YtjbnejjjbdalaaaDoor
open Go.RowKit

theorem Pz.of_below {base sb : Nat} {w w' : World} (h : Below w.heap.size w w') (hs : base ≤ w.heap.size) : Pz base sb w w' :=
  ⟨h.os, h.tape, h.output, h.size, fun k hk => h.block k (by omega), fun _ _ _ _ _ h3 => h3.below h⟩
theorem StrP.to {w w' : World} {base sb q : Nat} {f : Nat → Nat} (h : StrP w base sb f q) (hb : Below w.heap.size w w') : StrP w' base sb f q := by
  obtain ⟨v, X, h1, h2, h3⟩ := h
  refine ⟨v, X, h1.below hb, ?_, h3⟩
  rcases h2 with h2 | h2
  · exact .inl (own_below h2 hb)
  · exact .inr ⟨h2.1, h2.2.to hb⟩
theorem StrP.drew {w : World} {base sb q : Nat} {f : Nat → Nat} (h : StrP w base sb f q) : StrP w.drew base sb f q := by
  obtain ⟨v, X, h1, h2, h3⟩ := h
  refine ⟨v, X, h1.drewN 1, ?_, h3⟩
  rcases h2 with h2 | h2
  · exact .inl h2.drew
  · exact .inr h2
theorem Pz.drew {base sb : Nat} {a w : World} (h : Pz base sb a w) : Pz base sb a w.drew := h.drewN 1
/-- the bits of a configuration's bytes -/
def fB (bt : List Nat) : Nat → Nat := bitN (markL ++ bt)
theorem fB_at (bt : List Nat) (p : Nat) : fB bt (32 + p) = bitN bt p := bitN_app markL bt rfl p
theorem enc_mark (bt : List Nat) : Enc markL 32 (fB bt) := by
  refine ⟨rfl, by decide, fun q hq => ?_, fun q hq => bitN_over _ _ (by show 8 * 4 ≤ q; omega)⟩
  unfold fB bitN
  congr 2
  simp only [List.getD_eq_getElem?_getD]
  rw [List.getElem?_append_left (by show q / 8 < 4; omega)]
theorem put_num (base : Nat) (w : World) (sb : Nat) (hbs : base ≤ sb) (bt : List Nat) (p n : Nat) (hst : StrP w base sb (fB bt) (32 + p)) (hn : n ≤ 16) (hq : p ≤ 900000000) :
    Calls Tryd.prog 12 #[.pointer (some ⟨sb, 0, none⟩), .int .i64 ((numN bt p n : Nat) : Int), .int .i64 (n : Int)] w fun e w' => (∃ u, e = .returned u) ∧ StrP w' base sb (fB bt) (32 + (p + n)) ∧ Pz base sb w w' := by
  have := put_doc base w sb hbs (fB bt) (32 + p) n (numN bt p n) hst hn (by omega) (fun i hi => by rw [numN_bit bt p n i hi, Nat.add_assoc, fB_at])
  rw [Nat.add_assoc] at this
  exact this
theorem posC_le (nw k0 k1 : Nat) (h1 : nw ≤ 500) (h2 : k0 ≤ 16) (h3 : k1 ≤ 16) (i : Nat) : posC nw k0 k1 i ≤ 80 + i * 40000 := by
  induction i with
  | zero => exact Nat.le_refl _
  | succ i ih =>
    have : nw * cw (kO k0 k1 i) ≤ 500 * 80 := Nat.mul_le_mul h1 (by unfold cw kO; split <;> omega)
    show posC nw k0 k1 i + nw * cw (kO k0 k1 i) ≤ _
    omega
theorem BoxAt.pz {base sb p : Nat} {w w' : World} {S : CnS} {N : CnD} (h : BoxAt w p S N) (hp : p < base) (hz : Pz base sb w w') : BoxAt w' p S N := h.to hp hz.below
def shArr (s : ShD) (j : Nat) : Int := ([s.ins, s.outs, s.regs, s.rows, s.cols]).getD j 0

set_option maxRecDepth 100000 in
set_option maxHeartbeats 16000000 in
theorem encode_doc (B : Nat) (w : World) (hBw : B ≤ w.heap.size) (S : CnS) (N : CnD) (hN : CnAt B w S N) (bt : List Nat) (hsp : SpecN (numN bt) N) (hs : (shS (numN bt)).ok = true) :
    Calls Tryd.prog 5 #[.agg (S.cells N)] w fun e w' => ∃ X v, e = .returned v ∧ Enc X (32 + endPS (numN bt)) (fB bt) ∧ w'.ownsRow w.heap.size 5 1 v (X.length + 4) ((X ++ sumB (crcV X)).map byV) ∧ Below w.heap.size w w' := by
  obtain ⟨f, HF⟩ : ∃ f, Hid (f = fB bt) := ⟨_, rfl⟩
  obtain ⟨nm, HNM⟩ : ∃ nm, Hid (nm = numN bt) := ⟨_, rfl⟩
  rw [← HNM.out] at hsp hs
  rw [← HNM.out, ← HF.out]
  have PUTN : Hid (∀ (base sb p n : Nat) (w : World), base ≤ sb → StrP w base sb f (32 + p) → n ≤ 16 → p ≤ 900000000 → Calls Tryd.prog 12 #[.pointer (some ⟨sb, 0, none⟩), .int .i64 ((nm p n : Nat) : Int), .int .i64 (n : Int)] w fun e w' => (∃ u, e = .returned u) ∧ StrP w' base sb f (32 + (p + n)) ∧ Pz base sb w w') := by
    rw [HF.out, HNM.out]
    exact fun base sb p n w h1 h2 h3 h4 => put_num base w sb h1 bt p n h2 h3 h4
  have HLT : Hid (∀ p n, nm p n < 2 ^ n) := by rw [HNM.out]; exact numN_lt bt
  have hok := hs
  unfold ShD.ok shS at hok
  simp only [Bool.and_eq_true] at hok
  obtain ⟨⟨⟨⟨o1, o2⟩, o3⟩, o4⟩, o5⟩ := hok
  obtain ⟨ni, hni⟩ : ∃ n, n = nm 0 16 := ⟨_, rfl⟩
  obtain ⟨no, hno⟩ : ∃ n, n = nm 16 16 := ⟨_, rfl⟩
  obtain ⟨nr, hnr⟩ : ∃ n, n = nm 32 16 := ⟨_, rfl⟩
  obtain ⟨nw, hnw⟩ : ∃ n, n = nm 48 16 := ⟨_, rfl⟩
  obtain ⟨nc, hnc⟩ : ∃ n, n = nm 64 16 := ⟨_, rfl⟩
  have b1 := wi_iff o1
  have b2 := wi_iff o2
  have b3 := wi_iff o3
  have b4 := wi_iff o4
  have b5 := wi_iff o5
  rw [← hni] at b1
  rw [← hno] at b2
  rw [← hnr] at b3
  rw [← hnw] at b4
  rw [← hnc] at b5
  obtain ⟨k0, hk0⟩ : ∃ k, k = wid (2 + ni + nr) := ⟨_, rfl⟩
  obtain ⟨k1, hk1⟩ : ∃ k, k = wid (2 + nw) := ⟨_, rfl⟩
  have k0l : k0 ≤ 16 := by rw [hk0]; exact wid_lt _ (by omega)
  have k1l : k1 ≤ 16 := by rw [hk1]; exact wid_lt _ (by omega)
  have HSH : Hid (N.sh = ⟨(ni : Int), (no : Int), (nr : Int), (nw : Int), (nc : Int)⟩) := by
    rw [hsp.sh, hni, hno, hnr, hnw, hnc]; rfl
  have HFIT : Hid N.sh.fits := by rw [hsp.sh]; exact ShD.fits_of hs
  have HCOL : Hid (∀ (i : Nat) (d : ClD), N.cols[i]? = some d → i < nc ∧ d.cs = clS nm (posC nw k0 k1 i) (kO k0 k1 i) nw) := by
    intro i d hd
    have e : (N.cols.map ClD.cs)[i]? = some d.cs := by rw [List.getElem?_map, hd]; rfl
    rw [hsp.cols] at e
    unfold colsS at e
    rw [List.getElem?_map, ← hnc] at e
    rcases Nat.lt_or_ge i nc with hk | hk
    · rw [List.getElem?_range hk] at e
      refine ⟨hk, ?_⟩
      have := (Option.some.inj e).symm
      rw [this]
      unfold colF k0S k1S
      rw [← hni, ← hnr, ← hnw, ← hk0, ← hk1]
    · rw [List.getElem?_eq_none (by simp; omega)] at e
      cases e
  have HCL : Hid (N.cols.length = nc) := by
    have := congrArg List.length hsp.cols
    unfold colsS at this
    rw [← hnc] at this
    show _ = _
    simpa using this
  obtain ⟨P, hP⟩ : ∃ P, P = posC nw k0 k1 nc := ⟨_, rfl⟩
  have hPl : P ≤ 4000080 := by rw [hP]; have := posC_le nw k0 k1 (by omega) k0l k1l nc; have : nc * 40000 ≤ 100 * 40000 := Nat.mul_le_mul_right _ (by omega); omega
  obtain ⟨Qo, hQo⟩ : ∃ Q, Q = P + nr * (1 + k1) := ⟨_, rfl⟩
  have hQl : Qo ≤ 5000080 := by rw [hQo]; have : nr * (1 + k1) ≤ 500 * 17 := Nat.mul_le_mul (by omega) (by omega); omega
  have HREG : Hid (N.regs = (List.range nr).map (regF nm P k1)) := by
    show _ = _
    rw [hsp.regs]
    unfold regsS regPS k0S k1S
    rw [← hni, ← hnr, ← hnw, ← hk0, ← hk1, ← hnc, ← hP]
  have HOUT : Hid (N.outs = (List.range no).map (outF nm Qo k1)) := by
    show _ = _
    rw [hsp.outs]
    unfold outsS outPS regPS k0S k1S
    rw [← hni, ← hno, ← hnr, ← hnw, ← hk0, ← hk1, ← hnc, ← hP, ← hQo]
  have HEND : Hid (endPS nm = Qo + no * k1) := by
    show _ = _
    unfold endPS outPS regPS k0S k1S
    rw [← hni, ← hno, ← hnr, ← hnw, ← hk0, ← hk1, ← hnc, ← hP, ← hQo]
  rw [HEND.out]
  have HW0 : Hid (wid (2 + ni + nr) = k0) := hk0.symm
  have HW1 : Hid (wid (2 + nw) = k1) := hk1.symm
  have HPP := hidden hP
  have HQQ := hidden hQo
  have HSV : Hid (∀ j, j < 5 → shArr N.sh j = ((nm (j * 16) 16 : Nat) : Int)) := by
    intro j hj
    rw [HSH.out, hni, hno, hnr, hnw, hnc]
    rcases (show j = 0 ∨ j = 1 ∨ j = 2 ∨ j = 3 ∨ j = 4 by omega) with rfl | rfl | rfl | rfl | rfl <;> rfl
  have HCN := hidden hN
  have HRLN : Hid (N.regs.length = nr) := by show _ = _; rw [HREG.out]; simp
  have HOLN : Hid (N.outs.length = no) := by show _ = _; rw [HOUT.out]; simp
  obtain ⟨s1, HS1E⟩ : ∃ s, Hid (s = 2 + nw) := ⟨_, rfl⟩
  have HSX1 : Hid (N.sh.src (-1) = (s1 : Int)) := by
    show _ = _
    rw [HSH.out, HS1E.out]
    unfold ShD.src
    rw [if_neg (by omega)]
    simp
  have hPge : 80 ≤ P := by rw [hP]; exact posC_ge _ _ _ _
  have hQge : 80 ≤ Qo := by rw [hQo]; omega
  obtain ⟨ib, hib, hzb, hsb, hbb⟩ := info_u8
  have HI := hidden hib
  have HZ := hidden hzb
  have HS := hidden hsb
  have HBY := hidden hbb
  clear hib hzb hsb hbb
  have HENM : Hid (Enc markL 32 f) := by rw [HF.out]; exact enc_mark bt
  clear hsp hs o1 o2 o3 o4 o5 hni hno hnr hnw hnc hk0 hk1 hP hQo hN HF HNM
  have kc := fun (w : World) (C : Array Value) (n c : Nat) => Lib.run_convert_bytes_const (P := Tryd.prog) w 22 5 C n c Tryd.underlying22 Tryd.underlying5
  unfold CnS.cells
  go_enter Tryd.func5, Tryd.ntmps5
  go_upto_region 1 with fail
  generalize hW : World.alloc w _ = W
  obtain ⟨pg, hpg⟩ : ∃ x, x = w.heap.size := ⟨_, rfl⟩
  have HB1 : Hid (Below w.heap.size w W) := by rw [← hW]; exact (Below.refl _ _).alloc (Nat.le_refl _) _
  have HX : Hid (BoxAt W pg S N) := by rw [← hW, hpg]; exact BoxAt.new w S N
  rw [← hpg]
  have hwW : w.heap.size ≤ W.heap.size := HB1.out.size
  have HCW : Hid (CnAt B W S N) := HCN.out.to (HB1.out.mono hBw)
  have hBW : B ≤ W.heap.size := Nat.le_trans hBw hwW
  clear hW hpg HCN
  go_upto_region 3 with fail
  obtain ⟨base, hbase⟩ : ∃ x, x = W.heap.size := ⟨_, rfl⟩
  obtain ⟨sb, hsb⟩ : ∃ x, x = W.heap.size + 1 := ⟨_, rfl⟩
  generalize hU : World.alloc (World.alloc W _) _ = U
  have hUs : U.heap.size = base + 2 := by rw [← hU, hbase]; simp
  have HBU : Hid (Below W.heap.size W U) := by rw [← hU]; exact ((Below.refl _ _).alloc (Nat.le_refl _) _).alloc (by simp) _
  have HSBU : Hid (Blk U sb 48 (strA (.slice (some ⟨base, 0, none⟩) 4 4) 32 0 false)) := by
    rw [← hU, hsb, hbase]
    have h := Blk.new (W.alloc (Obj.cells #[Value.int IntKind.u8 71, Value.int IntKind.u8 87, Value.int IntKind.u8 66, Value.int IntKind.u8 49] 5 (4, 5))) 48 (strA (.slice (some ⟨W.heap.size, 0, none⟩) 4 4) 32 0 false)
    rw [show (W.alloc (Obj.cells #[Value.int IntKind.u8 71, Value.int IntKind.u8 87, Value.int IntKind.u8 66, Value.int IntKind.u8 49] 5 (4, 5))).heap.size = W.heap.size + 1 by simp] at h
    exact h
  have HMRK : Hid (MarkR U base 5 (.slice (some ⟨base, 0, none⟩) 4 4) (markL.map byV)) := by
    rw [← hU, hbase]
    refine MarkR.to ⟨W.heap.size, (4, 5), rfl, Nat.le_refl _, ?_⟩ ((Below.refl _ _).alloc (Nat.le_refl _) _)
    exact heap_new _ _
  rw [← hsb, ← hbase]
  have HSTU : Hid (StrP U base sb f (32 + 0)) := ⟨_, markL, HSBU.out, .inr ⟨rfl, HMRK.out⟩, HENM.out⟩
  have HXU : Hid (BoxAt U pg S N) := HX.out.to HX.out.lt HBU.out
  have HCU : Hid (CnAt B U S N) := HCW.out.to (HBU.out.mono hBW)
  have hpb : pg < base := by rw [hbase]; exact HX.out.lt
  have hBb : B ≤ base := by omega
  have hbsb : base ≤ sb := by omega
  have hwb : w.heap.size ≤ base := by omega
  have HBWU : Hid (Below w.heap.size w U) := HB1.out.trans (HBU.out.mono hwW)
  have hsbU : sb < U.heap.size := by omega
  clear hU hsb hbase hUs HSBU HMRK HX HCW hBW kc HENM HBU HB1 hwW
  have q0 := HXU.out.c0
  have q1 := HXU.out.c1
  have q2 := HXU.out.c2
  have q3 := HXU.out.c3
  have q4 := HXU.out.c4
  go_upto_region 5 with fail
  obtain ⟨sx, hsx⟩ : ∃ x, x = U.heap.size := ⟨_, rfl⟩
  obtain ⟨ax, hax⟩ : ∃ x, x = U.heap.size + 1 := ⟨_, rfl⟩
  generalize hV : World.alloc (World.alloc U _) _ = V
  have HBV : Hid (Below U.heap.size U V) := by rw [← hV]; exact ((Below.refl _ _).alloc (Nat.le_refl _) _).alloc (by simp) _
  have HSX : Hid (Blk V sx 27 N.sh.arr) := by
    rw [← hV, hsx]
    exact (Blk.new U 27 N.sh.arr).below ((Below.refl _ _).alloc (Nat.le_refl _) _)
  have HAX : Hid (Blk V ax 3 N.sh.arr) := by
    rw [← hV, hax]
    have h := Blk.new (U.alloc (.cells N.sh.arr 27)) 3 N.sh.arr
    rw [show (U.alloc (.cells N.sh.arr 27)).heap.size = U.heap.size + 1 by simp] at h
    exact h
  rw [← hax, ← hsx]
  have HSTV : Hid (StrP V base sb f (32 + 0)) := HSTU.out.to HBV.out
  have HXV : Hid (BoxAt V pg S N) := HXU.out.to HXU.out.lt HBV.out
  have HCV : Hid (CnAt B V S N) := HCU.out.to (HBV.out.mono (by omega))
  have HBWV : Hid (Below w.heap.size w V) := HBWU.out.trans (HBV.out.mono HBWU.out.size)
  have hxs : sx ≠ sb := by omega
  have hxa : ax ≠ sb := by omega
  have hVz : base ≤ V.heap.size := by have := HBV.out.size; omega
  have hsbV : sb < V.heap.size := by have := HBV.out.size; omega
  clear hV hsx hax HSTU HXU HCU HBWU HBV q0 q1 q2 q3 q4
  go_wp2_with fail
  -- the shape
  go_loopw [6] (fun i' w' => ∃ (j : Nat), j ≤ 5 ∧ i' = .int .i64 j ∧ Hid (StrP w' base sb f (32 + j * 16)) ∧ Hid (Pz base sb V w')) (fun i' _ => 5 - (intOf i').toNat)
  case atStart => exact ⟨0, Nat.zero_le _, rfl, HSTV.out, Pz.refl _ _ _⟩
  case round =>
    obtain ⟨j, hj, rfl, HST, HPZ⟩ := hrel
    by_cases hlt : j < 5
    · have hltI : (j : Int) < 5 := by omega
      have hltn : j < 5 := hlt
      have e3 : IntKind.i64.wrap ((j : Int) + 1) = (j : Int) + 1 := wrapI _ (by omega) (by omega)
      have ca : wr.cell? ⟨ax, j, none⟩ = some (.int .i64 ((nm (j * 16) 16 : Nat) : Int)) := by
        rw [← HSV.out j hltn]
        refine (HPZ.out.typ _ _ _ (by decide) hxa HAX.out).cell ?_
        rcases (show j = 0 ∨ j = 1 ∨ j = 2 ∨ j = 3 ∨ j = 4 by omega) with rfl | rfl | rfl | rfl | rfl <;> rfl
      have PC := hidden (PUTN.out base sb (j * 16) 16 wr hbsb HST.out (by omega) (by omega))
      obtain ⟨z, hz⟩ : ∃ z, z = nm (j * 16) 16 := ⟨_, rfl⟩
      rw [← hz] at ca PC
      clear hz
      go_wp2_with fail
      go_at_call 12
      refine PC.out.mono ?_
      rintro e w1 ⟨⟨u1, rfl⟩, hs1, hp1⟩
      have HS1 : Hid (StrP w1 base sb f (32 + (j + 1) * 16)) := by rw [show (j + 1) * 16 = j * 16 + 16 by omega]; exact hs1
      have HP1 := hidden (HPZ.out.trans hp1)
      clear hs1 hp1 PC ca
      go_wp2
      go_roundw
      case measure => simp [intOf]; omega
      case rel => exact ⟨j + 1, by omega, by simp, HS1.out, HP1.out⟩
    · have hge : ¬ ((j : Int) < 5) := by omega
      have HSE : Hid (StrP wr base sb f (32 + posC nw k0 k1 0)) := by rw [show posC nw k0 k1 0 = j * 16 by show 80 = _; omega]; exact HST.out
      have HPE := HPZ
      clear HST HPZ hlt hj
      obtain ⟨V1, hV1⟩ : ∃ x, x = wr := ⟨_, rfl⟩
      rw [← hV1] at HSE HPE
      rw [← hV1]
      clear hV1
      have q5 := (HXV.out.pz hpb HPE.out).c5
      go_wp2_with fail
      clear q5
      -- the columns
      go_loopw [7] (fun i' w' => ∃ (i : Nat), i ≤ nc ∧ i' = .int .i64 i ∧ Hid (StrP w' base sb f (32 + posC nw k0 k1 i)) ∧ Hid (Pz base sb V w')) (fun i' _ => nc - (intOf i').toNat)
      case atStart => exact ⟨0, Nat.zero_le _, rfl, HSE.out, HPE.out⟩
      case round =>
        clear HSE HPE
        obtain ⟨i, hi, rfl, HST, HPZ⟩ := hrel
        have q5 := (HXV.out.pz hpb HPZ.out).c5
        rw [HCL.out] at q5
        by_cases hlt : i < nc
        · have hltI : (i : Int) < (nc : Int) := by omega
          have ei : IntKind.i64.wrap ((i : Int) + 1) = (i : Int) + 1 := wrapI _ (by omega) (by omega)
          obtain ⟨d, hd⟩ := getElem_lt (show i < N.cols.length by rw [HCL.out]; exact hlt)
          obtain ⟨-, hdc⟩ := HCOL.out i d hd
          obtain ⟨b, o, ea, hlb, hc⟩ := HCV.out.c.el hd
          have HRC := hidden (HCV.out.cc d (List.mem_of_getElem? hd))
          have KC : Hid (∀ w', Pz base sb V w' → w'.cell? ⟨b, o + i, none⟩ = some (.slice d.a nw d.c)) := fun w' hw' => by
            have h0 := (hw'.below.cell (p := ⟨b, o + i * 1 + 0, none⟩) (Nat.lt_of_lt_of_le hlb hBb)).trans (hc 0 _ rfl)
            rw [hdc, clS_len] at h0
            simpa using h0
          have HDC := hidden hdc
          obtain ⟨kk, hkk⟩ : ∃ k, k = kO k0 k1 i := ⟨_, rfl⟩
          have hkl : kk ≤ 16 := by rw [hkk]; unfold kO; split <;> assumption
          obtain ⟨sn, hsn⟩ : ∃ s : Nat, s = if i = 0 then 2 + ni + nr else 2 + nw := ⟨_, rfl⟩
          have hsl : sn ≤ 65536 := by rw [hsn]; split <;> omega
          have HSXR : Hid (N.sh.src (i : Int) = (sn : Int)) := by
            show _ = _
            rw [HSH.out, hsn]
            unfold ShD.src
            by_cases h0 : i = 0
            · rw [if_pos (by omega), if_pos h0]; simp
            · rw [if_neg (by omega), if_neg h0]; simp
          have HWID : Hid (wid sn = kk) := by
            show _ = _
            rw [hkk, hsn]
            unfold kO
            split
            · exact HW0.out
            · exact HW1.out
          have SRCC : Hid (∀ w', Calls Tryd.prog 14 #[.agg #[.int .i64 N.sh.ins, .int .i64 N.sh.outs, .int .i64 N.sh.regs, .int .i64 N.sh.rows, .int .i64 N.sh.cols], .int .i64 (i : Int)] w' fun e w'' => e = .returned (.int .i64 (sn : Int)) ∧ Below w'.heap.size w' w'') := fun w' => by rw [← HSXR.out]; exact sources_doc w' N.sh i HFIT.out
          have BITC : Hid (∀ w', Calls Tryd.prog 13 #[.int .i64 (sn : Int)] w' fun e w'' => e = .returned (.int .i64 (kk : Int)) ∧ w'' = w') := fun w' => by rw [← HWID.out]; exact bits_doc w' sn hsl
          obtain ⟨pos, hpos⟩ : ∃ p, p = posC nw k0 k1 i := ⟨_, rfl⟩
          have hpl : pos ≤ 4000080 := by rw [hpos]; have := posC_le nw k0 k1 (by omega) k0l k1l i; have : i * 40000 ≤ 100 * 40000 := Nat.mul_le_mul_right _ (by omega); omega
          have HNX : Hid (posC nw k0 k1 (i + 1) = pos + nw * cw kk) := by show _ = _; rw [hpos, hkk]; rfl
          have HCS : Hid (d.cs = clS nm pos kk nw) := by show _ = _; rw [HDC.out, hpos, hkk]
          rw [← hpos] at HST
          have HSK : Hid (StrP wr base sb f (32 + (pos + 0 * cw kk))) := by rw [Nat.zero_mul, Nat.add_zero]; exact HST.out
          have hd2 := HPZ
          rw [ea] at q5
          have KQ5 : Hid (∀ w', Pz base sb V w' → w'.cell? ⟨pg, 5, none⟩ = some (.slice (some ⟨b, o, none⟩) nc S.c1)) := fun w' hw' => by have := (HXV.out.pz hpb hw').c5; rw [HCL.out, ea] at this; exact this
          clear hd hdc hc ea hlb hsn hkk hpos HST HDC HSXR HWID
          generalize d.a = da at *
          generalize d.c = dc at *
          have HCS2 : Hid (∀ k, k < nw → ∃ b' o', da = some ⟨b', o', none⟩ ∧ b' < B ∧ ∀ w', Pz base sb V w' → (w'.cell? ⟨b', o' + k * 5, none⟩ = some (.int .i64 ((nm (pos + k * cw kk + 16 + 0 * kk) kk : Nat) : Int)) ∧ w'.cell? ⟨b', o' + k * 5 + 1, none⟩ = some (.int .i64 ((nm (pos + k * cw kk + 16 + 1 * kk) kk : Nat) : Int)) ∧ w'.cell? ⟨b', o' + k * 5 + 2, none⟩ = some (.int .i64 ((nm (pos + k * cw kk + 16 + 2 * kk) kk : Nat) : Int)) ∧ w'.cell? ⟨b', o' + k * 5 + 3, none⟩ = some (.int .i64 ((nm (pos + k * cw kk + 16 + 3 * kk) kk : Nat) : Int)) ∧ w'.cell? ⟨b', o' + k * 5 + 4, none⟩ = some (.int .i64 ((nm (pos + k * cw kk) 16 : Nat) : Int)))) := by
            intro k hk
            have he := clS_get nm pos kk nw k hk
            rw [← HCS.out] at he
            obtain ⟨b', o', e1, e2, e3⟩ := HRC.out.el he
            refine ⟨b', o', e1, e2, fun w' hw' => ?_⟩
            have hcc : ∀ j v, (CeD.cells (ceS nm (pos + k * cw kk) kk))[j]? = some v → w'.cell? ⟨b', o' + k * 5 + j, none⟩ = some v := fun j v hv => (hw'.below.cell (p := ⟨b', o' + k * 5 + j, none⟩) (Nat.lt_of_lt_of_le e2 hBb)).trans (e3 j v hv)
            exact ⟨hcc 0 _ rfl, hcc 1 _ rfl, hcc 2 _ rfl, hcc 3 _ rfl, hcc 4 _ rfl⟩
          clear HCS HRC
          go_wp2_with fail
          clear q5
          go_loopw [8] (fun i' w' => ∃ (k : Nat), k ≤ nw ∧ i' = .int .i64 k ∧ Hid (StrP w' base sb f (32 + (pos + k * cw kk))) ∧ Hid (Pz base sb V w')) (fun i' _ => nw - (intOf i').toNat)
          case atStart => exact ⟨0, Nat.zero_le _, rfl, HSK.out, HPZ.out⟩
          case round =>
            clear HSK HPZ hd2
            obtain ⟨k, hk, rfl, HST, HPZ⟩ := hrel
            have q5 := KQ5.out _ HPZ.out
            have qc := KC.out _ HPZ.out
            by_cases hlt2 : k < nw
            · have hltI2 : (k : Int) < (nw : Int) := by omega
              have ek : IntKind.i64.wrap ((k : Int) + 1) = (k : Int) + 1 := wrapI _ (by omega) (by omega)
              obtain ⟨b', o', ea', hlb', hcc⟩ := HCS2.out k hlt2
              obtain ⟨c0, c1, c2, c3, c4⟩ := hcc wr HPZ.out
              obtain ⟨p, hp⟩ : ∃ p, p = pos + k * cw kk := ⟨_, rfl⟩
              have hpb2 : p ≤ 5000000 := by
                have h1 : cw kk ≤ 80 := by unfold cw; omega
                have : k * cw kk ≤ 500 * 80 := Nat.mul_le_mul (by omega) h1
                omega
              have HNK : Hid (pos + (k + 1) * cw kk = p + 16 + 4 * kk) := by
                show _ = _
                rw [hp, Nat.add_mul]
                unfold cw
                omega
              rw [← hp] at c0 c1 c2 c3 c4 HST
              obtain ⟨z0, h0⟩ : ∃ z, z = nm (p + 16 + 0 * kk) kk := ⟨_, rfl⟩
              obtain ⟨z1, h1⟩ : ∃ z, z = nm (p + 16 + 1 * kk) kk := ⟨_, rfl⟩
              obtain ⟨z2, h2⟩ : ∃ z, z = nm (p + 16 + 2 * kk) kk := ⟨_, rfl⟩
              obtain ⟨z3, h3⟩ : ∃ z, z = nm (p + 16 + 3 * kk) kk := ⟨_, rfl⟩
              obtain ⟨z4, h4⟩ : ∃ z, z = nm p 16 := ⟨_, rfl⟩
              rw [← h0] at c0
              rw [← h1] at c1
              rw [← h2] at c2
              rw [← h3] at c3
              rw [← h4] at c4
              have HZS : Hid (∀ j, j < 4 → ([z0, z1, z2, z3].getD j 0 = nm (p + 16 + j * kk) kk)) := by
                intro j hj
                rcases (show j = 0 ∨ j = 1 ∨ j = 2 ∨ j = 3 by omega) with rfl | rfl | rfl | rfl
                · exact h0
                · exact h1
                · exact h2
                · exact h3
              have PC0 : Hid (∀ w', StrP w' base sb f (32 + p) → Calls Tryd.prog 12 #[.pointer (some ⟨sb, 0, none⟩), .int .i64 (z4 : Int), .int .i64 16] w' fun e w'' => (∃ u, e = .returned u) ∧ StrP w'' base sb f (32 + (p + 16)) ∧ Pz base sb w' w'') := fun w' hw' => by rw [h4]; exact PUTN.out base sb p 16 w' hbsb hw' (by omega) (by omega)
              clear hcc hp h0 h1 h2 h3 h4
              subst ea'
              go_upto_region 16 with fail
              generalize hY : World.alloc wr _ = Y
              obtain ⟨cb, hcb⟩ : ∃ x, x = wr.heap.size := ⟨_, rfl⟩
              have HCB : Hid (Blk Y cb 53 #[.int .i64 (z0 : Int), .int .i64 (z1 : Int), .int .i64 (z2 : Int), .int .i64 (z3 : Int), .int .i64 (z4 : Int)]) := by
                rw [← hY, hcb]
                exact Blk.new wr 53 _
              have hbY : Below wr.heap.size wr Y := by rw [← hY]; exact (Below.refl _ _).alloc (Nat.le_refl _) _
              have hwrb : base ≤ wr.heap.size := by have := HPZ.out.size; omega
              have HPY : Hid (Pz base sb V Y) := HPZ.out.trans (Pz.of_below hbY hwrb)
              have HSY : Hid (StrP Y base sb f (32 + p)) := HST.out.to hbY
              have hcs : cb ≠ sb := by have := HPZ.out.size; omega
              have hYb : base ≤ Y.heap.size := by have := hbY.size; omega
              rw [← hcb]
              clear hY hbY hcb HST HPZ c0 c1 c2 c3 c4 q5 qc
              have cy : Y.cell? ⟨cb, 4, none⟩ = some (.int .i64 (z4 : Int)) := HCB.out.cell rfl
              go_wp2_with fail
              go_at_call 12
              refine (PC0.out _ HSY.out).mono ?_
              rintro e Y1 ⟨⟨u1, rfl⟩, hs1, hp1⟩
              have HS1 : Hid (StrP Y1 base sb f (32 + (p + 16 + 0 * kk))) := by rw [Nat.zero_mul, Nat.add_zero]; exact hs1
              have HP1 := hidden hp1
              clear hs1 hp1 cy HSY PC0
              go_wp2_with fail
              go_loopw [10] (fun i' w' => ∃ (j : Nat), j ≤ 4 ∧ i' = .int .i64 j ∧ Hid (StrP w' base sb f (32 + (p + 16 + j * kk))) ∧ Hid (Pz base sb Y w')) (fun i' _ => 4 - (intOf i').toNat)
              case atStart => exact ⟨0, Nat.zero_le _, rfl, HS1.out, HP1.out⟩
              case round =>
                clear HS1 HP1
                obtain ⟨j, hj, rfl, HSJ, HPJ⟩ := hrel
                by_cases hlt3 : j < 4
                · have hltI3 : (j : Int) < 4 := by omega
                  have ej : IntKind.i64.wrap ((j : Int) + 1) = (j : Int) + 1 := wrapI _ (by omega) (by omega)
                  obtain ⟨zz, hzz⟩ : ∃ z, z = nm (p + 16 + j * kk) kk := ⟨_, rfl⟩
                  obtain ⟨q, hq⟩ : ∃ q, q = 32 + (p + 16 + j * kk) := ⟨_, rfl⟩
                  have HCJ : Hid (∀ w', Pz base sb Y w' → w'.cell? ⟨cb, j, none⟩ = some (.int .i64 (zz : Int))) := fun w' hw' => by
                    refine (hw'.typ _ _ _ (by decide) hcs HCB.out).cell ?_
                    rw [hzz, ← HZS.out j hlt3]
                    rcases (show j = 0 ∨ j = 1 ∨ j = 2 ∨ j = 3 by omega) with rfl | rfl | rfl | rfl <;> rfl
                  have hjk : j * kk ≤ 4 * 16 := Nat.mul_le_mul (by omega) hkl
                  have HNQ : Hid (32 + (p + 16 + (j + 1) * kk) = 32 + (p + 16 + j * kk + kk)) := by show _ = _; rw [Nat.add_mul, Nat.one_mul]; omega
                  have PUTC : Hid (∀ w', StrP w' base sb f q → Calls Tryd.prog 12 #[.pointer (some ⟨sb, 0, none⟩), .int .i64 (zz : Int), .int .i64 (kk : Int)] w' fun e w'' => (∃ u, e = .returned u) ∧ StrP w'' base sb f (32 + (p + 16 + j * kk + kk)) ∧ Pz base sb w' w'') := fun w' hw' => by rw [hq] at hw'; rw [hzz]; exact PUTN.out base sb (p + 16 + j * kk) kk w' hbsb hw' hkl (by omega)
                  rw [← hq] at HSJ
                  have HP0 : Hid (Pz base sb Y wr.drew) := HPJ.out.drew
                  have HS0 : Hid (StrP wr.drew base sb f q) := HSJ.out.drew
                  have KS : Hid (∀ w', Pz base sb Y w' → (fun w' => w'.cell? ⟨cb, j, none⟩ = some (.int .i64 (zz : Int)) ∧ w'.cell? ⟨sx, 0, none⟩ = some (.int .i64 N.sh.ins) ∧ w'.cell? ⟨sx, 1, none⟩ = some (.int .i64 N.sh.outs) ∧ w'.cell? ⟨sx, 2, none⟩ = some (.int .i64 N.sh.regs) ∧ w'.cell? ⟨sx, 3, none⟩ = some (.int .i64 N.sh.rows) ∧ w'.cell? ⟨sx, 4, none⟩ = some (.int .i64 N.sh.cols)) w') := fun w' hw' => ⟨HCJ.out w' hw', (hw'.typ _ _ _ (by decide) hxs (HPY.out.typ _ _ _ (by decide) hxs HSX.out)).cell (i := 0) rfl, (hw'.typ _ _ _ (by decide) hxs (HPY.out.typ _ _ _ (by decide) hxs HSX.out)).cell (i := 1) rfl, (hw'.typ _ _ _ (by decide) hxs (HPY.out.typ _ _ _ (by decide) hxs HSX.out)).cell (i := 2) rfl, (hw'.typ _ _ _ (by decide) hxs (HPY.out.typ _ _ _ (by decide) hxs HSX.out)).cell (i := 3) rfl, (hw'.typ _ _ _ (by decide) hxs (HPY.out.typ _ _ _ (by decide) hxs HSX.out)).cell (i := 4) rfl⟩
                  clear hzz hq hjk
                  go_wp2_with fail
                  refine wp_region_noPanic ?_
                  refine wp_region_held_drew (S := (fun w' => w'.cell? ⟨cb, j, none⟩ = some (.int .i64 (zz : Int)) ∧ w'.cell? ⟨sx, 0, none⟩ = some (.int .i64 N.sh.ins) ∧ w'.cell? ⟨sx, 1, none⟩ = some (.int .i64 N.sh.outs) ∧ w'.cell? ⟨sx, 2, none⟩ = some (.int .i64 N.sh.regs) ∧ w'.cell? ⟨sx, 3, none⟩ = some (.int .i64 N.sh.rows) ∧ w'.cell? ⟨sx, 4, none⟩ = some (.int .i64 N.sh.cols))) (by kernel_rfl) (by first | assumption | exact KS.out _ HP0.out | exact KS.out _ HP1.out | exact KS.out _ HP2.out | exact KS.out _ HP3.out) (fun hHeld => ?_)
                  refine wpAnyH_take (i := 0) (oi := _) (v := ?_) rfl (by kernel_rfl) (by kernel_rfl) (by kernel_rfl) (fun _ _ _ h => h) (Or.inl ⟨by rfl, ?_⟩) (by assumption) ?_
                  rotate_left
                  · (intro w0 hSw; (try dsimp only at hSw); (try simp only [List.getElem_toArray, List.getElem_cons_zero]); go_simp; try (with_reducible rfl))
                  try simp only [Act.put, List.getElem_toArray, List.getElem_cons_zero, List.setIfInBounds_toArray, List.set_cons_zero, List.set_cons_succ]
                  refine wpAnyH_take (i := 1) (oi := _) (v := ?_) rfl (by kernel_rfl) (by kernel_rfl) (by kernel_rfl) (fun _ _ _ h => h) (Or.inl ⟨by rfl, ?_⟩) (by assumption) ?_
                  rotate_left
                  · (intro w0 hSw; (try dsimp only at hSw); (try simp only [List.getElem_toArray, List.getElem_cons_zero, List.getElem_cons_succ]); go_simp; try (with_reducible rfl))
                  try simp only [Act.put, List.getElem_toArray, List.getElem_cons_zero, List.getElem_cons_succ, List.setIfInBounds_toArray, List.set_cons_zero, List.set_cons_succ]
                  refine wpAnyH_take (i := 2) (oi := _) (v := ?_) rfl (by kernel_rfl) (by kernel_rfl) (by kernel_rfl) (fun _ _ _ h => h) (Or.inl ⟨by rfl, ?_⟩) (by assumption) ?_
                  rotate_left
                  · (intro w0 hSw; (try dsimp only at hSw); (try simp only [List.getElem_toArray, List.getElem_cons_zero, List.getElem_cons_succ]); go_simp; try (with_reducible rfl))
                  try simp only [Act.put, List.getElem_toArray, List.getElem_cons_zero, List.getElem_cons_succ, List.setIfInBounds_toArray, List.set_cons_zero, List.set_cons_succ]
                  refine wpAnyH_take (i := 3) (oi := _) (v := ?_) rfl (by kernel_rfl) (by kernel_rfl) (by kernel_rfl) (fun _ _ _ h => h) (Or.inl ⟨by rfl, ?_⟩) (by assumption) ?_
                  rotate_left
                  · (intro w0 hSw; (try dsimp only at hSw); (try simp only [List.getElem_toArray, List.getElem_cons_zero, List.getElem_cons_succ]); go_simp; try (with_reducible rfl))
                  try simp only [Act.put, List.getElem_toArray, List.getElem_cons_zero, List.getElem_cons_succ, List.setIfInBounds_toArray, List.set_cons_zero, List.set_cons_succ]
                  refine wpAnyH_take (i := 4) (oi := _) (v := ?_) rfl (by kernel_rfl) (by kernel_rfl) (by kernel_rfl) (fun _ _ _ h => h) (Or.inl ⟨by rfl, ?_⟩) (by assumption) ?_
                  rotate_left
                  · (intro w0 hSw; (try dsimp only at hSw); (try simp only [List.getElem_toArray, List.getElem_cons_zero, List.getElem_cons_succ]); go_simp; try (with_reducible rfl))
                  try simp only [Act.put, List.getElem_toArray, List.getElem_cons_zero, List.getElem_cons_succ, List.setIfInBounds_toArray, List.set_cons_zero, List.set_cons_succ]
                  refine wpAnyH_take (i := 5) (oi := _) (v := ?_) rfl (by kernel_rfl) (by kernel_rfl) (by kernel_rfl) (fun _ _ _ h => h) (Or.inl ⟨by rfl, ?_⟩) (by assumption) ?_
                  rotate_left
                  · (intro w0 hSw; (try dsimp only at hSw); (try simp only [List.getElem_toArray, List.getElem_cons_zero, List.getElem_cons_succ]); go_simp; try (with_reducible rfl))
                  try simp only [Act.put, List.getElem_toArray, List.getElem_cons_zero, List.getElem_cons_succ, List.setIfInBounds_toArray, List.set_cons_zero, List.set_cons_succ]
                  refine wpAnyH_take (i := 6) (oi := _) (v := ?_) rfl (by kernel_rfl) (by kernel_rfl) (by kernel_rfl) (fun _ _ _ h => h) (Or.inl ⟨by rfl, ?_⟩) (by assumption) ?_
                  rotate_left
                  · (intro w0 hSw; (try dsimp only at hSw); (try simp only [List.getElem_toArray, List.getElem_cons_zero, List.getElem_cons_succ]); go_simp; try (with_reducible rfl))
                  try simp only [Act.put, List.getElem_toArray, List.getElem_cons_zero, List.getElem_cons_succ, List.setIfInBounds_toArray, List.set_cons_zero, List.set_cons_succ]
                  refine wpAnyH_ready (rs := [7]) (by kernel_rfl) (by simp) ?_
                  refine AllReadyH.cons (o := _) rfl (fun K hK => ?_) AllReadyH.nil
                  (try simp only [List.getElem_toArray, List.getElem_cons_zero, List.getElem_cons_succ])
                  go_simp
                  go_at_call 14
                  refine (SRCC.out _).mono ?_
                  rintro e v1 ⟨rfl, hb1⟩
                  have HP1 : Hid (Pz base sb Y v1) := HP0.out.trans (Pz.of_below hb1 (by have := HP0.out.size; omega))
                  have HS1 : Hid (StrP v1 base sb f q) := HS0.out.to hb1
                  clear hb1
                  go_wp2_with fail
                  refine hK.out _ _ (by first | assumption | exact KS.out _ HP0.out | exact KS.out _ HP1.out | exact KS.out _ HP2.out | exact KS.out _ HP3.out) (fun hHeld1 => ?_)
                  clear hK K
                  (try simp only [Act.put]); (try simp only [List.setIfInBounds_toArray]); (try simp only [List.set_cons_zero, List.set_cons_succ])
                  refine wpAnyH_ready (rs := [8]) (by kernel_rfl) (by simp) ?_
                  refine AllReadyH.cons (o := _) rfl (fun K hK => ?_) AllReadyH.nil
                  (try simp only [List.getElem_toArray, List.getElem_cons_zero, List.getElem_cons_succ])
                  go_simp
                  go_at_call 13
                  refine (BITC.out _).mono ?_
                  rintro e v2 ⟨rfl, hv2⟩
                  have HP2 : Hid (Pz base sb Y v2) := by rw [hv2]; exact HP1.out
                  have HS2 : Hid (StrP v2 base sb f q) := by rw [hv2]; exact HS1.out
                  clear hv2
                  go_wp2_with fail
                  refine hK.out _ _ (by first | assumption | exact KS.out _ HP0.out | exact KS.out _ HP1.out | exact KS.out _ HP2.out | exact KS.out _ HP3.out) (fun hHeld2 => ?_)
                  clear hK K
                  (try simp only [Act.put]); (try simp only [List.setIfInBounds_toArray]); (try simp only [List.set_cons_zero, List.set_cons_succ])
                  refine wpAnyH_ready (rs := [9]) (by kernel_rfl) (by simp) ?_
                  refine AllReadyH.cons (o := _) rfl (fun K hK => ?_) AllReadyH.nil
                  (try simp only [List.getElem_toArray, List.getElem_cons_zero, List.getElem_cons_succ])
                  go_simp
                  go_at_call 12
                  refine (PUTC.out _ HS2.out).mono ?_
                  rintro e v3 ⟨⟨u3, rfl⟩, hs3, hp3⟩
                  have HP3 : Hid (Pz base sb Y v3) := HP2.out.trans hp3
                  have HS3 := hidden hs3
                  clear hs3 hp3
                  go_wp2_with fail
                  refine hK.out _ _ (by first | assumption | exact KS.out _ HP0.out | exact KS.out _ HP1.out | exact KS.out _ HP2.out | exact KS.out _ HP3.out) (fun hHeld3 => ?_)
                  clear hK K
                  (try simp only [Act.put]); (try simp only [List.setIfInBounds_toArray]); (try simp only [List.set_cons_zero, List.set_cons_succ])
                  refine wpAnyH_done (by kernel_rfl) ?_ _
                  refine NoPanic.normal ?_
                  go_wp2_with fail
                  go_roundw
                  case measure => simp [intOf]; omega
                  case rel => exact ⟨j + 1, by omega, by simp, by rw [HNQ.out]; exact HS3.out, HP3.out⟩
                · have hge3 : ¬ ((j : Int) < 4) := by omega
                  have HSE : Hid (StrP wr base sb f (32 + (pos + (k + 1) * cw kk))) := by rw [HNK.out, ← show j = 4 by omega]; exact HSJ.out
                  have HPE : Hid (Pz base sb V wr) := HPY.out.trans HPJ.out
                  clear HSJ HPJ
                  go_wp2
                  go_roundw
                  case measure => simp [intOf]; omega
                  case rel => exact ⟨k + 1, by omega, by simp, HSE.out, HPE.out⟩
            · have hge2 : ¬ ((k : Int) < (nw : Int)) := by omega
              have HSE : Hid (StrP wr base sb f (32 + posC nw k0 k1 (i + 1))) := by rw [HNX.out, ← show k = nw by omega]; exact HST.out
              clear HST
              go_wp2
              go_roundw
              case measure => simp [intOf]; omega
              case rel => exact ⟨i + 1, by omega, by simp, HSE.out, HPZ.out⟩
        · have hge : ¬ ((i : Int) < (nc : Int)) := by omega
          have HSE : Hid (StrP wr base sb f (32 + (P + 0 * (1 + k1)))) := by rw [Nat.zero_mul, Nat.add_zero, HPP.out, ← show i = nc by omega]; exact HST.out
          have HPE := HPZ
          clear HST HPZ hlt hi
          obtain ⟨V2, hV2⟩ : ∃ x, x = wr := ⟨_, rfl⟩
          rw [← hV2] at HSE HPE q5
          rw [← hV2]
          clear hV2
          have q6 := (HXV.out.pz hpb HPE.out).c6
          go_wp2_with fail
          clear q6 q5
          have SRCC : Hid (∀ w', Calls Tryd.prog 14 #[.agg #[.int .i64 N.sh.ins, .int .i64 N.sh.outs, .int .i64 N.sh.regs, .int .i64 N.sh.rows, .int .i64 N.sh.cols], .int .i64 (-1)] w' fun e w'' => e = .returned (.int .i64 (s1 : Int)) ∧ Below w'.heap.size w' w'') := fun w' => by rw [← HSX1.out]; exact sources_doc w' N.sh (-1) HFIT.out
          have BITC : Hid (∀ w', Calls Tryd.prog 13 #[.int .i64 (s1 : Int)] w' fun e w'' => e = .returned (.int .i64 (k1 : Int)) ∧ w'' = w') := fun w' => by rw [← HW1.out, ← HS1E.out]; exact bits_doc w' s1 (by have := HS1E.out; omega)
          go_loopw [11] (fun i' w' => ∃ (j : Nat), j ≤ nr ∧ i' = .int .i64 j ∧ Hid (StrP w' base sb f (32 + (P + j * (1 + k1)))) ∧ Hid (Pz base sb V w')) (fun i' _ => nr - (intOf i').toNat)
          case atStart => exact ⟨0, Nat.zero_le _, rfl, HSE.out, HPE.out⟩
          case round =>
            clear HSE HPE
            obtain ⟨j, hj, rfl, HST, HPZ⟩ := hrel
            have q6 := (HXV.out.pz hpb HPZ.out).c6
            rw [HRLN.out] at q6
            by_cases hlt : j < nr
            · have hltI : (j : Int) < (nr : Int) := by omega
              have ej : IntKind.i64.wrap ((j : Int) + 1) = (j : Int) + 1 := wrapI _ (by omega) (by omega)
              obtain ⟨p, hp⟩ : ∃ p, p = P + j * (1 + k1) := ⟨_, rfl⟩
              have hpl : p ≤ 5000080 := by rw [hp]; have : j * (1 + k1) ≤ 500 * 17 := Nat.mul_le_mul (by omega) (by omega); omega
              have HNQ : Hid (P + (j + 1) * (1 + k1) = p + 1 + k1) := by show _ = _; rw [hp, Nat.add_mul, Nat.one_mul]; omega
              obtain ⟨zz, HZZ⟩ : ∃ z, Hid (z = nm (p + 1) k1) := ⟨_, rfl⟩
              have hd : N.regs[j]? = some ⟨(zz : Int), decide (nm p 1 = 1)⟩ := by
                rw [HREG.out, List.getElem?_map, List.getElem?_range hlt, HZZ.out, hp]
                rfl
              obtain ⟨b, o, ea, hlb, hc⟩ := HCV.out.r.el hd
              have KC0 : Hid (∀ w', Pz base sb V w' → w'.cell? ⟨b, o + j * 2, none⟩ = some (.int .i64 (zz : Int))) := fun w' hw' => (hw'.below.cell (p := ⟨b, o + j * 2 + 0, none⟩) (Nat.lt_of_lt_of_le hlb hBb)).trans (hc 0 _ rfl)
              have KC1 : Hid (∀ w', Pz base sb V w' → w'.cell? ⟨b, o + j * 2 + 1, none⟩ = some (.bool (decide (nm p 1 = 1)))) := fun w' hw' => (hw'.below.cell (p := ⟨b, o + j * 2 + 1, none⟩) (Nat.lt_of_lt_of_le hlb hBb)).trans (hc 1 _ rfl)
              have KQ6 : Hid (∀ w', Pz base sb V w' → w'.cell? ⟨pg, 6, none⟩ = some (.slice (some ⟨b, o, none⟩) nr S.c2)) := fun w' hw' => by have := (HXV.out.pz hpb hw').c6; rw [HRLN.out, ea] at this; exact this
              have KS : Hid (∀ w', Pz base sb V w' → (fun w' => w'.cell? ⟨pg, 6, none⟩ = some (.slice (some ⟨b, o, none⟩) nr S.c2) ∧ w'.cell? ⟨b, o + j * 2, none⟩ = some (.int .i64 (zz : Int)) ∧ w'.cell? ⟨sx, 0, none⟩ = some (.int .i64 N.sh.ins) ∧ w'.cell? ⟨sx, 1, none⟩ = some (.int .i64 N.sh.outs) ∧ w'.cell? ⟨sx, 2, none⟩ = some (.int .i64 N.sh.regs) ∧ w'.cell? ⟨sx, 3, none⟩ = some (.int .i64 N.sh.rows) ∧ w'.cell? ⟨sx, 4, none⟩ = some (.int .i64 N.sh.cols)) w') := fun w' hw' => ⟨KQ6.out w' hw', KC0.out w' hw', (hw'.typ _ _ _ (by decide) hxs HSX.out).cell (i := 0) rfl, (hw'.typ _ _ _ (by decide) hxs HSX.out).cell (i := 1) rfl, (hw'.typ _ _ _ (by decide) hxs HSX.out).cell (i := 2) rfl, (hw'.typ _ _ _ (by decide) hxs HSX.out).cell (i := 3) rfl, (hw'.typ _ _ _ (by decide) hxs HSX.out).cell (i := 4) rfl⟩
              have c0 := KC0.out _ HPZ.out
              have c1 := KC1.out _ HPZ.out
              have hl2 := HLT.out p 1
              rw [ea] at q6
              rw [← hp] at HST
              clear hd hc ea hlb hp
              by_cases hini : nm p 1 = 1
              · rw [hini] at c1
                have PC0 : Hid (∀ w', StrP w' base sb f (32 + p) → Calls Tryd.prog 12 #[.pointer (some ⟨sb, 0, none⟩), .int .i64 1, .int .i64 1] w' fun e w'' => (∃ u, e = .returned u) ∧ StrP w'' base sb f (32 + (p + 1)) ∧ Pz base sb w' w'') := fun w' hw' => by
                  have := PUTN.out base sb p 1 w' hbsb hw' (by omega) (by omega)
                  rw [hini] at this
                  exact this
                clear hini
                go_wp2_with fail
                go_at_call 12
                refine (PC0.out _ HST.out).mono ?_
                rintro e Y1 ⟨⟨u1, rfl⟩, hs1, hp1⟩
                have HS1 := hidden hs1
                have HP1' := hidden (HPZ.out.trans hp1)
                clear hs1 hp1 PC0 HST HPZ q6 c0 c1
                obtain ⟨q, hq⟩ : ∃ q, q = 32 + (p + 1) := ⟨_, rfl⟩
                have PUTC : Hid (∀ w', StrP w' base sb f q → Calls Tryd.prog 12 #[.pointer (some ⟨sb, 0, none⟩), .int .i64 (zz : Int), .int .i64 (k1 : Int)] w' fun e w'' => (∃ u, e = .returned u) ∧ StrP w'' base sb f (32 + (p + 1 + k1)) ∧ Pz base sb w' w'') := fun w' hw' => by rw [hq] at hw'; rw [HZZ.out]; exact PUTN.out base sb (p + 1) k1 w' hbsb hw' k1l (by omega)
                rw [← hq] at HS1
                clear hq
                have HP0 : Hid (Pz base sb V Y1.drew) := HP1'.out.drew
                have HS0 : Hid (StrP Y1.drew base sb f q) := HS1.out.drew
                go_wp2_with fail
                refine wp_region_noPanic ?_
                refine wp_region_held_drew (S := (fun w' => w'.cell? ⟨pg, 6, none⟩ = some (.slice (some ⟨b, o, none⟩) nr S.c2) ∧ w'.cell? ⟨b, o + j * 2, none⟩ = some (.int .i64 (zz : Int)) ∧ w'.cell? ⟨sx, 0, none⟩ = some (.int .i64 N.sh.ins) ∧ w'.cell? ⟨sx, 1, none⟩ = some (.int .i64 N.sh.outs) ∧ w'.cell? ⟨sx, 2, none⟩ = some (.int .i64 N.sh.regs) ∧ w'.cell? ⟨sx, 3, none⟩ = some (.int .i64 N.sh.rows) ∧ w'.cell? ⟨sx, 4, none⟩ = some (.int .i64 N.sh.cols))) (by kernel_rfl) (by first | assumption | exact KS.out _ HP0.out | exact KS.out _ HP1.out | exact KS.out _ HP2.out | exact KS.out _ HP3.out) (fun hHeld => ?_)
                refine wpAnyH_take (i := 0) (oi := _) (v := ?_) rfl (by kernel_rfl) (by kernel_rfl) (by kernel_rfl) (fun _ _ _ h => h) (Or.inl ⟨by rfl, ?_⟩) (by assumption) ?_
                rotate_left
                · (intro w0 hSw; (try dsimp only at hSw); (try simp only [List.getElem_toArray, List.getElem_cons_zero]); go_simp; try (with_reducible rfl))
                try simp only [Act.put, List.getElem_toArray, List.getElem_cons_zero, List.setIfInBounds_toArray, List.set_cons_zero, List.set_cons_succ]
                refine wpAnyH_take (i := 1) (oi := _) (v := ?_) rfl (by kernel_rfl) (by kernel_rfl) (by kernel_rfl) (fun _ _ _ h => h) (Or.inl ⟨by rfl, ?_⟩) (by assumption) ?_
                rotate_left
                · (intro w0 hSw; (try dsimp only at hSw); (try simp only [List.getElem_toArray, List.getElem_cons_zero, List.getElem_cons_succ]); go_simp; try (with_reducible rfl))
                try simp only [Act.put, List.getElem_toArray, List.getElem_cons_zero, List.getElem_cons_succ, List.setIfInBounds_toArray, List.set_cons_zero, List.set_cons_succ]
                refine wpAnyH_take (i := 2) (oi := _) (v := ?_) rfl (by kernel_rfl) (by kernel_rfl) (by kernel_rfl) (fun _ _ _ h => h) (Or.inl ⟨by rfl, ?_⟩) (by assumption) ?_
                rotate_left
                · (intro w0 hSw; (try dsimp only at hSw); (try simp only [List.getElem_toArray, List.getElem_cons_zero, List.getElem_cons_succ]); go_simp; try (with_reducible rfl))
                try simp only [Act.put, List.getElem_toArray, List.getElem_cons_zero, List.getElem_cons_succ, List.setIfInBounds_toArray, List.set_cons_zero, List.set_cons_succ]
                refine wpAnyH_take (i := 3) (oi := _) (v := ?_) rfl (by kernel_rfl) (by kernel_rfl) (by kernel_rfl) (fun _ _ _ h => h) (Or.inl ⟨by rfl, ?_⟩) (by assumption) ?_
                rotate_left
                · (intro w0 hSw; (try dsimp only at hSw); (try simp only [List.getElem_toArray, List.getElem_cons_zero, List.getElem_cons_succ]); go_simp; try (with_reducible rfl))
                try simp only [Act.put, List.getElem_toArray, List.getElem_cons_zero, List.getElem_cons_succ, List.setIfInBounds_toArray, List.set_cons_zero, List.set_cons_succ]
                refine wpAnyH_take (i := 4) (oi := _) (v := ?_) rfl (by kernel_rfl) (by kernel_rfl) (by kernel_rfl) (fun _ _ _ h => h) (Or.inl ⟨by rfl, ?_⟩) (by assumption) ?_
                rotate_left
                · (intro w0 hSw; (try dsimp only at hSw); (try simp only [List.getElem_toArray, List.getElem_cons_zero, List.getElem_cons_succ]); go_simp; try (with_reducible rfl))
                try simp only [Act.put, List.getElem_toArray, List.getElem_cons_zero, List.getElem_cons_succ, List.setIfInBounds_toArray, List.set_cons_zero, List.set_cons_succ]
                refine wpAnyH_take (i := 5) (oi := _) (v := ?_) rfl (by kernel_rfl) (by kernel_rfl) (by kernel_rfl) (fun _ _ _ h => h) (Or.inl ⟨by rfl, ?_⟩) (by assumption) ?_
                rotate_left
                · (intro w0 hSw; (try dsimp only at hSw); (try simp only [List.getElem_toArray, List.getElem_cons_zero, List.getElem_cons_succ]); go_simp; try (with_reducible rfl))
                try simp only [Act.put, List.getElem_toArray, List.getElem_cons_zero, List.getElem_cons_succ, List.setIfInBounds_toArray, List.set_cons_zero, List.set_cons_succ]
                refine wpAnyH_take (i := 6) (oi := _) (v := ?_) rfl (by kernel_rfl) (by kernel_rfl) (by kernel_rfl) (fun _ _ _ h => h) (Or.inl ⟨by rfl, ?_⟩) (by assumption) ?_
                rotate_left
                · (intro w0 hSw; (try dsimp only at hSw); (try simp only [List.getElem_toArray, List.getElem_cons_zero, List.getElem_cons_succ]); go_simp; try (with_reducible rfl))
                try simp only [Act.put, List.getElem_toArray, List.getElem_cons_zero, List.getElem_cons_succ, List.setIfInBounds_toArray, List.set_cons_zero, List.set_cons_succ]
                refine wpAnyH_take (i := 7) (oi := _) (v := ?_) rfl (by kernel_rfl) (by kernel_rfl) (by kernel_rfl) (fun _ _ _ h => h) (Or.inl ⟨by rfl, ?_⟩) (by assumption) ?_
                rotate_left
                · (intro w0 hSw; (try dsimp only at hSw); (try simp only [List.getElem_toArray, List.getElem_cons_zero, List.getElem_cons_succ]); go_simp; try (with_reducible rfl))
                try simp only [Act.put, List.getElem_toArray, List.getElem_cons_zero, List.getElem_cons_succ, List.setIfInBounds_toArray, List.set_cons_zero, List.set_cons_succ]
                refine wpAnyH_ready (rs := [8]) (by kernel_rfl) (by simp) ?_
                refine AllReadyH.cons (o := _) rfl (fun K hK => ?_) AllReadyH.nil
                (try simp only [List.getElem_toArray, List.getElem_cons_zero, List.getElem_cons_succ])
                go_simp
                go_at_call 14
                refine (SRCC.out _).mono ?_
                rintro e v1 ⟨rfl, hb1⟩
                have HP1 : Hid (Pz base sb V v1) := HP0.out.trans (Pz.of_below hb1 (by have := HP0.out.size; omega))
                have HS1 : Hid (StrP v1 base sb f q) := HS0.out.to hb1
                clear hb1
                go_wp2_with fail
                refine hK.out _ _ (by first | assumption | exact KS.out _ HP0.out | exact KS.out _ HP1.out | exact KS.out _ HP2.out | exact KS.out _ HP3.out) (fun hHeld1 => ?_)
                clear hK K
                (try simp only [Act.put]); (try simp only [List.setIfInBounds_toArray]); (try simp only [List.set_cons_zero, List.set_cons_succ])
                refine wpAnyH_ready (rs := [9]) (by kernel_rfl) (by simp) ?_
                refine AllReadyH.cons (o := _) rfl (fun K hK => ?_) AllReadyH.nil
                (try simp only [List.getElem_toArray, List.getElem_cons_zero, List.getElem_cons_succ])
                go_simp
                go_at_call 13
                refine (BITC.out _).mono ?_
                rintro e v2 ⟨rfl, hv2⟩
                have HP2 : Hid (Pz base sb V v2) := by rw [hv2]; exact HP1.out
                have HS2 : Hid (StrP v2 base sb f q) := by rw [hv2]; exact HS1.out
                clear hv2
                go_wp2_with fail
                refine hK.out _ _ (by first | assumption | exact KS.out _ HP0.out | exact KS.out _ HP1.out | exact KS.out _ HP2.out | exact KS.out _ HP3.out) (fun hHeld2 => ?_)
                clear hK K
                (try simp only [Act.put]); (try simp only [List.setIfInBounds_toArray]); (try simp only [List.set_cons_zero, List.set_cons_succ])
                refine wpAnyH_ready (rs := [10]) (by kernel_rfl) (by simp) ?_
                refine AllReadyH.cons (o := _) rfl (fun K hK => ?_) AllReadyH.nil
                (try simp only [List.getElem_toArray, List.getElem_cons_zero, List.getElem_cons_succ])
                go_simp
                go_at_call 12
                refine (PUTC.out _ HS2.out).mono ?_
                rintro e v3 ⟨⟨u3, rfl⟩, hs3, hp3⟩
                have HP3 : Hid (Pz base sb V v3) := HP2.out.trans hp3
                have HS3 := hidden hs3
                clear hs3 hp3
                go_wp2_with fail
                refine hK.out _ _ (by first | assumption | exact KS.out _ HP0.out | exact KS.out _ HP1.out | exact KS.out _ HP2.out | exact KS.out _ HP3.out) (fun hHeld3 => ?_)
                clear hK K
                (try simp only [Act.put]); (try simp only [List.setIfInBounds_toArray]); (try simp only [List.set_cons_zero, List.set_cons_succ])
                refine wpAnyH_done (by kernel_rfl) ?_ _
                refine NoPanic.normal ?_
                go_wp2_with fail
                go_roundw
                case measure => simp [intOf]; omega
                case rel => exact ⟨j + 1, by omega, by simp, by rw [HNQ.out]; exact HS3.out, HP3.out⟩
              · have hini : nm p 1 = 0 := by omega
                rw [hini] at c1
                have PC0 : Hid (∀ w', StrP w' base sb f (32 + p) → Calls Tryd.prog 12 #[.pointer (some ⟨sb, 0, none⟩), .int .i64 0, .int .i64 1] w' fun e w'' => (∃ u, e = .returned u) ∧ StrP w'' base sb f (32 + (p + 1)) ∧ Pz base sb w' w'') := fun w' hw' => by
                  have := PUTN.out base sb p 1 w' hbsb hw' (by omega) (by omega)
                  rw [hini] at this
                  exact this
                clear hini
                go_wp2_with fail
                go_at_call 12
                refine (PC0.out _ HST.out).mono ?_
                rintro e Y1 ⟨⟨u1, rfl⟩, hs1, hp1⟩
                have HS1 := hidden hs1
                have HP1' := hidden (HPZ.out.trans hp1)
                clear hs1 hp1 PC0 HST HPZ q6 c0 c1
                obtain ⟨q, hq⟩ : ∃ q, q = 32 + (p + 1) := ⟨_, rfl⟩
                have PUTC : Hid (∀ w', StrP w' base sb f q → Calls Tryd.prog 12 #[.pointer (some ⟨sb, 0, none⟩), .int .i64 (zz : Int), .int .i64 (k1 : Int)] w' fun e w'' => (∃ u, e = .returned u) ∧ StrP w'' base sb f (32 + (p + 1 + k1)) ∧ Pz base sb w' w'') := fun w' hw' => by rw [hq] at hw'; rw [HZZ.out]; exact PUTN.out base sb (p + 1) k1 w' hbsb hw' k1l (by omega)
                rw [← hq] at HS1
                clear hq
                have HP0 : Hid (Pz base sb V Y1.drew) := HP1'.out.drew
                have HS0 : Hid (StrP Y1.drew base sb f q) := HS1.out.drew
                go_wp2_with fail
                refine wp_region_noPanic ?_
                refine wp_region_held_drew (S := (fun w' => w'.cell? ⟨pg, 6, none⟩ = some (.slice (some ⟨b, o, none⟩) nr S.c2) ∧ w'.cell? ⟨b, o + j * 2, none⟩ = some (.int .i64 (zz : Int)) ∧ w'.cell? ⟨sx, 0, none⟩ = some (.int .i64 N.sh.ins) ∧ w'.cell? ⟨sx, 1, none⟩ = some (.int .i64 N.sh.outs) ∧ w'.cell? ⟨sx, 2, none⟩ = some (.int .i64 N.sh.regs) ∧ w'.cell? ⟨sx, 3, none⟩ = some (.int .i64 N.sh.rows) ∧ w'.cell? ⟨sx, 4, none⟩ = some (.int .i64 N.sh.cols))) (by kernel_rfl) (by first | assumption | exact KS.out _ HP0.out | exact KS.out _ HP1.out | exact KS.out _ HP2.out | exact KS.out _ HP3.out) (fun hHeld => ?_)
                refine wpAnyH_take (i := 0) (oi := _) (v := ?_) rfl (by kernel_rfl) (by kernel_rfl) (by kernel_rfl) (fun _ _ _ h => h) (Or.inl ⟨by rfl, ?_⟩) (by assumption) ?_
                rotate_left
                · (intro w0 hSw; (try dsimp only at hSw); (try simp only [List.getElem_toArray, List.getElem_cons_zero]); go_simp; try (with_reducible rfl))
                try simp only [Act.put, List.getElem_toArray, List.getElem_cons_zero, List.setIfInBounds_toArray, List.set_cons_zero, List.set_cons_succ]
                refine wpAnyH_take (i := 1) (oi := _) (v := ?_) rfl (by kernel_rfl) (by kernel_rfl) (by kernel_rfl) (fun _ _ _ h => h) (Or.inl ⟨by rfl, ?_⟩) (by assumption) ?_
                rotate_left
                · (intro w0 hSw; (try dsimp only at hSw); (try simp only [List.getElem_toArray, List.getElem_cons_zero, List.getElem_cons_succ]); go_simp; try (with_reducible rfl))
                try simp only [Act.put, List.getElem_toArray, List.getElem_cons_zero, List.getElem_cons_succ, List.setIfInBounds_toArray, List.set_cons_zero, List.set_cons_succ]
                refine wpAnyH_take (i := 2) (oi := _) (v := ?_) rfl (by kernel_rfl) (by kernel_rfl) (by kernel_rfl) (fun _ _ _ h => h) (Or.inl ⟨by rfl, ?_⟩) (by assumption) ?_
                rotate_left
                · (intro w0 hSw; (try dsimp only at hSw); (try simp only [List.getElem_toArray, List.getElem_cons_zero, List.getElem_cons_succ]); go_simp; try (with_reducible rfl))
                try simp only [Act.put, List.getElem_toArray, List.getElem_cons_zero, List.getElem_cons_succ, List.setIfInBounds_toArray, List.set_cons_zero, List.set_cons_succ]
                refine wpAnyH_take (i := 3) (oi := _) (v := ?_) rfl (by kernel_rfl) (by kernel_rfl) (by kernel_rfl) (fun _ _ _ h => h) (Or.inl ⟨by rfl, ?_⟩) (by assumption) ?_
                rotate_left
                · (intro w0 hSw; (try dsimp only at hSw); (try simp only [List.getElem_toArray, List.getElem_cons_zero, List.getElem_cons_succ]); go_simp; try (with_reducible rfl))
                try simp only [Act.put, List.getElem_toArray, List.getElem_cons_zero, List.getElem_cons_succ, List.setIfInBounds_toArray, List.set_cons_zero, List.set_cons_succ]
                refine wpAnyH_take (i := 4) (oi := _) (v := ?_) rfl (by kernel_rfl) (by kernel_rfl) (by kernel_rfl) (fun _ _ _ h => h) (Or.inl ⟨by rfl, ?_⟩) (by assumption) ?_
                rotate_left
                · (intro w0 hSw; (try dsimp only at hSw); (try simp only [List.getElem_toArray, List.getElem_cons_zero, List.getElem_cons_succ]); go_simp; try (with_reducible rfl))
                try simp only [Act.put, List.getElem_toArray, List.getElem_cons_zero, List.getElem_cons_succ, List.setIfInBounds_toArray, List.set_cons_zero, List.set_cons_succ]
                refine wpAnyH_take (i := 5) (oi := _) (v := ?_) rfl (by kernel_rfl) (by kernel_rfl) (by kernel_rfl) (fun _ _ _ h => h) (Or.inl ⟨by rfl, ?_⟩) (by assumption) ?_
                rotate_left
                · (intro w0 hSw; (try dsimp only at hSw); (try simp only [List.getElem_toArray, List.getElem_cons_zero, List.getElem_cons_succ]); go_simp; try (with_reducible rfl))
                try simp only [Act.put, List.getElem_toArray, List.getElem_cons_zero, List.getElem_cons_succ, List.setIfInBounds_toArray, List.set_cons_zero, List.set_cons_succ]
                refine wpAnyH_take (i := 6) (oi := _) (v := ?_) rfl (by kernel_rfl) (by kernel_rfl) (by kernel_rfl) (fun _ _ _ h => h) (Or.inl ⟨by rfl, ?_⟩) (by assumption) ?_
                rotate_left
                · (intro w0 hSw; (try dsimp only at hSw); (try simp only [List.getElem_toArray, List.getElem_cons_zero, List.getElem_cons_succ]); go_simp; try (with_reducible rfl))
                try simp only [Act.put, List.getElem_toArray, List.getElem_cons_zero, List.getElem_cons_succ, List.setIfInBounds_toArray, List.set_cons_zero, List.set_cons_succ]
                refine wpAnyH_take (i := 7) (oi := _) (v := ?_) rfl (by kernel_rfl) (by kernel_rfl) (by kernel_rfl) (fun _ _ _ h => h) (Or.inl ⟨by rfl, ?_⟩) (by assumption) ?_
                rotate_left
                · (intro w0 hSw; (try dsimp only at hSw); (try simp only [List.getElem_toArray, List.getElem_cons_zero, List.getElem_cons_succ]); go_simp; try (with_reducible rfl))
                try simp only [Act.put, List.getElem_toArray, List.getElem_cons_zero, List.getElem_cons_succ, List.setIfInBounds_toArray, List.set_cons_zero, List.set_cons_succ]
                refine wpAnyH_ready (rs := [8]) (by kernel_rfl) (by simp) ?_
                refine AllReadyH.cons (o := _) rfl (fun K hK => ?_) AllReadyH.nil
                (try simp only [List.getElem_toArray, List.getElem_cons_zero, List.getElem_cons_succ])
                go_simp
                go_at_call 14
                refine (SRCC.out _).mono ?_
                rintro e v1 ⟨rfl, hb1⟩
                have HP1 : Hid (Pz base sb V v1) := HP0.out.trans (Pz.of_below hb1 (by have := HP0.out.size; omega))
                have HS1 : Hid (StrP v1 base sb f q) := HS0.out.to hb1
                clear hb1
                go_wp2_with fail
                refine hK.out _ _ (by first | assumption | exact KS.out _ HP0.out | exact KS.out _ HP1.out | exact KS.out _ HP2.out | exact KS.out _ HP3.out) (fun hHeld1 => ?_)
                clear hK K
                (try simp only [Act.put]); (try simp only [List.setIfInBounds_toArray]); (try simp only [List.set_cons_zero, List.set_cons_succ])
                refine wpAnyH_ready (rs := [9]) (by kernel_rfl) (by simp) ?_
                refine AllReadyH.cons (o := _) rfl (fun K hK => ?_) AllReadyH.nil
                (try simp only [List.getElem_toArray, List.getElem_cons_zero, List.getElem_cons_succ])
                go_simp
                go_at_call 13
                refine (BITC.out _).mono ?_
                rintro e v2 ⟨rfl, hv2⟩
                have HP2 : Hid (Pz base sb V v2) := by rw [hv2]; exact HP1.out
                have HS2 : Hid (StrP v2 base sb f q) := by rw [hv2]; exact HS1.out
                clear hv2
                go_wp2_with fail
                refine hK.out _ _ (by first | assumption | exact KS.out _ HP0.out | exact KS.out _ HP1.out | exact KS.out _ HP2.out | exact KS.out _ HP3.out) (fun hHeld2 => ?_)
                clear hK K
                (try simp only [Act.put]); (try simp only [List.setIfInBounds_toArray]); (try simp only [List.set_cons_zero, List.set_cons_succ])
                refine wpAnyH_ready (rs := [10]) (by kernel_rfl) (by simp) ?_
                refine AllReadyH.cons (o := _) rfl (fun K hK => ?_) AllReadyH.nil
                (try simp only [List.getElem_toArray, List.getElem_cons_zero, List.getElem_cons_succ])
                go_simp
                go_at_call 12
                refine (PUTC.out _ HS2.out).mono ?_
                rintro e v3 ⟨⟨u3, rfl⟩, hs3, hp3⟩
                have HP3 : Hid (Pz base sb V v3) := HP2.out.trans hp3
                have HS3 := hidden hs3
                clear hs3 hp3
                go_wp2_with fail
                refine hK.out _ _ (by first | assumption | exact KS.out _ HP0.out | exact KS.out _ HP1.out | exact KS.out _ HP2.out | exact KS.out _ HP3.out) (fun hHeld3 => ?_)
                clear hK K
                (try simp only [Act.put]); (try simp only [List.setIfInBounds_toArray]); (try simp only [List.set_cons_zero, List.set_cons_succ])
                refine wpAnyH_done (by kernel_rfl) ?_ _
                refine NoPanic.normal ?_
                go_wp2_with fail
                go_roundw
                case measure => simp [intOf]; omega
                case rel => exact ⟨j + 1, by omega, by simp, by rw [HNQ.out]; exact HS3.out, HP3.out⟩
            · have hge : ¬ ((j : Int) < (nr : Int)) := by omega
              have HSE : Hid (StrP wr base sb f (32 + (Qo + 0 * k1))) := by rw [Nat.zero_mul, Nat.add_zero, HQQ.out, ← show j = nr by omega]; exact HST.out
              have HPE := HPZ
              clear HST HPZ hlt hj
              obtain ⟨V3, hV3⟩ : ∃ x, x = wr := ⟨_, rfl⟩
              rw [← hV3] at HSE HPE q6
              rw [← hV3]
              clear hV3
              have q7 := (HXV.out.pz hpb HPE.out).c7
              go_wp2_with fail
              clear q7 q6
              go_loopw [13] (fun i' w' => ∃ (j : Nat), j ≤ no ∧ i' = .int .i64 j ∧ Hid (StrP w' base sb f (32 + (Qo + j * k1))) ∧ Hid (Pz base sb V w')) (fun i' _ => no - (intOf i').toNat)
              case atStart => exact ⟨0, Nat.zero_le _, rfl, HSE.out, HPE.out⟩
              case round =>
                clear HSE HPE
                obtain ⟨j, hj, rfl, HST, HPZ⟩ := hrel
                have q7 := (HXV.out.pz hpb HPZ.out).c7
                rw [HOLN.out] at q7
                by_cases hlt : j < no
                · have hltI : (j : Int) < (no : Int) := by omega
                  have ej : IntKind.i64.wrap ((j : Int) + 1) = (j : Int) + 1 := wrapI _ (by omega) (by omega)
                  obtain ⟨p, hp⟩ : ∃ p, p = Qo + j * k1 := ⟨_, rfl⟩
                  have hpl : p ≤ 6000080 := by rw [hp]; have : j * k1 ≤ 500 * 16 := Nat.mul_le_mul (by omega) k1l; omega
                  have HNQ : Hid (Qo + (j + 1) * k1 = p + k1) := by show _ = _; rw [hp, Nat.add_mul, Nat.one_mul]; omega
                  obtain ⟨zz, HZZ⟩ : ∃ z, Hid (z = nm p k1) := ⟨_, rfl⟩
                  have hd : N.outs[j]? = some (zz : Int) := by
                    rw [HOUT.out, List.getElem?_map, List.getElem?_range hlt, HZZ.out, hp]
                    rfl
                  obtain ⟨b, o, ea, hlb, hc⟩ := HCV.out.o.int hd
                  have KC0 : Hid (∀ w', Pz base sb V w' → w'.cell? ⟨b, o + j, none⟩ = some (.int .i64 (zz : Int))) := fun w' hw' => (hw'.below.cell (p := ⟨b, o + j, none⟩) (Nat.lt_of_lt_of_le hlb hBb)).trans hc
                  have KQ7 : Hid (∀ w', Pz base sb V w' → w'.cell? ⟨pg, 7, none⟩ = some (.slice (some ⟨b, o, none⟩) no S.c3)) := fun w' hw' => by have := (HXV.out.pz hpb hw').c7; rw [HOLN.out, ea] at this; exact this
                  have KS : Hid (∀ w', Pz base sb V w' → (fun w' => w'.cell? ⟨pg, 7, none⟩ = some (.slice (some ⟨b, o, none⟩) no S.c3) ∧ w'.cell? ⟨b, o + j, none⟩ = some (.int .i64 (zz : Int)) ∧ w'.cell? ⟨sx, 0, none⟩ = some (.int .i64 N.sh.ins) ∧ w'.cell? ⟨sx, 1, none⟩ = some (.int .i64 N.sh.outs) ∧ w'.cell? ⟨sx, 2, none⟩ = some (.int .i64 N.sh.regs) ∧ w'.cell? ⟨sx, 3, none⟩ = some (.int .i64 N.sh.rows) ∧ w'.cell? ⟨sx, 4, none⟩ = some (.int .i64 N.sh.cols)) w') := fun w' hw' => ⟨KQ7.out w' hw', KC0.out w' hw', (hw'.typ _ _ _ (by decide) hxs HSX.out).cell (i := 0) rfl, (hw'.typ _ _ _ (by decide) hxs HSX.out).cell (i := 1) rfl, (hw'.typ _ _ _ (by decide) hxs HSX.out).cell (i := 2) rfl, (hw'.typ _ _ _ (by decide) hxs HSX.out).cell (i := 3) rfl, (hw'.typ _ _ _ (by decide) hxs HSX.out).cell (i := 4) rfl⟩
                  rw [ea] at q7
                  rw [← hp] at HST
                  clear hd hc ea hlb hp
                  obtain ⟨q, hq⟩ : ∃ q, q = 32 + p := ⟨_, rfl⟩
                  have PUTC : Hid (∀ w', StrP w' base sb f q → Calls Tryd.prog 12 #[.pointer (some ⟨sb, 0, none⟩), .int .i64 (zz : Int), .int .i64 (k1 : Int)] w' fun e w'' => (∃ u, e = .returned u) ∧ StrP w'' base sb f (32 + (p + k1)) ∧ Pz base sb w' w'') := fun w' hw' => by rw [hq] at hw'; rw [HZZ.out]; exact PUTN.out base sb p k1 w' hbsb hw' k1l (by omega)
                  rw [← hq] at HST
                  clear hq
                  have HP0 : Hid (Pz base sb V wr.drew) := HPZ.out.drew
                  have HS0 : Hid (StrP wr.drew base sb f q) := HST.out.drew
                  go_wp2_with fail
                  clear q7
                  refine wp_region_noPanic ?_
                  refine wp_region_held_drew (S := (fun w' => w'.cell? ⟨pg, 7, none⟩ = some (.slice (some ⟨b, o, none⟩) no S.c3) ∧ w'.cell? ⟨b, o + j, none⟩ = some (.int .i64 (zz : Int)) ∧ w'.cell? ⟨sx, 0, none⟩ = some (.int .i64 N.sh.ins) ∧ w'.cell? ⟨sx, 1, none⟩ = some (.int .i64 N.sh.outs) ∧ w'.cell? ⟨sx, 2, none⟩ = some (.int .i64 N.sh.regs) ∧ w'.cell? ⟨sx, 3, none⟩ = some (.int .i64 N.sh.rows) ∧ w'.cell? ⟨sx, 4, none⟩ = some (.int .i64 N.sh.cols))) (by kernel_rfl) (by first | assumption | exact KS.out _ HP0.out | exact KS.out _ HP1.out | exact KS.out _ HP2.out | exact KS.out _ HP3.out) (fun hHeld => ?_)
                  refine wpAnyH_take (i := 0) (oi := _) (v := ?_) rfl (by kernel_rfl) (by kernel_rfl) (by kernel_rfl) (fun _ _ _ h => h) (Or.inl ⟨by rfl, ?_⟩) (by assumption) ?_
                  rotate_left
                  · (intro w0 hSw; (try dsimp only at hSw); (try simp only [List.getElem_toArray, List.getElem_cons_zero]); go_simp; try (with_reducible rfl))
                  try simp only [Act.put, List.getElem_toArray, List.getElem_cons_zero, List.setIfInBounds_toArray, List.set_cons_zero, List.set_cons_succ]
                  refine wpAnyH_take (i := 1) (oi := _) (v := ?_) rfl (by kernel_rfl) (by kernel_rfl) (by kernel_rfl) (fun _ _ _ h => h) (Or.inl ⟨by rfl, ?_⟩) (by assumption) ?_
                  rotate_left
                  · (intro w0 hSw; (try dsimp only at hSw); (try simp only [List.getElem_toArray, List.getElem_cons_zero, List.getElem_cons_succ]); go_simp; try (with_reducible rfl))
                  try simp only [Act.put, List.getElem_toArray, List.getElem_cons_zero, List.getElem_cons_succ, List.setIfInBounds_toArray, List.set_cons_zero, List.set_cons_succ]
                  refine wpAnyH_take (i := 2) (oi := _) (v := ?_) rfl (by kernel_rfl) (by kernel_rfl) (by kernel_rfl) (fun _ _ _ h => h) (Or.inl ⟨by rfl, ?_⟩) (by assumption) ?_
                  rotate_left
                  · (intro w0 hSw; (try dsimp only at hSw); (try simp only [List.getElem_toArray, List.getElem_cons_zero, List.getElem_cons_succ]); go_simp; try (with_reducible rfl))
                  try simp only [Act.put, List.getElem_toArray, List.getElem_cons_zero, List.getElem_cons_succ, List.setIfInBounds_toArray, List.set_cons_zero, List.set_cons_succ]
                  refine wpAnyH_take (i := 3) (oi := _) (v := ?_) rfl (by kernel_rfl) (by kernel_rfl) (by kernel_rfl) (fun _ _ _ h => h) (Or.inl ⟨by rfl, ?_⟩) (by assumption) ?_
                  rotate_left
                  · (intro w0 hSw; (try dsimp only at hSw); (try simp only [List.getElem_toArray, List.getElem_cons_zero, List.getElem_cons_succ]); go_simp; try (with_reducible rfl))
                  try simp only [Act.put, List.getElem_toArray, List.getElem_cons_zero, List.getElem_cons_succ, List.setIfInBounds_toArray, List.set_cons_zero, List.set_cons_succ]
                  refine wpAnyH_take (i := 4) (oi := _) (v := ?_) rfl (by kernel_rfl) (by kernel_rfl) (by kernel_rfl) (fun _ _ _ h => h) (Or.inl ⟨by rfl, ?_⟩) (by assumption) ?_
                  rotate_left
                  · (intro w0 hSw; (try dsimp only at hSw); (try simp only [List.getElem_toArray, List.getElem_cons_zero, List.getElem_cons_succ]); go_simp; try (with_reducible rfl))
                  try simp only [Act.put, List.getElem_toArray, List.getElem_cons_zero, List.getElem_cons_succ, List.setIfInBounds_toArray, List.set_cons_zero, List.set_cons_succ]
                  refine wpAnyH_take (i := 5) (oi := _) (v := ?_) rfl (by kernel_rfl) (by kernel_rfl) (by kernel_rfl) (fun _ _ _ h => h) (Or.inl ⟨by rfl, ?_⟩) (by assumption) ?_
                  rotate_left
                  · (intro w0 hSw; (try dsimp only at hSw); (try simp only [List.getElem_toArray, List.getElem_cons_zero, List.getElem_cons_succ]); go_simp; try (with_reducible rfl))
                  try simp only [Act.put, List.getElem_toArray, List.getElem_cons_zero, List.getElem_cons_succ, List.setIfInBounds_toArray, List.set_cons_zero, List.set_cons_succ]
                  refine wpAnyH_take (i := 6) (oi := _) (v := ?_) rfl (by kernel_rfl) (by kernel_rfl) (by kernel_rfl) (fun _ _ _ h => h) (Or.inl ⟨by rfl, ?_⟩) (by assumption) ?_
                  rotate_left
                  · (intro w0 hSw; (try dsimp only at hSw); (try simp only [List.getElem_toArray, List.getElem_cons_zero, List.getElem_cons_succ]); go_simp; try (with_reducible rfl))
                  try simp only [Act.put, List.getElem_toArray, List.getElem_cons_zero, List.getElem_cons_succ, List.setIfInBounds_toArray, List.set_cons_zero, List.set_cons_succ]
                  refine wpAnyH_ready (rs := [7]) (by kernel_rfl) (by simp) ?_
                  refine AllReadyH.cons (o := _) rfl (fun K hK => ?_) AllReadyH.nil
                  (try simp only [List.getElem_toArray, List.getElem_cons_zero, List.getElem_cons_succ])
                  go_simp
                  go_at_call 14
                  refine (SRCC.out _).mono ?_
                  rintro e v1 ⟨rfl, hb1⟩
                  have HP1 : Hid (Pz base sb V v1) := HP0.out.trans (Pz.of_below hb1 (by have := HP0.out.size; omega))
                  have HS1 : Hid (StrP v1 base sb f q) := HS0.out.to hb1
                  clear hb1
                  go_wp2_with fail
                  refine hK.out _ _ (by first | assumption | exact KS.out _ HP0.out | exact KS.out _ HP1.out | exact KS.out _ HP2.out | exact KS.out _ HP3.out) (fun hHeld1 => ?_)
                  clear hK K
                  (try simp only [Act.put]); (try simp only [List.setIfInBounds_toArray]); (try simp only [List.set_cons_zero, List.set_cons_succ])
                  refine wpAnyH_ready (rs := [8]) (by kernel_rfl) (by simp) ?_
                  refine AllReadyH.cons (o := _) rfl (fun K hK => ?_) AllReadyH.nil
                  (try simp only [List.getElem_toArray, List.getElem_cons_zero, List.getElem_cons_succ])
                  go_simp
                  go_at_call 13
                  refine (BITC.out _).mono ?_
                  rintro e v2 ⟨rfl, hv2⟩
                  have HP2 : Hid (Pz base sb V v2) := by rw [hv2]; exact HP1.out
                  have HS2 : Hid (StrP v2 base sb f q) := by rw [hv2]; exact HS1.out
                  clear hv2
                  go_wp2_with fail
                  refine hK.out _ _ (by first | assumption | exact KS.out _ HP0.out | exact KS.out _ HP1.out | exact KS.out _ HP2.out | exact KS.out _ HP3.out) (fun hHeld2 => ?_)
                  clear hK K
                  (try simp only [Act.put]); (try simp only [List.setIfInBounds_toArray]); (try simp only [List.set_cons_zero, List.set_cons_succ])
                  refine wpAnyH_ready (rs := [9]) (by kernel_rfl) (by simp) ?_
                  refine AllReadyH.cons (o := _) rfl (fun K hK => ?_) AllReadyH.nil
                  (try simp only [List.getElem_toArray, List.getElem_cons_zero, List.getElem_cons_succ])
                  go_simp
                  go_at_call 12
                  refine (PUTC.out _ HS2.out).mono ?_
                  rintro e v3 ⟨⟨u3, rfl⟩, hs3, hp3⟩
                  have HP3 : Hid (Pz base sb V v3) := HP2.out.trans hp3
                  have HS3 := hidden hs3
                  clear hs3 hp3
                  go_wp2_with fail
                  refine hK.out _ _ (by first | assumption | exact KS.out _ HP0.out | exact KS.out _ HP1.out | exact KS.out _ HP2.out | exact KS.out _ HP3.out) (fun hHeld3 => ?_)
                  clear hK K
                  (try simp only [Act.put]); (try simp only [List.setIfInBounds_toArray]); (try simp only [List.set_cons_zero, List.set_cons_succ])
                  refine wpAnyH_done (by kernel_rfl) ?_ _
                  refine NoPanic.normal ?_
                  go_wp2_with fail
                  go_roundw
                  case measure => simp [intOf]; omega
                  case rel => exact ⟨j + 1, by omega, by simp, by rw [HNQ.out]; exact HS3.out, HP3.out⟩
                · have hge : ¬ ((j : Int) < (no : Int)) := by omega
                  have HSE : Hid (StrP wr base sb f (32 + (Qo + no * k1))) := by rw [← show j = no by omega]; exact HST.out
                  have HPE := HPZ
                  clear HST HPZ hlt hj
                  obtain ⟨V4, hV4⟩ : ∃ x, x = wr := ⟨_, rfl⟩
                  rw [← hV4] at HSE HPE q7
                  rw [← hV4]
                  clear hV4
                  go_wp2_with fail
                  clear q7
                  obtain ⟨vb, X, hB4, hO4, hE4⟩ := HSE.out
                  have hO : V4.ownsRow base 5 1 vb X.length (X.map byV) := by
                    rcases hO4 with h | h
                    · exact h
                    · exfalso; have := h.1; omega
                  have HEN := hidden hE4
                  have hk8 : no * k1 ≤ 500 * 16 := Nat.mul_le_mul (by omega) k1l
                  have hXl : X.length ≤ 1000000 := by have := hE4.len; omega
                  have hRX : ∃ a c, vb = .slice a X.length c ∧ RowAt V4.heap.size V4 a 1 (X.map byteC) := own_row (f := byteC) (by rw [flat_one byteC byV (fun _ => rfl)]; exact hO) rfl (fun _ => rfl)
                  obtain ⟨va, vc, hvb, hRX⟩ := hRX
                  subst hvb
                  have HO4 : Hid (V4.drew.ownsRow base 5 1 (.slice va X.length vc) X.length (X.map byV)) := hO.drew
                  have HB4 : Hid (Blk V4.drew sb 48 (strA (.slice va X.length vc) ((32 + (Qo + no * k1) : Nat) : Int) 0 false)) := hB4.drewN 1
                  have SUMC : Hid (Calls Tryd.prog 15 #[.slice va X.length vc] V4.drew fun e w' => e = .returned (.slice (some ⟨V4.drew.heap.size, 0, none⟩) 4 4) ∧ w' = V4.drew.alloc (.cells (((sumB (crcV X)).map byV).toArray) 5)) := sums_doc V4.heap.size V4.drew va vc X (hRX.to (Below.drew (Below.refl _ _))) (by omega) hE4.byte
                  have HP4 : Hid (Pz base sb V V4.drew) := HPE.out.drew
                  have h4s : base ≤ V4.drew.heap.size := by have := HP4.out.size; omega
                  clear hO hRX hB4 hO4 hE4 HSE HPE
                  have hm1 : X.length + 4 ≤ maxLen := by simp only [maxLen]; omega
                  have hm2 : (X.length + 4) * 1 ≤ 140737488355328 := by omega
                  have KS : Hid (∀ w', Blk w' sb 48 (strA (.slice va X.length vc) ((32 + (Qo + no * k1) : Nat) : Int) 0 false) → (fun w' => w'.cell? ⟨sb, 0, none⟩ = some (.slice va X.length vc)) w') := fun w' hw' => hw'.cell rfl
                  have HP0 := HB4
                  refine wp_region_noPanic ?_
                  refine wp_region_held_drew (S := (fun w' => w'.cell? ⟨sb, 0, none⟩ = some (.slice va X.length vc))) (by kernel_rfl) (by first | assumption | exact KS.out _ HP0.out | exact KS.out _ HP1.out | exact KS.out _ HP2.out | exact KS.out _ HP3.out) (fun hHeld => ?_)
                  refine wpAnyH_take (i := 0) (oi := _) (v := ?_) rfl (by kernel_rfl) (by kernel_rfl) (by kernel_rfl) (fun _ _ _ h => h) (Or.inl ⟨by rfl, ?_⟩) (by assumption) ?_
                  rotate_left
                  · (intro w0 hSw; (try dsimp only at hSw); (try simp only [List.getElem_toArray, List.getElem_cons_zero]); go_simp; try (with_reducible rfl))
                  try simp only [Act.put, List.getElem_toArray, List.getElem_cons_zero, List.setIfInBounds_toArray, List.set_cons_zero, List.set_cons_succ]
                  refine wpAnyH_take (i := 1) (oi := _) (v := ?_) rfl (by kernel_rfl) (by kernel_rfl) (by kernel_rfl) (fun _ _ _ h => h) (Or.inl ⟨by rfl, ?_⟩) (by assumption) ?_
                  rotate_left
                  · (intro w0 hSw; (try dsimp only at hSw); (try simp only [List.getElem_toArray, List.getElem_cons_zero, List.getElem_cons_succ]); go_simp; try (with_reducible rfl))
                  try simp only [Act.put, List.getElem_toArray, List.getElem_cons_zero, List.getElem_cons_succ, List.setIfInBounds_toArray, List.set_cons_zero, List.set_cons_succ]
                  refine wpAnyH_take (i := 2) (oi := _) (v := ?_) rfl (by kernel_rfl) (by kernel_rfl) (by kernel_rfl) (fun _ _ _ h => h) (Or.inl ⟨by rfl, ?_⟩) (by assumption) ?_
                  rotate_left
                  · (intro w0 hSw; (try dsimp only at hSw); (try simp only [List.getElem_toArray, List.getElem_cons_zero, List.getElem_cons_succ]); go_simp; try (with_reducible rfl))
                  try simp only [Act.put, List.getElem_toArray, List.getElem_cons_zero, List.getElem_cons_succ, List.setIfInBounds_toArray, List.set_cons_zero, List.set_cons_succ]
                  refine wpAnyH_take (i := 3) (oi := _) (v := ?_) rfl (by kernel_rfl) (by kernel_rfl) (by kernel_rfl) (fun _ _ _ h => h) (Or.inl ⟨by rfl, ?_⟩) (by assumption) ?_
                  rotate_left
                  · (intro w0 hSw; (try dsimp only at hSw); (try simp only [List.getElem_toArray, List.getElem_cons_zero, List.getElem_cons_succ]); go_simp; try (with_reducible rfl))
                  try simp only [Act.put, List.getElem_toArray, List.getElem_cons_zero, List.getElem_cons_succ, List.setIfInBounds_toArray, List.set_cons_zero, List.set_cons_succ]
                  refine wpAnyH_take (i := 4) (oi := _) (v := ?_) rfl (by kernel_rfl) (by kernel_rfl) (by kernel_rfl) (fun _ _ _ h => h) (Or.inl ⟨by rfl, ?_⟩) (by assumption) ?_
                  rotate_left
                  · (intro w0 hSw; (try dsimp only at hSw); (try simp only [List.getElem_toArray, List.getElem_cons_zero, List.getElem_cons_succ]); go_simp; try (with_reducible rfl))
                  try simp only [Act.put, List.getElem_toArray, List.getElem_cons_zero, List.getElem_cons_succ, List.setIfInBounds_toArray, List.set_cons_zero, List.set_cons_succ]
                  refine wpAnyH_take (i := 5) (oi := _) (v := ?_) rfl (by kernel_rfl) (by kernel_rfl) (by kernel_rfl) (fun _ _ _ h => h) (Or.inl ⟨by rfl, ?_⟩) (by assumption) ?_
                  rotate_left
                  · (intro w0 hSw; (try dsimp only at hSw); (try simp only [List.getElem_toArray, List.getElem_cons_zero, List.getElem_cons_succ]); go_simp; try (with_reducible rfl))
                  try simp only [Act.put, List.getElem_toArray, List.getElem_cons_zero, List.getElem_cons_succ, List.setIfInBounds_toArray, List.set_cons_zero, List.set_cons_succ]
                  refine wpAnyH_take (i := 6) (oi := _) (v := ?_) rfl (by kernel_rfl) (by kernel_rfl) (by kernel_rfl) (fun _ _ _ h => h) (Or.inl ⟨by rfl, ?_⟩) (by assumption) ?_
                  rotate_left
                  · (intro w0 hSw; (try dsimp only at hSw); (try simp only [List.getElem_toArray, List.getElem_cons_zero, List.getElem_cons_succ]); go_simp; try (with_reducible rfl))
                  try simp only [Act.put, List.getElem_toArray, List.getElem_cons_zero, List.getElem_cons_succ, List.setIfInBounds_toArray, List.set_cons_zero, List.set_cons_succ]
                  refine wpAnyH_take (i := 7) (oi := _) (v := ?_) rfl (by kernel_rfl) (by kernel_rfl) (by kernel_rfl) (fun _ _ _ h => h) (Or.inl ⟨by rfl, ?_⟩) (by assumption) ?_
                  rotate_left
                  · (intro w0 hSw; (try dsimp only at hSw); (try simp only [List.getElem_toArray, List.getElem_cons_zero, List.getElem_cons_succ]); go_simp; try (with_reducible rfl))
                  try simp only [Act.put, List.getElem_toArray, List.getElem_cons_zero, List.getElem_cons_succ, List.setIfInBounds_toArray, List.set_cons_zero, List.set_cons_succ]
                  refine wpAnyH_ready (rs := [8]) (by kernel_rfl) (by simp) ?_
                  refine AllReadyH.cons (o := _) rfl (fun K hK => ?_) AllReadyH.nil
                  (try simp only [List.getElem_toArray, List.getElem_cons_zero, List.getElem_cons_succ])
                  go_simp
                  go_at_call 15
                  refine SUMC.out.mono ?_
                  rintro e v1 ⟨rfl, hv1⟩
                  have HBA : Hid (Below V4.drew.heap.size V4.drew v1) := by rw [hv1]; exact (Below.refl _ _).alloc (Nat.le_refl _) _
                  have HP1 : Hid (Blk v1 sb 48 (strA (.slice va X.length vc) ((32 + (Qo + no * k1) : Nat) : Int) 0 false)) := HB4.out.below HBA.out
                  have HO5 : Hid (v1.ownsRow base 5 1 (.slice va X.length vc) X.length (X.map byV)) := own_below HO4.out HBA.out
                  have HNW : Hid (∀ (j : Nat) (u : Value), ((sumB (crcV X)).map byV)[j]? = some u → v1.cell? ((⟨V4.drew.heap.size, 0, none⟩ : Addr).add j) = some u) := by rw [hv1]; exact World.news_of_block (heap_new _ _)
                  have HPV : Hid (Pz base sb V v1) := HP4.out.trans (Pz.of_below HBA.out h4s)
                  have hm3 : base ≤ v1.heap.size := by have := HBA.out.size; omega
                  clear hv1 SUMC HBA
                  go_wp2_with fail
                  refine hK.out _ _ (by first | assumption | exact KS.out _ HP0.out | exact KS.out _ HP1.out | exact KS.out _ HP2.out | exact KS.out _ HP3.out) (fun hHeld1 => ?_)
                  clear hK K
                  (try simp only [Act.put]); (try simp only [List.setIfInBounds_toArray]); (try simp only [List.set_cons_zero, List.set_cons_succ])
                  refine wpAnyH_ready (rs := [9]) (by kernel_rfl) (by simp) ?_
                  refine AllReadyH.cons (o := _) rfl (fun K hK => ?_) AllReadyH.nil
                  refine step_append_lies _ rfl (.tmp 134) (.tmp 139) 22 rfl base 5 ib _ 1 1 Tryd.underlying22 HI.out HZ.out HS.out HBY.out rfl (by decide) (.slice va X.length vc) X.length _ rfl HO5.out ⟨V4.drew.heap.size, 0, none⟩ 4 4 ((sumB (crcV X)).map byV) rfl rfl HNW.out (by intro u hu; obtain ⟨y, _, rfl⟩ := List.mem_map.1 hu; rfl) (by decide) hm1 hm2 hm3 _ rfl ?_
                  intro g5 cap5 w5 hown hgrow hat5 hlt5
                  have HOW := hidden hown
                  have HPW : Hid (Pz base sb V w5) := HPV.out.trans (Pz.grown (RowTy.of HO5.out) hgrow hm3)
                  have HP2 : Hid (Blk w5 sb 48 (strA (.slice va X.length vc) ((32 + (Qo + no * k1) : Nat) : Int) 0 false)) := own_grow_blk (RowTy.of HO5.out) hgrow HP1.out (by decide)
                  clear hown hgrow hat5 hlt5
                  refine hK.out _ _ (by first | assumption | exact KS.out _ HP0.out | exact KS.out _ HP1.out | exact KS.out _ HP2.out | exact KS.out _ HP3.out) (fun hHeld2 => ?_)
                  clear hK K
                  (try simp only [Act.put]); (try simp only [List.setIfInBounds_toArray]); (try simp only [List.set_cons_zero, List.set_cons_succ])
                  refine wpAnyH_take (i := 10) (oi := _) (v := ?_) rfl (by kernel_rfl) (by kernel_rfl) (by kernel_rfl) (fun _ _ _ h => h) (Or.inl ⟨by rfl, ?_⟩) (by assumption) ?_
                  rotate_left
                  · (intro w0 hSw; (try dsimp only at hSw); (try simp only [List.getElem_toArray, List.getElem_cons_zero, List.getElem_cons_succ]); go_simp; try (with_reducible rfl))
                  try simp only [Act.put, List.getElem_toArray, List.getElem_cons_zero, List.getElem_cons_succ, List.setIfInBounds_toArray, List.set_cons_zero, List.set_cons_succ]
                  refine wpAnyH_done (by kernel_rfl) ?_ _
                  refine NoPanic.normal ?_
                  go_wp2
                  go_ret
                  exact ⟨X, _, rfl, by rw [show 32 + (Qo + no * k1) = 32 + (Qo + no * k1) from rfl] at HEN; exact HEN.out, own_mono (by rw [List.map_append]; exact HOW.out) hwb, HBWV.out.trans (HPW.out.below.mono hwb)⟩

end Go.Proofs.YtjbnejjjbdalaaaDoor
