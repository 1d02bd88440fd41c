import Derived.Test.YtlkhmcajedjojaaJ28
import Derived.Test.YtlkhmcajedjojaaJ29
namespace Go.Proofs.Ytlkhmcajedjojaa
open Go.RowKit

set_option maxRecDepth 100000 in
set_option maxHeartbeats 8000000 in
theorem ckWrites (wc : World) (N : NetD) (C mk nbk : Nat) (hCw : C ≤ wc.heap.size) (ms : List MB) (bs : List Nat) (hbs : ∀ b, b ∈ bs → C ≤ b) (HBE : Hid (bs = ms.map MB.b)) (HM0 : Hid (MsIn C wc ms)) (hmk : mk < wc.heap.size) (hmn : mk ∉ bs) (m0 : wc.cell? ⟨mk, 0, none⟩ = some (.pointer (some ⟨nbk, 0, none⟩))) (a4 : Option Addr) (c4 : Nat) (q4 : wc.cell? ⟨nbk, 4, none⟩ = some (.slice a4 N.wrs.length c4)) (hnw : nbk < wc.heap.size) (hnb : nbk ∉ bs) (HW : Hid (RowAt C wc a4 4 (N.wrs.map WrD.cells))) (b6 o6 c6 : Nat) (m3 : wc.cell? ⟨mk, 3, none⟩ = some (.slice (some ⟨b6, o6, none⟩) ms.length c6)) (h6 : b6 < wc.heap.size) (h6n : b6 ∉ bs) (H6 : Hid (∀ (i : Nat) (m : MB), ms[i]? = some m → wc.cell? ⟨b6, o6 + i, none⟩ = some m.val)) (vs : List Nat) (vb vo cv : Nat) (m1 : wc.cell? ⟨mk, 1, none⟩ = some (.slice (some ⟨vb, vo, none⟩) vs.length cv)) (hvb : vb < wc.heap.size) (hvn : vb ∉ bs) (HV : Hid (∀ (i x : Nat), vs[i]? = some x → wc.cell? ⟨vb, vo + i, none⟩ = some (.int .u64 (x : Int)))) (hbig : ∀ m, m ∈ ms → m.l.length < 17592186044416) (hin : ∀ z, z ∈ N.wrs → 0 ≤ z.mem ∧ z.mem < (ms.length : Int) ∧ 0 ≤ z.when_ ∧ z.when_ < (vs.length : Int) ∧ 0 ≤ z.addr ∧ z.addr < (vs.length : Int) ∧ 0 ≤ z.data ∧ z.data < (vs.length : Int)) (hlen : N.wrs.length < 17592186044416) (K' : Act → World → Prop) (Q0 : Exit → Act → World → Prop) (x1 x2 x3 x4 x5 x6 x7 x8 x9 x10 x11 x12 x13 x14 x15 x16 x17 x18 x19 x20 x21 x22 x23 x24 x25 x26 x27 x28 x29 x30 x31 x32 x33 x34 x35 x36 x37 x38 x39 x40 x41 x42 x43 x44 x45 x46 x47 x48 x51 x52 x53 x54 x55 x56 x57 x58 x59 x60 x61 x62 x63 x64 x65 x66 x67 x68 x69 x70 x71 x72 x73 x74 x75 x76 x77 x78 x79 x80 x81 x82 x83 x84 x85 x86 x87 x88 x89 x90 x91 x92 x93 x94 x95 x96 x97 x98 x99 x100 x101 x102 x103 x104 x105 x106 x107 x108 x109 x110 x111 x112 x113 : Value)
    (HK : Hid (∀ (w' : World) (s3 s4 s5 s6 s50 s51 s52 s53 s54 s55 s56 s57 s58 s59 s60 s61 s62 s63 s64 s65 s66 s67 s68 s69 s70 s71 s72 s73 s74 s75 s76 s77 s78 s79 s80 s81 s82 s83 s84 s85 s86 s87 s88 s89 s90 s91 s92 s93 s94 s95 s96 s97 s98 s99 s100 s101 s102 s103 s104 s105 s106 s107 s108 s109 s110 s111 s112 s113 : Value), (MsIn C w' (N.wrs.foldl (wrStep vs) ms) ∧ Oth bs wc w') → K' ⟨#[.pointer (some ⟨mk, 0, none⟩), x1, x2, s3, s4, s5, s6, x7, x8, x9, x10, x11, x12, x13, x14, x15, x16, x17, x18, x19, x20, x21, x22, x23, x24, x25, x26, x27, x28, x29, x30, x31, x32, x33, x34, x35, x36, x37, x38, x39, x40, x41, x42, x43, x44, x45, x46, x47, x48, .int .i64 (N.wrs.length : Int), s50, s51, s52, s53, s54, s55, s56, s57, s58, s59, s60, s61, s62, s63, s64, s65, s66, s67, s68, s69, s70, s71, s72, s73, s74, s75, s76, s77, s78, s79, s80, s81, s82, s83, s84, s85, s86, s87, s88, s89, s90, s91, s92, s93, s94, s95, s96, s97, s98, s99, s100, s101, s102, s103, s104, s105, s106, s107, s108, s109, s110, s111, s112, s113], []⟩ w')) :
    Code.wp Try.prog ((Try.f35.body.bind (blockAt 2)).getD .skip) (Exit.then K' Q0) ⟨#[.pointer (some ⟨mk, 0, none⟩), x1, x2, x3, x4, x5, x6, x7, x8, x9, x10, x11, x12, x13, x14, x15, x16, x17, x18, x19, x20, x21, x22, x23, x24, x25, x26, x27, x28, x29, x30, x31, x32, x33, x34, x35, x36, x37, x38, x39, x40, x41, x42, x43, x44, x45, x46, x47, x48, .int .i64 (N.wrs.length : Int), .int .i64 0, x51, x52, x53, x54, x55, x56, x57, x58, x59, x60, x61, x62, x63, x64, x65, x66, x67, x68, x69, x70, x71, x72, x73, x74, x75, x76, x77, x78, x79, x80, x81, x82, x83, x84, x85, x86, x87, x88, x89, x90, x91, x92, x93, x94, x95, x96, x97, x98, x99, x100, x101, x102, x103, x104, x105, x106, x107, x108, x109, x110, x111, x112, x113], []⟩ wc := by
  conv => arg 2; whnf
  go_wp2_with fail
  go_loopw [50] (fun i' w' => ∃ (k : Nat) (msk : List MB), k ≤ N.wrs.length ∧ i' = .int .i64 k ∧ Hid (msk = (N.wrs.take k).foldl (wrStep vs) ms) ∧ Hid (MsIn C w' msk) ∧ Hid (Oth bs wc w')) (fun i' _ => N.wrs.length - (intOf i').toNat)
  case atStart => exact ⟨0, ms, Nat.zero_le _, rfl, rfl, HM0.out, Oth.refl _ _⟩
  case round =>
    obtain ⟨k, msk, hk, rfl, HF, HMK, HOT⟩ := hrel
    have q4R := (HOT.out.cell (p := ⟨nbk, 4, none⟩) hnw hnb).trans q4
    have m0R := (HOT.out.cell (p := ⟨mk, 0, none⟩) hmk hmn).trans m0
    have m1R := (HOT.out.cell (p := ⟨mk, 1, none⟩) hmk hmn).trans m1
    have m3R := (HOT.out.cell (p := ⟨mk, 3, none⟩) hmk hmn).trans m3
    by_cases hlt : k < N.wrs.length
    · obtain ⟨z, hz⟩ : ∃ z, N.wrs[k]? = some z := ⟨N.wrs[k], List.getElem?_eq_getElem hlt⟩
      obtain ⟨zb, zo, ea, hzb, hzc⟩ := HW.out.el hz
      have hzw : zb < wc.heap.size := Nat.lt_of_lt_of_le hzb hCw
      have hzn : zb ∉ bs := fun h => absurd (hbs zb h) (by omega)
      have z0 : wr.cell? ⟨zb, zo + k * 4, none⟩ = _ := (HOT.out.cell (p := ⟨zb, zo + k * 4, none⟩) hzw hzn).trans (hzc 0 _ rfl)
      have z1 := (HOT.out.cell (p := ⟨zb, zo + k * 4 + 1, none⟩) hzw hzn).trans (hzc 1 _ rfl)
      have z2 := (HOT.out.cell (p := ⟨zb, zo + k * 4 + 2, none⟩) hzw hzn).trans (hzc 2 _ rfl)
      have z3 := (HOT.out.cell (p := ⟨zb, zo + k * 4 + 3, none⟩) hzw hzn).trans (hzc 3 _ rfl)
      obtain ⟨hm0, hm1, hw0, hw1, ha0, ha1, hd0, hd1⟩ := hin z (List.mem_of_getElem? hz)
      have hmsl : msk.map (fun m => m.l.length) = ms.map (fun m => m.l.length) ∧ msk.map MB.b = ms.map MB.b := by
        rw [HF.out]; exact fold_same vs _ ms
      rw [ea] at q4R
      have hltI : (k : Int) < (N.wrs.length : Int) := by omega
      have e3 : IntKind.i64.wrap ((k : Int) + 1) = (k : Int) + 1 := wrapI _ (by omega) (by omega)
      have HFN : Hid ((N.wrs.take (k + 1)).foldl (wrStep vs) ms = wrStep vs msk z) := by
        show _ = _
        rw [take_next _ k z hz, List.foldl_append, ← HF.out]; rfl
      clear hzc hz
      obtain ⟨y1, hy1⟩ : ∃ y, vs[z.when_.toNat]? = some y := ⟨vs[z.when_.toNat]'(by omega), List.getElem?_eq_getElem (by omega)⟩
      obtain ⟨y2, hy2⟩ : ∃ y, vs[z.addr.toNat]? = some y := ⟨vs[z.addr.toNat]'(by omega), List.getElem?_eq_getElem (by omega)⟩
      obtain ⟨y3, hy3⟩ : ∃ y, vs[z.data.toNat]? = some y := ⟨vs[z.data.toNat]'(by omega), List.getElem?_eq_getElem (by omega)⟩
      have v1 := (HOT.out.cell (p := ⟨vb, vo + z.when_.toNat, none⟩) hvb hvn).trans (HV.out _ y1 hy1)
      have v2 := (HOT.out.cell (p := ⟨vb, vo + z.addr.toNat, none⟩) hvb hvn).trans (HV.out _ y2 hy2)
      have v3 := (HOT.out.cell (p := ⟨vb, vo + z.data.toNat, none⟩) hvb hvn).trans (HV.out _ y3 hy3)
      obtain ⟨M, hM⟩ : ∃ m, ms[z.mem.toNat]? = some m := ⟨ms[z.mem.toNat]'(by omega), List.getElem?_eq_getElem (by omega)⟩
      have hmskl : msk.length = ms.length := by have := congrArg List.length hmsl.2; simpa using this
      obtain ⟨Mk, hMk⟩ : ∃ m, msk[z.mem.toNat]? = some m := ⟨msk[z.mem.toNat]'(by omega), List.getElem?_eq_getElem (by omega)⟩
      have eb : Mk.b = M.b := by have := congrArg (fun l => l[z.mem.toNat]?) hmsl.2; simpa [hM, hMk] using this
      have el : Mk.l.length = M.l.length := by have := congrArg (fun l => l[z.mem.toNat]?) hmsl.1; simpa [hM, hMk] using this
      have c6' := (HOT.out.cell (p := ⟨b6, o6 + z.mem.toNat, none⟩) h6 h6n).trans (H6.out _ M hM)
      unfold MB.val at c6'
      rw [← eb, ← el] at c6'
      have hlen' : Mk.l.length < 17592186044416 := by rw [el]; exact hbig M (List.mem_of_getElem? hM)
      have e6 : IntKind.u64.wrap (Mk.l.length : Int) = (Mk.l.length : Int) := wrapU _ (by omega) (by omega)
      have HWS : Hid (wrStep vs msk z = if y1 ≠ 0 ∧ y2 < Mk.l.length then msk.set z.mem.toNat ⟨Mk.b, Mk.l.set y2 y3⟩ else msk) := by
        show _ = _
        unfold wrStep
        rw [hMk]
        simp only [vAt, hy1, hy2, hy3, Option.getD_some]
      have hMb : Mk.b ∈ bs := by rw [HBE.out, eb]; exact List.mem_map.2 ⟨M, List.mem_of_getElem? hM, rfl⟩
      have HMk := hidden hMk
      have hsR := HOT.out.size
      have fin : ∀ (U : World), wrStep vs msk z = msk → Below wr.heap.size wr U → MsIn C U (wrStep vs msk z) ∧ Oth bs wc U := fun U e hb => ⟨by rw [e]; exact HMK.out.to hb, HOT.out.trans (Oth.of_below hb)⟩
      have HFIN := hidden fin
      clear fin hy1 hy2 hy3 hM hMk hmsl hmskl eb el hlen' HF ea
      generalize z.mem = zm at *
      generalize z.when_ = zw at *
      generalize z.addr = za at *
      generalize z.data = zd at *
      go_wp2_with fail
      go_quiet (fail)
      go_wp2_with fail
      go_quiet (fail)
      go_wp2_with fail
      by_cases g1 : y1 = 0
      · subst g1
        have e : wrStep vs msk z = msk := by rw [HWS.out, if_neg (by simp)]
        have E := hidden e
        clear e HWS
        go_quiet (fail)
        go_wp2
        go_roundw
        case measure => simp [intOf]; omega
        case rel => refine ⟨k + 1, _, by omega, by simp, HFN.out.symm, (HFIN.out _ E.out ?_).1, (HFIN.out _ E.out ?_).2⟩ <;> (repeat (first | exact Below.refl _ _ | refine Below.drewN ?_ _))
      · have hnz : ((y1 : Int) != 0) = true := by simp [g1]
        have g1I : (y1 : Int) ≠ 0 := by omega
        by_cases g2 : y2 < Mk.l.length
        · have g2I : (y2 : Int) < (Mk.l.length : Int) := by omega
          go_quiet (fail)
          go_wp2_with fail
          generalize hU : World.drewN _ _ = U
          have HBU : Hid (Below wr.heap.size wr U) := by
            rw [← hU]
            show Below _ _ _
            repeat (first | exact Below.refl _ _ | refine Below.drewN ?_ _)
          clear hU
          have hsu := HBU.out.size
          have hmkR : mk < wr.heap.size := Nat.lt_of_lt_of_le hmk hsR
          have hzR : zb < wr.heap.size := Nat.lt_of_lt_of_le hzw hsR
          have hvR : vb < wr.heap.size := Nat.lt_of_lt_of_le hvb hsR
          have u1 := (HBU.out.cell (p := ⟨mk, 1, none⟩) hmkR).trans m1R
          have u3 := (HBU.out.cell (p := ⟨zb, zo + k * 4 + 3, none⟩) hzR).trans z3
          have x3 := (HBU.out.cell (p := ⟨vb, vo + zd.toNat, none⟩) hvR).trans v3
          have hmkU : mk < U.heap.size := Nat.lt_of_lt_of_le hmkR hsu
          have hzU : zb < U.heap.size := Nat.lt_of_lt_of_le hzR hsu
          have hvU : vb < U.heap.size := Nat.lt_of_lt_of_le hvR hsu
          have HMU : Hid (MsIn C U msk) := HMK.out.to HBU.out
          have hown := HMU.out.own Mk (List.mem_of_getElem? HMk.out)
          have hcl := World.ownsRow.cellAt (g := Mk.b) (cap := Mk.l.length) hown y2 (by omega)
          have ufz := World.ownsRow.frozenAt (g := Mk.b) (cap := Mk.l.length) hown y2
          obtain ⟨old, uold⟩ : ∃ old, U.cell? ⟨Mk.b, y2, none⟩ = some old := by
            rw [hcl]
            have hL : y2 < (Mk.l.map uV).length := by simpa using g2
            exact ⟨_, List.getElem?_eq_getElem hL⟩
          have HWS2 : Hid (wrStep vs msk z = msk.set zm.toNat ⟨Mk.b, Mk.l.set y2 y3⟩) := by
            show _ = _
            rw [HWS.out, if_pos ⟨g1, g2⟩]
          have HST := hidden (HMU.out.set (a := y2) (y := y3) HMk.out)
          have HOU : Hid (Oth bs wc U) := HOT.out.trans (Oth.of_below HBU.out)
          clear hown hcl HWS z0 z1 z2 z3 v1 v2 v3 m0R m1R m3R c6' q4R HMK HBU HFIN
          go_region_held3 (fun w' => ∀ b' o, b' < U.heap.size → b' ∉ bs → w'.cell? ⟨b', o, none⟩ = U.cell? ⟨b', o, none⟩)
            (first | assumption | (intro b' o h1 h2; rfl) | (intro b' o h1 h2; exact World.cell?_setCell_far _ _ _ _ (fun e => h2 (by have e' : Mk.b = b' := e; rw [← e']; exact hMb))))
            (fail)
          have HEND : Hid (MsIn C ((U.setCell ⟨Mk.b, y2, none⟩ (.int .u64 (y3 : Int))).drew) (wrStep vs msk z) ∧ Oth bs wc ((U.setCell ⟨Mk.b, y2, none⟩ (.int .u64 (y3 : Int))).drew)) := by
            refine ⟨?_, (HOU.out.trans (Oth.of_grown HST.out.2 hMb)).trans (Oth.of_below (Below.refl _ _).drew)⟩
            rw [HWS2.out]
            exact HST.out.1.to (Below.refl _ _).drew
          clear HST HOU HMU HWS2
          go_wp2_with fail
          go_roundw
          case measure => simp [intOf]; omega
          case rel => exact ⟨k + 1, _, by omega, by simp, HFN.out.symm, HEND.out.1, HEND.out.2⟩
        · have hd : decide ((y2 : Int) < (Mk.l.length : Int)) = false := by rw [decide_eq_false_iff_not]; omega
          have e : wrStep vs msk z = msk := by rw [HWS.out, if_neg (fun h => g2 h.2)]
          have E := hidden e
          clear e HWS
          go_quiet (fail)
          go_wp2
          go_roundw
          case measure => simp [intOf]; omega
          case rel => refine ⟨k + 1, _, by omega, by simp, HFN.out.symm, (HFIN.out _ E.out ?_).1, (HFIN.out _ E.out ?_).2⟩ <;> (repeat (first | exact Below.refl _ _ | refine Below.drewN ?_ _))
    · have hge : ¬ ((k : Int) < (N.wrs.length : Int)) := by omega
      have HF6 : Hid (msk = N.wrs.foldl (wrStep vs) ms) := by
        show _ = _
        rw [HF.out, List.take_of_length_le (by omega)]
      clear HF
      go_wp2
      exact HK.out _ _ _ _ _ _ _ _ _ _ _ _ _ _ _ _ _ _ _ _ _ _ _ _ _ _ _ _ _ _ _ _ _ _ _ _ _ _ _ _ _ _ _ _ _ _ _ _ _ _ _ _ _ _ _ _ _ _ _ _ _ _ _ _ _ _ _ _ _ ⟨by rw [← HF6.out]; exact HMK.out, HOT.out⟩

end Go.Proofs.Ytlkhmcajedjojaa
