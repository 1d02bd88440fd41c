import Derived.Test.YtlkhmcajedjojaaJ26
namespace Go.Proofs.Ytlkhmcajedjojaa
open Go.RowKit

theorem fold_same (vs : List Nat) (l : List WrD) (ms : List MB) : (l.foldl (wrStep vs) ms).map (fun m => m.l.length) = ms.map (fun m => m.l.length) ∧ (l.foldl (wrStep vs) ms).map MB.b = ms.map MB.b := by
  induction l generalizing ms with
  | nil => exact ⟨rfl, rfl⟩
  | cons z r ih =>
    simp only [List.foldl_cons]
    exact ⟨(ih _).1.trans (wr_lens vs ms z), (ih _).2.trans (wr_blocks vs ms z)⟩

set_option maxRecDepth 100000 in
set_option maxHeartbeats 8000000 in
theorem nrWrites (wc : World) (N : NetD) (C nbk : Nat) (hCw : C ≤ wc.heap.size) (ms : List MB) (bs : List Nat) (hbs : ∀ b, b ∈ bs → C ≤ b) (HBE : Hid (bs = ms.map MB.b)) (HM0 : Hid (MsIn C wc ms)) (a3 a4 : Option Addr) (c3 c4 : Nat) (q3 : wc.cell? ⟨nbk, 3, none⟩ = some (.slice a3 N.mems.length c3)) (q4 : wc.cell? ⟨nbk, 4, none⟩ = some (.slice a4 N.wrs.length c4)) (hnw : nbk < wc.heap.size) (hnb : nbk ∉ bs) (HMM : Hid (RowAt C wc a3 2 (N.mems.map MemD.cells))) (HW : Hid (RowAt C wc a4 4 (N.wrs.map WrD.cells))) (b6 o6 c6 : Nat) (h6 : b6 < wc.heap.size) (h6n : b6 ∉ bs) (H6 : Hid (∀ (i : Nat) (m : MB), ms[i]? = some m → wc.cell? ⟨b6, o6 + i, none⟩ = some m.val)) (vs : List Nat) (vb vo cv : Nat) (hvb : vb < wc.heap.size) (hvn : vb ∉ bs) (HV : Hid (∀ (i x : Nat), vs[i]? = some x → wc.cell? ⟨vb, vo + i, none⟩ = some (.int .u64 (x : Int)))) (HML : Hid (ms.length = N.mems.length)) (hbig : ∀ m, m ∈ ms → m.l.length < 17592186044416) (hbw : ∀ b, b ∈ bs → b < wc.heap.size) (hwords : ∀ (i : Nat) (m : MB) (z : MemD), ms[i]? = some m → N.mems[i]? = some z → z.words = (m.l.length : Int)) (hin : ∀ z, z ∈ N.wrs → 0 ≤ z.mem ∧ z.mem < (N.mems.length : Int) ∧ 0 ≤ z.when_ ∧ z.when_ < (vs.length : Int) ∧ 0 ≤ z.addr ∧ z.addr < (vs.length : Int) ∧ 0 ≤ z.data ∧ z.data < (vs.length : Int)) (hlen : N.wrs.length < 17592186044416) (K' : Act → World → Prop) (Q0 : Exit → Act → World → Prop) (x0 x1 x3 x4 x5 x7 x8 x9 x10 x12 x13 x14 x16 x17 x18 x19 x20 x21 x22 x23 x24 x25 x26 x27 x28 x29 x30 x31 x32 x33 x34 x35 x36 x37 x38 x39 x40 x41 x42 x43 x44 x45 x46 x47 x48 x49 x50 x51 x52 x53 x54 x55 x56 x57 x58 x59 x60 x61 x62 x63 x64 x65 x66 x67 x68 x69 x70 x71 x72 x73 x74 x75 x76 x77 x78 x79 x80 x81 x82 x83 x84 x85 x86 x87 x88 x89 x90 x91 x92 x93 x94 x95 x96 x97 x98 x99 x100 x101 x102 x103 x104 x105 x106 x107 x108 x109 x110 x111 x112 x113 x114 x115 x116 x117 x118 x119 x120 x121 x122 x123 x124 x125 x126 x127 x128 x129 x130 x131 x132 x133 x134 x135 x136 x137 x138 x139 x140 x141 x142 x143 x144 x145 x146 x147 x148 x149 x150 x151 x152 x153 x154 x155 : Value)
    (HK : Hid (∀ (w' : World) (s15 s16 s105 s106 s107 s108 s109 s110 s111 s112 s113 s114 s115 s116 s117 s118 s119 s120 s121 s122 s123 s124 s125 s126 s127 s128 s129 s130 s131 s132 s133 s134 s135 s136 s137 s138 s139 s140 s141 s142 s143 s144 s145 s146 s147 s148 s149 s150 s151 s152 s153 s154 : Value), (MsIn C w' (N.wrs.foldl (wrStep vs) ms) ∧ Oth bs wc w') → K' ⟨#[x0, x1, .pointer (some ⟨nbk, 0, none⟩), x3, x4, x5, .slice (some ⟨b6, o6, none⟩) ms.length c6, x7, x8, x9, x10, .slice (some ⟨vb, vo, none⟩) vs.length cv, x12, x13, x14, s15, s16, x17, x18, x19, x20, x21, x22, x23, x24, x25, x26, x27, x28, x29, x30, x31, x32, x33, x34, x35, x36, x37, x38, x39, x40, x41, x42, x43, x44, x45, x46, x47, x48, x49, x50, x51, x52, x53, x54, x55, x56, x57, x58, x59, x60, x61, x62, x63, x64, x65, x66, x67, x68, x69, x70, x71, x72, x73, x74, x75, x76, x77, x78, x79, x80, x81, x82, x83, x84, x85, x86, x87, x88, x89, x90, x91, x92, x93, x94, x95, x96, x97, x98, x99, x100, x101, x102, x103, x104, s105, s106, s107, s108, s109, s110, s111, s112, s113, s114, s115, s116, s117, s118, s119, s120, s121, s122, s123, s124, s125, s126, s127, s128, s129, s130, s131, s132, s133, s134, s135, s136, s137, s138, s139, s140, s141, s142, s143, s144, s145, s146, s147, s148, s149, s150, s151, s152, s153, s154, x155], []⟩ w')) :
    Code.wp Try.prog ((Try.f24.body.bind (blockAt 10)).getD .skip) (Exit.then K' Q0) ⟨#[x0, x1, .pointer (some ⟨nbk, 0, none⟩), x3, x4, x5, .slice (some ⟨b6, o6, none⟩) ms.length c6, x7, x8, x9, x10, .slice (some ⟨vb, vo, none⟩) vs.length cv, x12, x13, x14, .int .i64 0, x16, x17, x18, x19, x20, x21, x22, x23, x24, x25, x26, x27, x28, x29, x30, x31, x32, x33, x34, x35, x36, x37, x38, x39, x40, x41, x42, x43, x44, x45, x46, x47, x48, x49, x50, x51, x52, x53, x54, x55, x56, x57, x58, x59, x60, x61, x62, x63, x64, x65, x66, x67, x68, x69, x70, x71, x72, x73, x74, x75, x76, x77, x78, x79, x80, x81, x82, x83, x84, x85, x86, x87, x88, x89, x90, x91, x92, x93, x94, x95, x96, x97, x98, x99, x100, x101, x102, x103, x104, x105, x106, x107, x108, x109, x110, x111, x112, x113, x114, x115, x116, x117, x118, x119, x120, x121, x122, x123, x124, x125, x126, x127, x128, x129, x130, x131, x132, x133, x134, x135, x136, x137, x138, x139, x140, x141, x142, x143, x144, x145, x146, x147, x148, x149, x150, x151, x152, x153, x154, x155], []⟩ wc := by
  conv => arg 2; whnf
  go_wp2_with fail
  go_loopw [15] (fun i' w' => ∃ (k : Nat) (msk : List MB), k ≤ N.wrs.length ∧ i' = .int .i64 k ∧ Hid (msk = (N.wrs.take k).foldl (wrStep vs) ms) ∧ Hid (MsIn C w' msk) ∧ Hid (Oth bs wc w')) (fun i' _ => N.wrs.length - (intOf i').toNat)
  case atStart => exact ⟨0, ms, Nat.zero_le _, rfl, rfl, HM0.out, Oth.refl _ _⟩
  case round =>
    obtain ⟨k, msk, hk, rfl, HF, HMK, HOT⟩ := hrel
    have q4R := (HOT.out.cell (p := ⟨nbk, 4, none⟩) hnw hnb).trans q4
    by_cases hlt : k < N.wrs.length
    · obtain ⟨z, hz⟩ : ∃ z, N.wrs[k]? = some z := ⟨N.wrs[k], List.getElem?_eq_getElem hlt⟩
      obtain ⟨zb, zo, ea, hzb, hzc⟩ := HW.out.el hz
      have hzw : zb < wc.heap.size := Nat.lt_of_lt_of_le hzb hCw
      have hzn : zb ∉ bs := fun h => absurd (hbs zb h) (by omega)
      have z0 : wr.cell? ⟨zb, zo + k * 4, none⟩ = _ := (HOT.out.cell (p := ⟨zb, zo + k * 4, none⟩) hzw hzn).trans (hzc 0 _ rfl)
      have z1 := (HOT.out.cell (p := ⟨zb, zo + k * 4 + 1, none⟩) hzw hzn).trans (hzc 1 _ rfl)
      have z2 := (HOT.out.cell (p := ⟨zb, zo + k * 4 + 2, none⟩) hzw hzn).trans (hzc 2 _ rfl)
      have z3 := (HOT.out.cell (p := ⟨zb, zo + k * 4 + 3, none⟩) hzw hzn).trans (hzc 3 _ rfl)
      obtain ⟨hm0, hm1, hw0, hw1, ha0, ha1, hd0, hd1⟩ := hin z (List.mem_of_getElem? hz)
      have hmsl : msk.map (fun m => m.l.length) = ms.map (fun m => m.l.length) ∧ msk.map MB.b = ms.map MB.b := by
        rw [HF.out]; exact fold_same vs _ ms
      rw [ea] at q4R
      have hltI : (k : Int) < (N.wrs.length : Int) := by omega
      have e3 : IntKind.i64.wrap ((k : Int) + 1) = (k : Int) + 1 := wrapI _ (by omega) (by omega)
      have HFN : Hid ((N.wrs.take (k + 1)).foldl (wrStep vs) ms = wrStep vs msk z) := by
        show _ = _
        rw [take_next _ k z hz, List.foldl_append, ← HF.out]; rfl
      clear hzc hz
      go_wp2_with fail
      generalize hV : World.alloc wr _ = V
      have HBV : Hid (Below wr.heap.size wr V) := by rw [← hV]; exact (Below.refl _ _).alloc (Nat.le_refl _) _
      have w0 : V.cell? ⟨wr.heap.size, 0, none⟩ = some (.int .i64 z.mem) := by rw [← hV]; simp
      have w1 : V.cell? ⟨wr.heap.size, 1, none⟩ = some (.int .i64 z.when_) := by rw [← hV]; simp
      have w2 : V.cell? ⟨wr.heap.size, 2, none⟩ = some (.int .i64 z.addr) := by rw [← hV]; simp
      have w3 : V.cell? ⟨wr.heap.size, 3, none⟩ = some (.int .i64 z.data) := by rw [← hV]; simp
      have hdb : wr.heap.size < V.heap.size := by rw [← hV]; simp
      clear hV z0 z1 z2 z3 q4R
      have HOV : Hid (Oth bs wc V) := HOT.out.trans (Oth.of_below HBV.out)
      have hsv := HOV.out.size
      have hdn : wr.heap.size ∉ bs := fun h => absurd (hbw _ h) (by have := HOT.out.size; omega)
      have q3V := (HOV.out.cell (p := ⟨nbk, 3, none⟩) hnw hnb).trans q3
      obtain ⟨y1, hy1⟩ : ∃ y, vs[z.when_.toNat]? = some y := ⟨vs[z.when_.toNat]'(by omega), List.getElem?_eq_getElem (by omega)⟩
      obtain ⟨y2, hy2⟩ : ∃ y, vs[z.addr.toNat]? = some y := ⟨vs[z.addr.toNat]'(by omega), List.getElem?_eq_getElem (by omega)⟩
      obtain ⟨y3, hy3⟩ : ∃ y, vs[z.data.toNat]? = some y := ⟨vs[z.data.toNat]'(by omega), List.getElem?_eq_getElem (by omega)⟩
      have v1 := (HOV.out.cell (p := ⟨vb, vo + z.when_.toNat, none⟩) hvb hvn).trans (HV.out _ y1 hy1)
      have v2 := (HOV.out.cell (p := ⟨vb, vo + z.addr.toNat, none⟩) hvb hvn).trans (HV.out _ y2 hy2)
      have v3 := (HOV.out.cell (p := ⟨vb, vo + z.data.toNat, none⟩) hvb hvn).trans (HV.out _ y3 hy3)
      obtain ⟨md, hmd⟩ : ∃ m, N.mems[z.mem.toNat]? = some m := ⟨N.mems[z.mem.toNat]'(by omega), List.getElem?_eq_getElem (by omega)⟩
      obtain ⟨mb, mo, em, hmb, hmc⟩ := HMM.out.el hmd
      have hmw : mb < wc.heap.size := Nat.lt_of_lt_of_le hmb hCw
      have hmn : mb ∉ bs := fun h => absurd (hbs mb h) (by omega)
      have m1 := (HOV.out.cell (p := ⟨mb, mo + z.mem.toNat * 2 + 1, none⟩) hmw hmn).trans (hmc 1 _ rfl)
      rw [em] at q3V
      have hml := HML.out
      obtain ⟨M, hM⟩ : ∃ m, ms[z.mem.toNat]? = some m := ⟨ms[z.mem.toNat]'(by omega), List.getElem?_eq_getElem (by omega)⟩
      have hmskl : msk.length = ms.length := by have := congrArg List.length hmsl.2; simpa using this
      obtain ⟨Mk, hMk⟩ : ∃ m, msk[z.mem.toNat]? = some m := ⟨msk[z.mem.toNat]'(by omega), List.getElem?_eq_getElem (by omega)⟩
      have eb : Mk.b = M.b := by have := congrArg (fun l => l[z.mem.toNat]?) hmsl.2; simpa [hM, hMk] using this
      have el : Mk.l.length = M.l.length := by have := congrArg (fun l => l[z.mem.toNat]?) hmsl.1; simpa [hM, hMk] using this
      have hwd := hwords _ M md hM hmd
      have c6' := (HOV.out.cell (p := ⟨b6, o6 + z.mem.toNat, none⟩) h6 h6n).trans (H6.out _ M hM)
      unfold MB.val at c6'
      rw [← eb, ← el] at c6'
      rw [hwd, ← el] at m1
      have HMV : Hid (MsIn C V msk) := HMK.out.to HBV.out
      have hlen' : Mk.l.length < 17592186044416 := by rw [el]; exact hbig M (List.mem_of_getElem? hM)
      have e6 : IntKind.u64.wrap (Mk.l.length : Int) = (Mk.l.length : Int) := wrapU _ (by omega) (by omega)
      have HWS : Hid (wrStep vs msk z = if y1 ≠ 0 ∧ y2 < Mk.l.length then msk.set z.mem.toNat ⟨Mk.b, Mk.l.set y2 y3⟩ else msk) := by
        show _ = _
        unfold wrStep
        rw [hMk]
        simp only [vAt, hy1, hy2, hy3, Option.getD_some]
      have hMb : Mk.b ∈ bs := by rw [HBE.out, eb]; exact List.mem_map.2 ⟨M, List.mem_of_getElem? hM, rfl⟩
      have HMk := hidden hMk
      have hm1' : z.mem < (ms.length : Int) := by omega
      have fin : ∀ (U : World), wrStep vs msk z = msk → Below V.heap.size V U → MsIn C U (wrStep vs msk z) ∧ Oth bs wc U := fun U e hb => ⟨by rw [e]; exact HMV.out.to hb, HOV.out.trans (Oth.of_below hb)⟩
      have HFIN := hidden fin
      clear fin hy1 hy2 hy3 hmd hmc em hM hMk hwd hmsl hmskl hml eb el hlen' HMK HOT HBV HF
      generalize z.mem = zm at *
      generalize z.when_ = zw at *
      generalize z.addr = za at *
      generalize z.data = zd at *
      by_cases g1 : y1 = 0
      · subst g1
        have e : wrStep vs msk z = msk := by rw [HWS.out, if_neg (by simp)]
        have E := hidden e
        clear e HWS
        go_quiet (fail)
        go_wp2
        go_roundw
        case measure => simp [intOf]; omega
        case rel => exact ⟨k + 1, _, by omega, by simp, HFN.out.symm, (HFIN.out _ E.out (Below.drewN (Below.refl _ _) _)).1, (HFIN.out _ E.out (Below.drewN (Below.refl _ _) _)).2⟩
      · have hnz : ((y1 : Int) != 0) = true := by simp [g1]
        have g1I : (y1 : Int) ≠ 0 := by omega
        by_cases g2 : y2 < Mk.l.length
        · have g2I : (y2 : Int) < (Mk.l.length : Int) := by omega
          go_quiet (fail)
          go_wp2_with fail
          generalize hU : World.drewN V _ = U
          have HBU : Hid (Below V.heap.size V U) := by rw [← hU]; exact Below.drewN (Below.refl _ _) _
          clear hU
          have hsu := HBU.out.size
          have u0 := (HBU.out.cell (p := ⟨wr.heap.size, 0, none⟩) hdb).trans w0
          have u2 := (HBU.out.cell (p := ⟨wr.heap.size, 2, none⟩) hdb).trans w2
          have u3 := (HBU.out.cell (p := ⟨wr.heap.size, 3, none⟩) hdb).trans w3
          have x2 := (HBU.out.cell (p := ⟨vb, vo + za.toNat, none⟩) (Nat.lt_of_lt_of_le hvb hsv)).trans v2
          have x3 := (HBU.out.cell (p := ⟨vb, vo + zd.toNat, none⟩) (Nat.lt_of_lt_of_le hvb hsv)).trans v3
          have x6 := (HBU.out.cell (p := ⟨b6, o6 + zm.toNat, none⟩) (Nat.lt_of_lt_of_le h6 hsv)).trans c6'
          have hdU : wr.heap.size < U.heap.size := Nat.lt_of_lt_of_le hdb hsu
          have hvU : vb < U.heap.size := Nat.lt_of_lt_of_le (Nat.lt_of_lt_of_le hvb hsv) hsu
          have h6U : b6 < U.heap.size := Nat.lt_of_lt_of_le (Nat.lt_of_lt_of_le h6 hsv) hsu
          have HMU : Hid (MsIn C U msk) := HMV.out.to HBU.out
          have hown := HMU.out.own Mk (List.mem_of_getElem? HMk.out)
          have hcl := World.ownsRow.cellAt (g := Mk.b) (cap := Mk.l.length) hown y2 (by omega)
          have ufz := World.ownsRow.frozenAt (g := Mk.b) (cap := Mk.l.length) hown y2
          obtain ⟨old, uold⟩ : ∃ old, U.cell? ⟨Mk.b, y2, none⟩ = some old := by
            rw [hcl]
            have hL : y2 < (Mk.l.map uV).length := by simpa using g2
            exact ⟨_, List.getElem?_eq_getElem hL⟩
          have HWS2 : Hid (wrStep vs msk z = msk.set zm.toNat ⟨Mk.b, Mk.l.set y2 y3⟩) := by
            show _ = _
            rw [HWS.out, if_pos ⟨g1, g2⟩]
          have HST := hidden (HMU.out.set (a := y2) (y := y3) HMk.out)
          have HOU : Hid (Oth bs wc U) := HOV.out.trans (Oth.of_below HBU.out)
          clear hown hcl HWS w0 w1 w2 w3 v1 v2 v3 m1 c6' q3V HMV HBU HFIN
          go_region_held3 (fun w' => ∀ b' o, b' < U.heap.size → b' ∉ bs → w'.cell? ⟨b', o, none⟩ = U.cell? ⟨b', o, none⟩)
            (first | assumption | (intro b' o h1 h2; rfl) | (intro b' o h1 h2; exact World.cell?_setCell_far _ _ _ _ (fun e => h2 (by have e' : Mk.b = b' := e; rw [← e']; exact hMb))))
            (fail)
          have HEND : Hid (MsIn C ((U.setCell ⟨Mk.b, y2, none⟩ (.int .u64 (y3 : Int))).drew) (wrStep vs msk z) ∧ Oth bs wc ((U.setCell ⟨Mk.b, y2, none⟩ (.int .u64 (y3 : Int))).drew)) := by
            refine ⟨?_, (HOU.out.trans (Oth.of_grown HST.out.2 hMb)).trans (Oth.of_below (Below.refl _ _).drew)⟩
            rw [HWS2.out]
            exact HST.out.1.to (Below.refl _ _).drew
          clear HST HOU HMU HWS2
          go_wp2_with fail
          go_roundw
          case measure => simp [intOf]; omega
          case rel => exact ⟨k + 1, _, by omega, by simp, HFN.out.symm, HEND.out.1, HEND.out.2⟩
        · have hd : decide ((y2 : Int) < (Mk.l.length : Int)) = false := by rw [decide_eq_false_iff_not]; omega
          have e : wrStep vs msk z = msk := by rw [HWS.out, if_neg (fun h => g2 h.2)]
          have E := hidden e
          clear e HWS
          go_quiet (fail)
          go_wp2
          go_roundw
          case measure => simp [intOf]; omega
          case rel => exact ⟨k + 1, _, by omega, by simp, HFN.out.symm, (HFIN.out _ E.out (Below.drewN (Below.refl _ _) _)).1, (HFIN.out _ E.out (Below.drewN (Below.refl _ _) _)).2⟩
    · have hge : ¬ ((k : Int) < (N.wrs.length : Int)) := by omega
      have HF6 : Hid (msk = N.wrs.foldl (wrStep vs) ms) := by
        show _ = _
        rw [HF.out, List.take_of_length_le (by omega)]
      clear HF
      go_wp2
      exact HK.out _ _ _ _ _ _ _ _ _ _ _ _ _ _ _ _ _ _ _ _ _ _ _ _ _ _ _ _ _ _ _ _ _ _ _ _ _ _ _ _ _ _ _ _ _ _ _ _ _ _ _ _ _ ⟨by rw [← HF6.out]; exact HMK.out, HOT.out⟩

end Go.Proofs.Ytlkhmcajedjojaa
