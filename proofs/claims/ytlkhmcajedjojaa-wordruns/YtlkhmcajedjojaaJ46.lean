import Derived.Test.YtlkhmcajedjojaaJ09
namespace Go.Proofs.Ytlkhmcajedjojaa
open Go.RowKit

set_option maxRecDepth 100000 in
set_option maxHeartbeats 16000000 in
theorem nvLoop2 (B : Nat) (w W : World) (S : NetS) (N : NetD) (QN : Hid (∀ j, W.cell? ⟨w.heap.size, j, none⟩ = (#[.slice S.a0 N.ins.length S.c0, .slice S.a1 N.nodes.length S.c1, .slice S.a2 N.regs.length S.c2, .slice S.a3 N.mems.length S.c3, .slice S.a4 N.wrs.length S.c4, .slice S.a5 N.outs.length S.c5] : Array Value)[j]?)) (HAW : Hid (NetAt B W S N)) (hN : w.heap.size < W.heap.size) (hBW : B ≤ W.heap.size) (hlen : N.regs.length < big) (c1 : Bool) (wc : World) (HBc : Hid (Below W.heap.size W wc)) (K' : Act → World → Prop) (Q0 : Exit → Act → World → Prop) (x0 x2 x4 x5 x7 x8 x9 x10 x11 x12 x13 x14 x15 x16 x17 x18 x19 x20 x21 x22 x23 x24 x25 x26 x27 x28 x29 x30 x31 x32 x33 x34 x35 x36 x37 x38 x39 x40 x41 x42 x43 x44 x45 x46 x47 x48 x49 x50 x51 x52 x53 x54 x55 x56 x57 x58 x59 x60 x61 x62 x63 x64 x65 x66 x67 x68 x69 x70 x71 x72 x73 x74 x75 x76 x77 x78 x79 x80 x81 x82 x83 x84 x85 x86 x87 x88 x89 x90 x91 x92 x93 x94 x95 x96 x97 x98 x99 x100 x101 x102 x103 x104 x105 x106 x107 x108 x109 x110 x111 x112 x113 x114 x115 x116 x117 x118 x119 x120 x121 x122 x123 x124 x125 x126 x127 x128 x129 x130 x131 x132 x133 x134 x135 x136 x137 x138 x139 x140 x141 x142 x143 x144 x145 x146 x147 x148 x149 x150 x151 x152 x153 x154 x155 x156 x157 x158 x159 x160 x161 x162 x163 x164 x165 x166 x167 x168 x169 x170 x171 x172 x173 x174 x175 x176 x177 x178 x179 x180 x181 x182 x183 x184 x185 x186 x187 x188 x189 x190 x191 x192 x193 x194 x195 x196 x197 x198 x199 x200 x201 x202 x203 x204 x205 x206 x207 x208 x209 x210 x211 x212 x213 x214 x215 x216 x217 x218 x219 : Value)
    (HK : Hid (∀ (s : Value) (w' : World) (v6 v7 v8 v33 v34 v35 v36 v37 v38 v39 v40 v41 v42 v43 v44 v45 v46 v47 v48 v49 v50 v51 v52 v53 v54 v55 v56 v57 v58 v59 : Value), (∃ c : Bool, s = .bool c ∧ Hid (c = (c1 && N.regs.all regOk)) ∧ Hid (Below W.heap.size W w')) → K' ⟨#[x0, .pointer (some ⟨w.heap.size, 0, none⟩), x2, s, x4, x5, v6, v7, v8, x9, x10, x11, x12, x13, x14, x15, x16, x17, x18, x19, x20, x21, x22, x23, x24, x25, x26, x27, x28, x29, x30, x31, x32, v33, v34, v35, v36, v37, v38, v39, v40, v41, v42, v43, v44, v45, v46, v47, v48, v49, v50, v51, v52, v53, v54, v55, v56, v57, v58, v59, x60, x61, x62, x63, x64, x65, x66, x67, x68, x69, x70, x71, x72, x73, x74, x75, x76, x77, x78, x79, x80, x81, x82, x83, x84, x85, x86, x87, x88, x89, x90, x91, x92, x93, x94, x95, x96, x97, x98, x99, x100, x101, x102, x103, x104, x105, x106, x107, x108, x109, x110, x111, x112, x113, x114, x115, x116, x117, x118, x119, x120, x121, x122, x123, x124, x125, x126, x127, x128, x129, x130, x131, x132, x133, x134, x135, x136, x137, x138, x139, x140, x141, x142, x143, x144, x145, x146, x147, x148, x149, x150, x151, x152, x153, x154, x155, x156, x157, x158, x159, x160, x161, x162, x163, x164, x165, x166, x167, x168, x169, x170, x171, x172, x173, x174, x175, x176, x177, x178, x179, x180, x181, x182, x183, x184, x185, x186, x187, x188, x189, x190, x191, x192, x193, x194, x195, x196, x197, x198, x199, x200, x201, x202, x203, x204, x205, x206, x207, x208, x209, x210, x211, x212, x213, x214, x215, x216, x217, x218, x219], []⟩ w')) :
    Code.wp Try.prog ((Try.f7.body.bind (blockAt 2)).getD .skip) (Exit.then K' Q0) ⟨#[x0, .pointer (some ⟨w.heap.size, 0, none⟩), x2, .bool c1, x4, x5, .int .i64 0, x7, x8, x9, x10, x11, x12, x13, x14, x15, x16, x17, x18, x19, x20, x21, x22, x23, x24, x25, x26, x27, x28, x29, x30, x31, x32, x33, x34, x35, x36, x37, x38, x39, x40, x41, x42, x43, x44, x45, x46, x47, x48, x49, x50, x51, x52, x53, x54, x55, x56, x57, x58, x59, x60, x61, x62, x63, x64, x65, x66, x67, x68, x69, x70, x71, x72, x73, x74, x75, x76, x77, x78, x79, x80, x81, x82, x83, x84, x85, x86, x87, x88, x89, x90, x91, x92, x93, x94, x95, x96, x97, x98, x99, x100, x101, x102, x103, x104, x105, x106, x107, x108, x109, x110, x111, x112, x113, x114, x115, x116, x117, x118, x119, x120, x121, x122, x123, x124, x125, x126, x127, x128, x129, x130, x131, x132, x133, x134, x135, x136, x137, x138, x139, x140, x141, x142, x143, x144, x145, x146, x147, x148, x149, x150, x151, x152, x153, x154, x155, x156, x157, x158, x159, x160, x161, x162, x163, x164, x165, x166, x167, x168, x169, x170, x171, x172, x173, x174, x175, x176, x177, x178, x179, x180, x181, x182, x183, x184, x185, x186, x187, x188, x189, x190, x191, x192, x193, x194, x195, x196, x197, x198, x199, x200, x201, x202, x203, x204, x205, x206, x207, x208, x209, x210, x211, x212, x213, x214, x215, x216, x217, x218, x219], []⟩ wc := by
  simp only [big] at hlen
  conv => arg 2; whnf
  go_wp2_with fail
  go_loopw [3, 6] (fun s i' w' => ∃ (k : Nat) (c : Bool), k ≤ N.regs.length ∧ i' = .int .i64 k ∧ s = .bool c ∧ Hid (c = (c1 && (N.regs.take k).all regOk)) ∧ Hid (Below W.heap.size W w')) (fun _ i' _ => N.regs.length - (intOf i').toNat)
  case atStart => exact ⟨0, c1, Nat.zero_le _, rfl, rfl, by show _ = _; simp, HBc.out⟩
  case round =>
    obtain ⟨k, c, hk, rfl, rfl, HC, HBr⟩ := hrel
    have q2 : wr.cell? ⟨w.heap.size, 2, none⟩ = some (.slice S.a2 N.regs.length S.c2) := (HBr.out.cell (p := ⟨w.heap.size, 2, none⟩) hN).trans (QN.out 2)
    by_cases hlt : k < N.regs.length
    · obtain ⟨z, hz⟩ : ∃ z, N.regs[k]? = some z := ⟨N.regs[k], List.getElem?_eq_getElem hlt⟩
      obtain ⟨rb, ro, ea, hrb, hrc⟩ := HAW.out.r.el hz
      have hrbW : rb < W.heap.size := Nat.lt_of_lt_of_le hrb hBW
      have r0 : wr.cell? ⟨rb, ro + k * 3, none⟩ = _ := (HBr.out.cell (p := ⟨rb, ro + k * 3, none⟩) hrbW).trans (hrc 0 _ rfl)
      have r1 : wr.cell? ⟨rb, ro + k * 3 + 1, none⟩ = _ := (HBr.out.cell (p := ⟨rb, ro + k * 3 + 1, none⟩) hrbW).trans (hrc 1 _ rfl)
      have r2 : wr.cell? ⟨rb, ro + k * 3 + 2, none⟩ = _ := (HBr.out.cell (p := ⟨rb, ro + k * 3 + 2, none⟩) hrbW).trans (hrc 2 _ rfl)
      rw [ea] at q2
      have hltI : (k : Int) < (N.regs.length : Int) := by omega
      have e2 : IntKind.i64.wrap ((k : Int) + 1) = (k : Int) + 1 := wrapI _ (by omega) (by omega)
      have HN : Hid ((N.regs.take (k + 1)).all regOk = ((N.regs.take k).all regOk && (widthOk z.width && decide (z.init ≤ maskN z.width)))) := by show _ = _; rw [all_next _ _ k z hz]; rfl
      have WD : Hid (∀ w, Calls Try.prog 18 #[.int .i64 z.width] w fun e w' => e = .returned (.bool (widthOk z.width)) ∧ w' = w) := fun w => width_any z.width w
      have MK : widthOk z.width = true → Hid (∀ w, Calls Try.prog 19 #[.int .i64 z.width] w fun e w' => e = .returned (.int .u64 (maskN z.width)) ∧ w' = w) := fun hw w => mask_int z.width hw w
      obtain ⟨wd, ini, nx⟩ := z
      simp only at r0 r1 r2 HN WD MK
      generalize widthOk wd = wo at WD HN MK
      generalize maskN wd = mk at HN MK
      clear hz hrc ea
      have hcs : c = false ∨ (c = true ∧ wo = false) ∨ (c = true ∧ wo = true) := by cases c <;> cases wo <;> simp
      rcases hcs with rfl | ⟨rfl, rfl⟩ | ⟨rfl, rfl⟩
      · go_wp2_with (go_at_call 18; refine (WD.out _).mono ?_; rintro e w' ⟨rfl, rfl⟩)
        go_quiet (fail)
        go_wp2
        go_roundw
        case measure => simp [intOf]; omega
        case rel => exact ⟨k + 1, _, by omega, by simp, rfl, by show _ = _; rw [HN.out, ← Bool.and_assoc, ← HC.out]; rfl, Below.drewN (HBr.out.alloc HBr.out.size _) _⟩
      · go_wp2_with (go_at_call 18; refine (WD.out _).mono ?_; rintro e w' ⟨rfl, rfl⟩)
        go_quiet (fail)
        go_wp2
        go_roundw
        case measure => simp [intOf]; omega
        case rel => exact ⟨k + 1, _, by omega, by simp, rfl, by show _ = _; rw [HN.out, ← Bool.and_assoc, ← HC.out]; rfl, Below.drewN (HBr.out.alloc HBr.out.size _) _⟩
      · have MK' := MK rfl
        clear MK
        go_wp2_with (go_at_call 18; refine (WD.out _).mono ?_; rintro e w' ⟨rfl, rfl⟩)
        go_quiet ((go_at_call 19; exact Calls.quiet_of_same (MK'.out _)))
        go_wp2
        go_roundw
        case measure => simp [intOf]; omega
        case rel => exact ⟨k + 1, _, by omega, by simp, rfl, by show _ = _; rw [HN.out, ← Bool.and_assoc, ← HC.out]; rfl, Below.drewN (HBr.out.alloc HBr.out.size _) _⟩
    · have hge : ¬ ((k : Int) < (N.regs.length : Int)) := by omega
      have HE : Hid (c = (c1 && N.regs.all regOk)) := by show _ = _; rw [HC.out, List.take_of_length_le (by omega)]
      clear HC
      go_wp2
      exact HK.out _ _ _ _ _ _ _ _ _ _ _ _ _ _ _ _ _ _ _ _ _ _ _ _ _ _ _ _ _ _ _ _ ⟨c, rfl, HE.out, HBr.out⟩

end Go.Proofs.Ytlkhmcajedjojaa
