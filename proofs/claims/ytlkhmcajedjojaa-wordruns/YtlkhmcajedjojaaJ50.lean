import Derived.Test.YtlkhmcajedjojaaJ09
namespace Go.Proofs.Ytlkhmcajedjojaa
open Go.RowKit

set_option maxRecDepth 100000 in
set_option maxHeartbeats 16000000 in
theorem nvLoop6 (B : Nat) (w W : World) (S : NetS) (N : NetD) (QN : Hid (∀ j, W.cell? ⟨w.heap.size, j, none⟩ = (#[.slice S.a0 N.ins.length S.c0, .slice S.a1 N.nodes.length S.c1, .slice S.a2 N.regs.length S.c2, .slice S.a3 N.mems.length S.c3, .slice S.a4 N.wrs.length S.c4, .slice S.a5 N.outs.length S.c5] : Array Value)[j]?)) (HAW : Hid (NetAt B W S N)) (hN : w.heap.size < W.heap.size) (hBW : B ≤ W.heap.size) (hlen : N.wrs.length < big) (c5 : Bool) (wc : World) (HBc : Hid (Below W.heap.size W wc)) (K' : Act → World → Prop) (Q0 : Exit → Act → World → Prop) (x0 x2 x4 x5 x6 x7 x8 x9 x10 x11 x12 x14 x15 x16 x17 x18 x19 x20 x21 x22 x23 x24 x25 x26 x27 x28 x29 x30 x31 x32 x33 x34 x35 x36 x37 x38 x39 x40 x41 x42 x43 x44 x45 x46 x47 x48 x49 x50 x51 x52 x53 x54 x55 x56 x57 x58 x59 x60 x61 x62 x63 x64 x65 x66 x67 x68 x69 x70 x71 x72 x73 x74 x75 x76 x77 x78 x79 x80 x81 x82 x83 x84 x85 x86 x87 x88 x89 x90 x91 x92 x93 x94 x95 x96 x97 x98 x99 x100 x101 x102 x103 x104 x105 x106 x107 x108 x109 x110 x111 x112 x113 x114 x115 x116 x117 x118 x119 x120 x121 x122 x123 x124 x125 x126 x127 x128 x129 x130 x131 x132 x133 x134 x135 x136 x137 x138 x139 x140 x141 x142 x143 x144 x145 x146 x147 x148 x149 x150 x151 x152 x153 x154 x155 x156 x157 x158 x159 x160 x161 x162 x163 x164 x165 x166 x167 x168 x169 x170 x171 x172 x173 x174 x175 x176 x177 x178 x179 x180 x181 x182 x183 x184 x185 x186 x187 x188 x189 x190 x191 x192 x193 x194 x195 x196 x197 x198 x199 x200 x201 x202 x203 x204 x205 x206 x207 x208 x209 x210 x211 x212 x213 x214 x215 x216 x217 x218 x219 : Value)
    (HK : Hid (∀ (s : Value) (w' : World) (v13 v14 v133 v134 v135 v136 v137 v138 v139 v140 v141 v142 v143 v144 v145 v146 v147 v148 v149 v150 v151 v152 v153 v154 v155 v156 v157 v158 v159 v160 v161 v162 v163 v164 v165 v166 v167 v168 v169 v170 v171 v172 v173 v174 v175 v176 v177 v178 v179 v180 v181 v182 v183 v184 v185 v186 v187 v188 v189 v190 v191 : Value), (∃ c : Bool, s = .bool c ∧ Hid (c = (c5 && N.wrs.all (wrOk N))) ∧ Hid (Below W.heap.size W w')) → K' ⟨#[x0, .pointer (some ⟨w.heap.size, 0, none⟩), x2, s, x4, x5, x6, x7, x8, x9, x10, x11, x12, v13, v14, x15, x16, x17, x18, x19, x20, x21, x22, x23, x24, x25, x26, x27, x28, x29, x30, x31, x32, x33, x34, x35, x36, x37, x38, x39, x40, x41, x42, x43, x44, x45, x46, x47, x48, x49, x50, x51, x52, x53, x54, x55, x56, x57, x58, x59, x60, x61, x62, x63, x64, x65, x66, x67, x68, x69, x70, x71, x72, x73, x74, x75, x76, x77, x78, x79, x80, x81, x82, x83, x84, x85, x86, x87, x88, x89, x90, x91, x92, x93, x94, x95, x96, x97, x98, x99, x100, x101, x102, x103, x104, x105, x106, x107, x108, x109, x110, x111, x112, x113, x114, x115, x116, x117, x118, x119, x120, x121, x122, x123, x124, x125, x126, x127, x128, x129, x130, x131, x132, v133, v134, v135, v136, v137, v138, v139, v140, v141, v142, v143, v144, v145, v146, v147, v148, v149, v150, v151, v152, v153, v154, v155, v156, v157, v158, v159, v160, v161, v162, v163, v164, v165, v166, v167, v168, v169, v170, v171, v172, v173, v174, v175, v176, v177, v178, v179, v180, v181, v182, v183, v184, v185, v186, v187, v188, v189, v190, v191, x192, x193, x194, x195, x196, x197, x198, x199, x200, x201, x202, x203, x204, x205, x206, x207, x208, x209, x210, x211, x212, x213, x214, x215, x216, x217, x218, x219], []⟩ w')) :
    Code.wp Try.prog ((Try.f7.body.bind (blockAt 10)).getD .skip) (Exit.then K' Q0) ⟨#[x0, .pointer (some ⟨w.heap.size, 0, none⟩), x2, .bool c5, x4, x5, x6, x7, x8, x9, x10, x11, x12, .int .i64 0, x14, x15, x16, x17, x18, x19, x20, x21, x22, x23, x24, x25, x26, x27, x28, x29, x30, x31, x32, x33, x34, x35, x36, x37, x38, x39, x40, x41, x42, x43, x44, x45, x46, x47, x48, x49, x50, x51, x52, x53, x54, x55, x56, x57, x58, x59, x60, x61, x62, x63, x64, x65, x66, x67, x68, x69, x70, x71, x72, x73, x74, x75, x76, x77, x78, x79, x80, x81, x82, x83, x84, x85, x86, x87, x88, x89, x90, x91, x92, x93, x94, x95, x96, x97, x98, x99, x100, x101, x102, x103, x104, x105, x106, x107, x108, x109, x110, x111, x112, x113, x114, x115, x116, x117, x118, x119, x120, x121, x122, x123, x124, x125, x126, x127, x128, x129, x130, x131, x132, x133, x134, x135, x136, x137, x138, x139, x140, x141, x142, x143, x144, x145, x146, x147, x148, x149, x150, x151, x152, x153, x154, x155, x156, x157, x158, x159, x160, x161, x162, x163, x164, x165, x166, x167, x168, x169, x170, x171, x172, x173, x174, x175, x176, x177, x178, x179, x180, x181, x182, x183, x184, x185, x186, x187, x188, x189, x190, x191, x192, x193, x194, x195, x196, x197, x198, x199, x200, x201, x202, x203, x204, x205, x206, x207, x208, x209, x210, x211, x212, x213, x214, x215, x216, x217, x218, x219], []⟩ wc := by
  simp only [big] at hlen
  conv => arg 2; whnf
  go_wp2_with fail
  go_loopw [3, 13] (fun s i' w' => ∃ (k : Nat) (c : Bool), k ≤ N.wrs.length ∧ i' = .int .i64 k ∧ s = .bool c ∧ Hid (c = (c5 && (N.wrs.take k).all (wrOk N))) ∧ Hid (Below W.heap.size W w')) (fun _ i' _ => N.wrs.length - (intOf i').toNat)
  case atStart => exact ⟨0, c5, Nat.zero_le _, rfl, rfl, by show _ = _; simp, HBc.out⟩
  case round =>
    obtain ⟨k, c, hk, rfl, rfl, HC, HBr⟩ := hrel
    have q0 : wr.cell? ⟨w.heap.size, 0, none⟩ = some (.slice S.a0 N.ins.length S.c0) := (HBr.out.cell (p := ⟨w.heap.size, 0, none⟩) hN).trans (QN.out 0)
    have q1 : wr.cell? ⟨w.heap.size, 1, none⟩ = some (.slice S.a1 N.nodes.length S.c1) := (HBr.out.cell (p := ⟨w.heap.size, 1, none⟩) hN).trans (QN.out 1)
    have q2 : wr.cell? ⟨w.heap.size, 2, none⟩ = some (.slice S.a2 N.regs.length S.c2) := (HBr.out.cell (p := ⟨w.heap.size, 2, none⟩) hN).trans (QN.out 2)
    have q3 : wr.cell? ⟨w.heap.size, 3, none⟩ = some (.slice S.a3 N.mems.length S.c3) := (HBr.out.cell (p := ⟨w.heap.size, 3, none⟩) hN).trans (QN.out 3)
    have q4 : wr.cell? ⟨w.heap.size, 4, none⟩ = some (.slice S.a4 N.wrs.length S.c4) := (HBr.out.cell (p := ⟨w.heap.size, 4, none⟩) hN).trans (QN.out 4)
    have q5 : wr.cell? ⟨w.heap.size, 5, none⟩ = some (.slice S.a5 N.outs.length S.c5) := (HBr.out.cell (p := ⟨w.heap.size, 5, none⟩) hN).trans (QN.out 5)
    by_cases hlt : k < N.wrs.length
    · by_cases hct : c = true
      · subst hct
        obtain ⟨z, hz⟩ : ∃ z, N.wrs[k]? = some z := ⟨N.wrs[k], List.getElem?_eq_getElem hlt⟩
        obtain ⟨rb, ro, ea, hrb, hrc⟩ := HAW.out.wr.el hz
        have hrbW : rb < W.heap.size := Nat.lt_of_lt_of_le hrb hBW
        have r0 : wr.cell? ⟨rb, ro + k * 4, none⟩ = _ := (HBr.out.cell (p := ⟨rb, ro + k * 4, none⟩) hrbW).trans (hrc 0 _ rfl)
        have r1 : wr.cell? ⟨rb, ro + k * 4 + 1, none⟩ = _ := (HBr.out.cell (p := ⟨rb, ro + k * 4 + 1, none⟩) hrbW).trans (hrc 1 _ rfl)
        have r2 : wr.cell? ⟨rb, ro + k * 4 + 2, none⟩ = _ := (HBr.out.cell (p := ⟨rb, ro + k * 4 + 2, none⟩) hrbW).trans (hrc 2 _ rfl)
        have r3 : wr.cell? ⟨rb, ro + k * 4 + 3, none⟩ = _ := (HBr.out.cell (p := ⟨rb, ro + k * 4 + 3, none⟩) hrbW).trans (hrc 3 _ rfl)
        rw [ea] at q4
        have hltI : (k : Int) < (N.wrs.length : Int) := by omega
        have e2 : IntKind.i64.wrap ((k : Int) + 1) = (k : Int) + 1 := wrapI _ (by omega) (by omega)
        have HN : Hid ((c5 && (N.wrs.take (k + 1)).all (wrOk N)) = wrOk N z) := by
          show _ = _
          rw [all_next _ _ k z hz, ← Bool.and_assoc, ← HC.out]; rfl
        have hNr : w.heap.size < wr.heap.size := Nat.lt_of_lt_of_le hN HBr.out.size
        have hrbr : rb < wr.heap.size := Nat.lt_of_lt_of_le hrbW HBr.out.size
        clear HC hrc
        have hcs : (¬ 0 ≤ z.mem ∨ (0 ≤ z.mem ∧ ¬ z.mem < (N.mems.length : Int)) ∨ (0 ≤ z.mem ∧ z.mem < (N.mems.length : Int) ∧ ¬ 0 ≤ z.addr) ∨ (0 ≤ z.mem ∧ z.mem < (N.mems.length : Int) ∧ 0 ≤ z.addr ∧ ¬ z.addr < (N.nodes.length : Int))) ∨ (0 ≤ z.mem ∧ z.mem < (N.mems.length : Int) ∧ 0 ≤ z.addr ∧ z.addr < (N.nodes.length : Int)) := by omega
        rcases hcs with hf | ⟨g1, g2, g3, g4⟩
        · have HE : Hid (false = (c5 && (N.wrs.take (k + 1)).all (wrOk N))) := by
            show _ = _
            rw [HN.out]
            have : decide (0 ≤ z.mem ∧ z.mem < (N.mems.length : Int) ∧ 0 ≤ z.addr ∧ z.addr < (N.nodes.length : Int)) = false := by rw [decide_eq_false_iff_not]; omega
            unfold wrOk; rw [this]; rfl
          obtain ⟨me, wh, ad, da⟩ := z
          simp only at r0 r1 r2 r3 hf
          clear HN hz ea
          rcases hf with g1 | ⟨g1, g2⟩ | ⟨g1, g2, g3⟩ | ⟨g1, g2, g3, g4⟩
          all_goals
            go_wp2
            go_quiet (fail)
            go_wp2
            go_roundw
            case measure => simp [intOf]; omega
            case rel => exact ⟨k + 1, _, by omega, by simp, rfl, HE.out, Below.drewN (HBr.out.alloc HBr.out.size _) _⟩
        · obtain ⟨m, hm⟩ : ∃ m, N.mems[z.mem.toNat]? = some m := ⟨N.mems[z.mem.toNat]'(by omega), List.getElem?_eq_getElem (by omega)⟩
          obtain ⟨mb, mo, em, hmb, hmc⟩ := HAW.out.m.el hm
          have hmbW : mb < W.heap.size := Nat.lt_of_lt_of_le hmb hBW
          have m0 : wr.cell? ⟨mb, mo + z.mem.toNat * 2, none⟩ = some (.int .i64 m.width) := (HBr.out.cell (p := ⟨mb, mo + z.mem.toNat * 2, none⟩) hmbW).trans (hmc 0 _ rfl)
          have hmbr : mb < wr.heap.size := Nat.lt_of_lt_of_le hmbW HBr.out.size
          have HM : Hid (wrOk N z = (wideOf N z.when_ 1 && wideOf N z.data m.width)) := by
            show _ = _
            unfold wrOk memW; rw [hm, decide_eq_true (by exact ⟨g1, g2, g3, g4⟩)]; simp
          have WN : Hid (∀ (i x : Int) w', Below wr.heap.size wr w' → Calls Try.prog 21 #[.agg #[.slice S.a0 N.ins.length S.c0, .slice S.a1 N.nodes.length S.c1, .slice S.a2 N.regs.length S.c2, .slice (some ⟨mb, mo, none⟩) N.mems.length S.c3, .slice (some ⟨rb, ro, none⟩) N.wrs.length S.c4, .slice S.a5 N.outs.length S.c5], .int .i64 i, .int .i64 x] w' fun e w'' => e = .returned (.bool (wideOf N i x)) ∧ Below w'.heap.size w' w'') := by
            intro i x w' hw'
            have := wideNode_any B w' S N (HAW.out.to ((HBr.out.mono hBW).trans (hw'.mono (Nat.le_trans hBW HBr.out.size)))) (Nat.le_trans (Nat.le_trans hBW HBr.out.size) hw'.size) i x
            unfold NetS.cells at this; rw [ea, em] at this; exact this
          rw [em] at q3
          obtain ⟨me, wh, ad, da⟩ := z
          simp only at r0 r1 r2 r3 g1 g2 g3 g4 m0 HN HM
          have W1 := hidden (WN.out wh 1)
          have W2 := hidden (WN.out da m.width)
          generalize m.width = mw at m0 HM W2
          clear hz ea em hmc hm WN
          generalize wideOf N da mw = b2 at HM W2
          generalize wideOf N wh 1 = b1 at HM W1
          have HE : Hid ((b1 && b2) = (c5 && (N.wrs.take (k + 1)).all (wrOk N))) := by show _ = _; rw [HN.out, HM.out]
          clear HN HM
          go_wp2_with fail
          generalize hq : wr.alloc (.cells #[.int .i64 me, .int .i64 wh, .int .i64 ad, .int .i64 da] 50) = wq
          have HBq : Hid (Below wr.heap.size wr wq) := by rw [← hq]; exact (Below.refl _ _).alloc (Nat.le_refl _) _
          have DQ : Hid (∀ j, wq.cell? ⟨wr.heap.size, j, none⟩ = (#[.int .i64 me, .int .i64 wh, .int .i64 ad, .int .i64 da] : Array Value)[j]?) := by rw [← hq]; intro j; simp
          have hqs : wr.heap.size < wq.heap.size := by rw [← hq]; simp
          clear hq
          have d0 : wq.cell? ⟨wr.heap.size, 0, none⟩ = some (.int .i64 me) := DQ.out 0
          have d1 : wq.cell? ⟨wr.heap.size, 1, none⟩ = some (.int .i64 wh) := DQ.out 1
          have d3 : wq.cell? ⟨wr.heap.size, 3, none⟩ = some (.int .i64 da) := DQ.out 3
          have mq : wq.cell? ⟨mb, mo + me.toNat * 2, none⟩ = some (.int .i64 mw) := (HBq.out.cell (p := ⟨mb, mo + me.toNat * 2, none⟩) hmbr).trans m0
          have p0 : wq.cell? ⟨w.heap.size, 0, none⟩ = some (.slice S.a0 N.ins.length S.c0) := (HBq.out.cell (p := ⟨w.heap.size, 0, none⟩) hNr).trans q0
          have p1 : wq.cell? ⟨w.heap.size, 1, none⟩ = some (.slice S.a1 N.nodes.length S.c1) := (HBq.out.cell (p := ⟨w.heap.size, 1, none⟩) hNr).trans q1
          have p2 : wq.cell? ⟨w.heap.size, 2, none⟩ = some (.slice S.a2 N.regs.length S.c2) := (HBq.out.cell (p := ⟨w.heap.size, 2, none⟩) hNr).trans q2
          have p3 : wq.cell? ⟨w.heap.size, 3, none⟩ = some (.slice (some ⟨mb, mo, none⟩) N.mems.length S.c3) := (HBq.out.cell (p := ⟨w.heap.size, 3, none⟩) hNr).trans q3
          have p4 : wq.cell? ⟨w.heap.size, 4, none⟩ = some (.slice (some ⟨rb, ro, none⟩) N.wrs.length S.c4) := (HBq.out.cell (p := ⟨w.heap.size, 4, none⟩) hNr).trans q4
          have p5 : wq.cell? ⟨w.heap.size, 5, none⟩ = some (.slice S.a5 N.outs.length S.c5) := (HBq.out.cell (p := ⟨w.heap.size, 5, none⟩) hNr).trans q5

          have hNq : w.heap.size < wq.heap.size := Nat.lt_trans hNr hqs
          have hmbq : mb < wq.heap.size := Nat.lt_trans hmbr hqs
          clear q0 q1 q2 q3 q4 q5 r0 r1 r2 r3 m0 DQ
          cases b1
          · refine wp_region_noPanic ?_
            refine wp_region_held_drew (S := (fun w' => Below wq.heap.size wq w' ∧ (∀ b' o, b' < wq.heap.size → w'.cell? ⟨b', o, none⟩ = wq.cell? ⟨b', o, none⟩))) (by kernel_rfl) (by (first | assumption | exact sees_of (Below.refl _ _) | exact sees_of (Below.refl _ _).drew | exact sees_after (by assumption) (by assumption))) (fun hHeld => ?_)
            refine wpAnyH_take (i := 0) (oi := _) (v := ?_) rfl (by kernel_rfl) (by kernel_rfl) (by kernel_rfl) (fun _ _ _ h => h) (Or.inl ⟨by rfl, ?_⟩) (by assumption) ?_
            rotate_left
            · (intro w0 hSw; (try dsimp only at hSw); (try simp only [List.getElem_toArray, List.getElem_cons_zero]); go_simp; try (with_reducible rfl))
            try simp only [Act.put, List.getElem_toArray, List.getElem_cons_zero, List.setIfInBounds_toArray, List.set_cons_zero, List.set_cons_succ]
            refine wpAnyH_take (i := 1) (oi := _) (v := ?_) rfl (by kernel_rfl) (by kernel_rfl) (by kernel_rfl) (fun _ _ _ h => h) (Or.inl ⟨by rfl, ?_⟩) (by assumption) ?_
            rotate_left
            · (intro w0 hSw; (try dsimp only at hSw); (try simp only [List.getElem_toArray, List.getElem_cons_zero, List.getElem_cons_succ]); go_simp; try (with_reducible rfl))
            try simp only [Act.put, List.getElem_toArray, List.getElem_cons_zero, List.getElem_cons_succ, List.setIfInBounds_toArray, List.set_cons_zero, List.set_cons_succ]
            refine wpAnyH_take (i := 2) (oi := _) (v := ?_) rfl (by kernel_rfl) (by kernel_rfl) (by kernel_rfl) (fun _ _ _ h => h) (Or.inl ⟨by rfl, ?_⟩) (by assumption) ?_
            rotate_left
            · (intro w0 hSw; (try dsimp only at hSw); (try simp only [List.getElem_toArray, List.getElem_cons_zero, List.getElem_cons_succ]); go_simp; try (with_reducible rfl))
            try simp only [Act.put, List.getElem_toArray, List.getElem_cons_zero, List.getElem_cons_succ, List.setIfInBounds_toArray, List.set_cons_zero, List.set_cons_succ]
            refine wpAnyH_take (i := 3) (oi := _) (v := ?_) rfl (by kernel_rfl) (by kernel_rfl) (by kernel_rfl) (fun _ _ _ h => h) (Or.inl ⟨by rfl, ?_⟩) (by assumption) ?_
            rotate_left
            · (intro w0 hSw; (try dsimp only at hSw); (try simp only [List.getElem_toArray, List.getElem_cons_zero, List.getElem_cons_succ]); go_simp; try (with_reducible rfl))
            try simp only [Act.put, List.getElem_toArray, List.getElem_cons_zero, List.getElem_cons_succ, List.setIfInBounds_toArray, List.set_cons_zero, List.set_cons_succ]
            refine wpAnyH_take (i := 4) (oi := _) (v := ?_) rfl (by kernel_rfl) (by kernel_rfl) (by kernel_rfl) (fun _ _ _ h => h) (Or.inl ⟨by rfl, ?_⟩) (by assumption) ?_
            rotate_left
            · (intro w0 hSw; (try dsimp only at hSw); (try simp only [List.getElem_toArray, List.getElem_cons_zero, List.getElem_cons_succ]); go_simp; try (with_reducible rfl))
            try simp only [Act.put, List.getElem_toArray, List.getElem_cons_zero, List.getElem_cons_succ, List.setIfInBounds_toArray, List.set_cons_zero, List.set_cons_succ]
            refine wpAnyH_ready (rs := [5]) (by kernel_rfl) (by simp) ?_
            refine AllReadyH.cons (o := _) rfl (fun K hK => ?_) AllReadyH.nil
            (try simp only [List.getElem_toArray, List.getElem_cons_zero, List.getElem_cons_succ])
            go_simp
            go_at_call 21; refine (W1.out _ (HBq.out.trans (Below.mono (And.left (by assumption)) HBq.out.size))).mono ?_; rintro e w2 ⟨rfl, hb2⟩
            go_wp2_with fail
            refine hK.out _ _ (by (first | assumption | exact sees_of (Below.refl _ _) | exact sees_of (Below.refl _ _).drew | exact sees_after (by assumption) (by assumption))) (fun hHeld1 => ?_)
            clear hK K
            try simp only [Act.put, List.setIfInBounds_toArray, List.set_cons_zero, List.set_cons_succ]
            refine wpAnyH_take (i := 6) (oi := _) (v := ?_) rfl (by kernel_rfl) (by kernel_rfl) (by kernel_rfl) (fun _ _ _ h => h) (Or.inl ⟨by rfl, ?_⟩) (by assumption) ?_
            rotate_left
            · (intro w0 hSw; (try dsimp only at hSw); (try simp only [List.getElem_toArray, List.getElem_cons_zero, List.getElem_cons_succ]); go_simp; try (with_reducible rfl))
            try simp only [Act.put, List.getElem_toArray, List.getElem_cons_zero, List.getElem_cons_succ, List.setIfInBounds_toArray, List.set_cons_zero, List.set_cons_succ]
            refine wpAnyH_take (i := 7) (oi := _) (v := ?_) rfl (by kernel_rfl) (by kernel_rfl) (by kernel_rfl) (fun _ _ _ h => h) (Or.inl ⟨by rfl, ?_⟩) (by assumption) ?_
            rotate_left
            · (intro w0 hSw; (try dsimp only at hSw); (try simp only [List.getElem_toArray, List.getElem_cons_zero, List.getElem_cons_succ]); go_simp; try (with_reducible rfl))
            try simp only [Act.put, List.getElem_toArray, List.getElem_cons_zero, List.getElem_cons_succ, List.setIfInBounds_toArray, List.set_cons_zero, List.set_cons_succ]
            refine wpAnyH_take (i := 8) (oi := _) (v := undef) rfl (by kernel_rfl) (by kernel_rfl) (by kernel_rfl) (fun _ _ _ h => h) (Or.inr ⟨by rfl, rfl⟩) (by assumption) ?_
            try simp only [Act.put, List.getElem_toArray, List.getElem_cons_zero, List.getElem_cons_succ, List.setIfInBounds_toArray, List.set_cons_zero, List.set_cons_succ]
            refine wpAnyH_take (i := 9) (oi := _) (v := undef) rfl (by kernel_rfl) (by kernel_rfl) (by kernel_rfl) (fun _ _ _ h => h) (Or.inr ⟨by rfl, rfl⟩) (by assumption) ?_
            try simp only [Act.put, List.getElem_toArray, List.getElem_cons_zero, List.getElem_cons_succ, List.setIfInBounds_toArray, List.set_cons_zero, List.set_cons_succ]
            refine wpAnyH_take (i := 10) (oi := _) (v := undef) rfl (by kernel_rfl) (by kernel_rfl) (by kernel_rfl) (fun _ _ _ h => h) (Or.inr ⟨by rfl, rfl⟩) (by assumption) ?_
            try simp only [Act.put, List.getElem_toArray, List.getElem_cons_zero, List.getElem_cons_succ, List.setIfInBounds_toArray, List.set_cons_zero, List.set_cons_succ]
            refine wpAnyH_take (i := 11) (oi := _) (v := undef) rfl (by kernel_rfl) (by kernel_rfl) (by kernel_rfl) (fun _ _ _ h => h) (Or.inr ⟨by rfl, rfl⟩) (by assumption) ?_
            try simp only [Act.put, List.getElem_toArray, List.getElem_cons_zero, List.getElem_cons_succ, List.setIfInBounds_toArray, List.set_cons_zero, List.set_cons_succ]
            refine wpAnyH_take (i := 12) (oi := _) (v := undef) rfl (by kernel_rfl) (by kernel_rfl) (by kernel_rfl) (fun _ _ _ h => h) (Or.inr ⟨by rfl, rfl⟩) (by assumption) ?_
            try simp only [Act.put, List.getElem_toArray, List.getElem_cons_zero, List.getElem_cons_succ, List.setIfInBounds_toArray, List.set_cons_zero, List.set_cons_succ]
            refine wpAnyH_take (i := 13) (oi := _) (v := undef) rfl (by kernel_rfl) (by kernel_rfl) (by kernel_rfl) (fun _ _ _ h => h) (Or.inr ⟨by rfl, rfl⟩) (by assumption) ?_
            try simp only [Act.put, List.getElem_toArray, List.getElem_cons_zero, List.getElem_cons_succ, List.setIfInBounds_toArray, List.set_cons_zero, List.set_cons_succ]
            refine wpAnyH_take (i := 14) (oi := _) (v := undef) rfl (by kernel_rfl) (by kernel_rfl) (by kernel_rfl) (fun _ _ _ h => h) (Or.inr ⟨by rfl, rfl⟩) (by assumption) ?_
            try simp only [Act.put, List.getElem_toArray, List.getElem_cons_zero, List.getElem_cons_succ, List.setIfInBounds_toArray, List.set_cons_zero, List.set_cons_succ]
            refine wpAnyH_take (i := 15) (oi := _) (v := undef) rfl (by kernel_rfl) (by kernel_rfl) (by kernel_rfl) (fun _ _ _ h => h) (Or.inr ⟨by rfl, rfl⟩) (by assumption) ?_
            try simp only [Act.put, List.getElem_toArray, List.getElem_cons_zero, List.getElem_cons_succ, List.setIfInBounds_toArray, List.set_cons_zero, List.set_cons_succ]
            refine wpAnyH_take (i := 16) (oi := _) (v := undef) rfl (by kernel_rfl) (by kernel_rfl) (by kernel_rfl) (fun _ _ _ h => h) (Or.inr ⟨by rfl, rfl⟩) (by assumption) ?_
            try simp only [Act.put, List.getElem_toArray, List.getElem_cons_zero, List.getElem_cons_succ, List.setIfInBounds_toArray, List.set_cons_zero, List.set_cons_succ]
            refine wpAnyH_take (i := 17) (oi := _) (v := undef) rfl (by kernel_rfl) (by kernel_rfl) (by kernel_rfl) (fun _ _ _ h => h) (Or.inr ⟨by rfl, rfl⟩) (by assumption) ?_
            try simp only [Act.put, List.getElem_toArray, List.getElem_cons_zero, List.getElem_cons_succ, List.setIfInBounds_toArray, List.set_cons_zero, List.set_cons_succ]
            refine wpAnyH_take (i := 18) (oi := _) (v := undef) rfl (by kernel_rfl) (by kernel_rfl) (by kernel_rfl) (fun _ _ _ h => h) (Or.inr ⟨by rfl, rfl⟩) (by assumption) ?_
            try simp only [Act.put, List.getElem_toArray, List.getElem_cons_zero, List.getElem_cons_succ, List.setIfInBounds_toArray, List.set_cons_zero, List.set_cons_succ]
            refine wpAnyH_take (i := 19) (oi := _) (v := ?_) rfl (by kernel_rfl) (by kernel_rfl) (by kernel_rfl) (fun _ _ _ h => h) (Or.inl ⟨by rfl, ?_⟩) (by assumption) ?_
            rotate_left
            · (intro w0 hSw; (try dsimp only at hSw); (try simp only [List.getElem_toArray, List.getElem_cons_zero, List.getElem_cons_succ]); go_simp; try (with_reducible rfl))
            try simp only [Act.put, List.getElem_toArray, List.getElem_cons_zero, List.getElem_cons_succ, List.setIfInBounds_toArray, List.set_cons_zero, List.set_cons_succ]
            refine wpAnyH_take (i := 20) (oi := _) (v := ?_) rfl (by kernel_rfl) (by kernel_rfl) (by kernel_rfl) (fun _ _ _ h => h) (Or.inl ⟨by rfl, ?_⟩) (by assumption) ?_
            rotate_left
            · (intro w0 hSw; (try dsimp only at hSw); (try simp only [List.getElem_toArray, List.getElem_cons_zero, List.getElem_cons_succ]); go_simp; try (with_reducible rfl))
            try simp only [Act.put, List.getElem_toArray, List.getElem_cons_zero, List.getElem_cons_succ, List.setIfInBounds_toArray, List.set_cons_zero, List.set_cons_succ]
            refine wpAnyH_done (by kernel_rfl) ?_ _
            refine NoPanic.normal ?_
            have HB2 : Hid (Below wq.heap.size wq _) := And.left (by assumption)
            go_wp2_with fail
            go_roundw
            case measure => simp [intOf]; omega
            case rel => exact ⟨k + 1, _, by omega, by simp, rfl, HE.out, HBr.out.trans ((HBq.out.trans (HB2.out.mono HBq.out.size)).mono HBr.out.size)⟩
          · go_region_held3 (fun w' => Below wq.heap.size wq w' ∧ (∀ b' o, b' < wq.heap.size → w'.cell? ⟨b', o, none⟩ = wq.cell? ⟨b', o, none⟩))
              (first | assumption | exact sees_of (Below.refl _ _) | exact sees_of (Below.refl _ _).drew | exact sees_after (by assumption) (by assumption))
              (first | (go_at_call_of 21 (Value.int IntKind.i64 wh); refine (W1.out _ (HBq.out.trans (Below.mono (And.left (by assumption)) HBq.out.size))).mono ?_; rintro e w2 ⟨rfl, hb2⟩) | (go_at_call_of 21 (Value.int IntKind.i64 da); refine (W2.out _ (HBq.out.trans (Below.mono (And.left (by assumption)) HBq.out.size))).mono ?_; rintro e w2 ⟨rfl, hb2⟩))
            all_goals
              have HB2 : Hid (Below wq.heap.size wq _) := And.left (by assumption)
              go_wp2_with fail
              go_roundw
              case measure => simp [intOf]; omega
              case rel => exact ⟨k + 1, _, by omega, by simp, rfl, HE.out, HBr.out.trans ((HBq.out.trans (HB2.out.mono HBq.out.size)).mono HBr.out.size)⟩
      · have hcf : c = false := Bool.eq_false_iff.2 hct
        subst hcf
        have hltI : (k : Int) < (N.wrs.length : Int) := by omega
        have HE : Hid (false = (c5 && N.wrs.all (wrOk N))) := by
          show _ = _
          rw [all_cutL (wrOk N) N.wrs k, ← Bool.and_assoc, ← HC.out]; rfl
        clear HC hct
        go_wp2
        exact HK.out _ _ _ _ _ _ _ _ _ _ _ _ _ _ _ _ _ _ _ _ _ _ _ _ _ _ _ _ _ _ _ _ _ _ _ _ _ _ _ _ _ _ _ _ _ _ _ _ _ _ _ _ _ _ _ _ _ _ _ _ _ _ _ ⟨false, rfl, HE.out, HBr.out⟩
    · have hge : ¬ ((k : Int) < (N.wrs.length : Int)) := by omega
      have HE : Hid (c = (c5 && N.wrs.all (wrOk N))) := by show _ = _; rw [HC.out, List.take_of_length_le (by omega)]
      clear HC
      go_wp2
      exact HK.out _ _ _ _ _ _ _ _ _ _ _ _ _ _ _ _ _ _ _ _ _ _ _ _ _ _ _ _ _ _ _ _ _ _ _ _ _ _ _ _ _ _ _ _ _ _ _ _ _ _ _ _ _ _ _ _ _ _ _ _ _ _ _ ⟨c, rfl, HE.out, HBr.out⟩

end Go.Proofs.Ytlkhmcajedjojaa
