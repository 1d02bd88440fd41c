import Derived.Test.YtlkhmcajedjojaaJ09
namespace Go.Proofs.Ytlkhmcajedjojaa
open Go.RowKit

set_option maxRecDepth 100000 in
set_option maxHeartbeats 16000000 in
theorem nvLoop4 (B : Nat) (w W : World) (S : NetS) (N : NetD) (QN : Hid (∀ j, W.cell? ⟨w.heap.size, j, none⟩ = (#[.slice S.a0 N.ins.length S.c0, .slice S.a1 N.nodes.length S.c1, .slice S.a2 N.regs.length S.c2, .slice S.a3 N.mems.length S.c3, .slice S.a4 N.wrs.length S.c4, .slice S.a5 N.outs.length S.c5] : Array Value)[j]?)) (HAW : Hid (NetAt B W S N)) (hN : w.heap.size < W.heap.size) (hBW : B ≤ W.heap.size) (hlen : N.nodes.length < big) (c3 : Bool) (wc : World) (HBc : Hid (Below W.heap.size W wc)) (K' : Act → World → Prop) (Q0 : Exit → Act → World → Prop) (x0 x2 x4 x5 x6 x7 x8 x9 x10 x12 x13 x14 x15 x16 x17 x18 x19 x20 x21 x22 x23 x24 x25 x26 x27 x28 x29 x30 x31 x32 x33 x34 x35 x36 x37 x38 x39 x40 x41 x42 x43 x44 x45 x46 x47 x48 x49 x50 x51 x52 x53 x54 x55 x56 x57 x58 x59 x60 x61 x62 x63 x64 x65 x66 x67 x68 x69 x70 x71 x72 x73 x74 x75 x76 x77 x78 x79 x80 x81 x82 x83 x84 x85 x86 x87 x88 x89 x90 x91 x92 x93 x94 x95 x96 x97 x98 x99 x100 x101 x102 x103 x104 x105 x106 x107 x108 x109 x110 x111 x112 x113 x114 x115 x116 x117 x118 x119 x120 x121 x122 x123 x124 x125 x126 x127 x128 x129 x130 x131 x132 x133 x134 x135 x136 x137 x138 x139 x140 x141 x142 x143 x144 x145 x146 x147 x148 x149 x150 x151 x152 x153 x154 x155 x156 x157 x158 x159 x160 x161 x162 x163 x164 x165 x166 x167 x168 x169 x170 x171 x172 x173 x174 x175 x176 x177 x178 x179 x180 x181 x182 x183 x184 x185 x186 x187 x188 x189 x190 x191 x192 x193 x194 x195 x196 x197 x198 x199 x200 x201 x202 x203 x204 x205 x206 x207 x208 x209 x210 x211 x212 x213 x214 x215 x216 x217 x218 x219 : Value)
    (HK : Hid (∀ (s : Value) (w' : World) (v11 v96 v97 v98 v99 v100 v101 v102 v103 v104 v105 v106 v107 v108 : Value), (∃ c : Bool, s = .bool c ∧ Hid (c = (c3 && (List.range N.nodes.length).all (okAt N))) ∧ Hid (Below W.heap.size W w')) → K' ⟨#[x0, .pointer (some ⟨w.heap.size, 0, none⟩), x2, s, x4, x5, x6, x7, x8, x9, x10, v11, x12, x13, x14, x15, x16, x17, x18, x19, x20, x21, x22, x23, x24, x25, x26, x27, x28, x29, x30, x31, x32, x33, x34, x35, x36, x37, x38, x39, x40, x41, x42, x43, x44, x45, x46, x47, x48, x49, x50, x51, x52, x53, x54, x55, x56, x57, x58, x59, x60, x61, x62, x63, x64, x65, x66, x67, x68, x69, x70, x71, x72, x73, x74, x75, x76, x77, x78, x79, x80, x81, x82, x83, x84, x85, x86, x87, x88, x89, x90, x91, x92, x93, x94, x95, v96, v97, v98, v99, v100, v101, v102, v103, v104, v105, v106, v107, v108, x109, x110, x111, x112, x113, x114, x115, x116, x117, x118, x119, x120, x121, x122, x123, x124, x125, x126, x127, x128, x129, x130, x131, x132, x133, x134, x135, x136, x137, x138, x139, x140, x141, x142, x143, x144, x145, x146, x147, x148, x149, x150, x151, x152, x153, x154, x155, x156, x157, x158, x159, x160, x161, x162, x163, x164, x165, x166, x167, x168, x169, x170, x171, x172, x173, x174, x175, x176, x177, x178, x179, x180, x181, x182, x183, x184, x185, x186, x187, x188, x189, x190, x191, x192, x193, x194, x195, x196, x197, x198, x199, x200, x201, x202, x203, x204, x205, x206, x207, x208, x209, x210, x211, x212, x213, x214, x215, x216, x217, x218, x219], []⟩ w')) :
    Code.wp Try.prog ((Try.f7.body.bind (blockAt 6)).getD .skip) (Exit.then K' Q0) ⟨#[x0, .pointer (some ⟨w.heap.size, 0, none⟩), x2, .bool c3, x4, x5, x6, x7, x8, x9, x10, .int .i64 0, x12, x13, x14, x15, x16, x17, x18, x19, x20, x21, x22, x23, x24, x25, x26, x27, x28, x29, x30, x31, x32, x33, x34, x35, x36, x37, x38, x39, x40, x41, x42, x43, x44, x45, x46, x47, x48, x49, x50, x51, x52, x53, x54, x55, x56, x57, x58, x59, x60, x61, x62, x63, x64, x65, x66, x67, x68, x69, x70, x71, x72, x73, x74, x75, x76, x77, x78, x79, x80, x81, x82, x83, x84, x85, x86, x87, x88, x89, x90, x91, x92, x93, x94, x95, x96, x97, x98, x99, x100, x101, x102, x103, x104, x105, x106, x107, x108, x109, x110, x111, x112, x113, x114, x115, x116, x117, x118, x119, x120, x121, x122, x123, x124, x125, x126, x127, x128, x129, x130, x131, x132, x133, x134, x135, x136, x137, x138, x139, x140, x141, x142, x143, x144, x145, x146, x147, x148, x149, x150, x151, x152, x153, x154, x155, x156, x157, x158, x159, x160, x161, x162, x163, x164, x165, x166, x167, x168, x169, x170, x171, x172, x173, x174, x175, x176, x177, x178, x179, x180, x181, x182, x183, x184, x185, x186, x187, x188, x189, x190, x191, x192, x193, x194, x195, x196, x197, x198, x199, x200, x201, x202, x203, x204, x205, x206, x207, x208, x209, x210, x211, x212, x213, x214, x215, x216, x217, x218, x219], []⟩ wc := by
  simp only [big] at hlen
  conv => arg 2; whnf
  go_wp2_with fail
  go_loopw [3, 11] (fun s i' w' => ∃ (k : Nat) (c : Bool), k ≤ N.nodes.length ∧ i' = .int .i64 k ∧ s = .bool c ∧ Hid (c = (c3 && (List.range k).all (okAt N))) ∧ Hid (Below W.heap.size W w')) (fun _ i' _ => N.nodes.length - (intOf i').toNat)
  case atStart => exact ⟨0, c3, Nat.zero_le _, rfl, rfl, by show _ = _; simp, HBc.out⟩
  case round =>
    obtain ⟨k, c, hk, rfl, rfl, HC, HBr⟩ := hrel
    have q0 : wr.cell? ⟨w.heap.size, 0, none⟩ = some (.slice S.a0 N.ins.length S.c0) := (HBr.out.cell (p := ⟨w.heap.size, 0, none⟩) hN).trans (QN.out 0)
    have q1 : wr.cell? ⟨w.heap.size, 1, none⟩ = some (.slice S.a1 N.nodes.length S.c1) := (HBr.out.cell (p := ⟨w.heap.size, 1, none⟩) hN).trans (QN.out 1)
    have q2 : wr.cell? ⟨w.heap.size, 2, none⟩ = some (.slice S.a2 N.regs.length S.c2) := (HBr.out.cell (p := ⟨w.heap.size, 2, none⟩) hN).trans (QN.out 2)
    have q3 : wr.cell? ⟨w.heap.size, 3, none⟩ = some (.slice S.a3 N.mems.length S.c3) := (HBr.out.cell (p := ⟨w.heap.size, 3, none⟩) hN).trans (QN.out 3)
    have q4 : wr.cell? ⟨w.heap.size, 4, none⟩ = some (.slice S.a4 N.wrs.length S.c4) := (HBr.out.cell (p := ⟨w.heap.size, 4, none⟩) hN).trans (QN.out 4)
    have q5 : wr.cell? ⟨w.heap.size, 5, none⟩ = some (.slice S.a5 N.outs.length S.c5) := (HBr.out.cell (p := ⟨w.heap.size, 5, none⟩) hN).trans (QN.out 5)
    by_cases hlt : k < N.nodes.length
    · by_cases hct : c = true
      · subst hct
        obtain ⟨z, hz⟩ : ∃ z, N.nodes[k]? = some z := ⟨N.nodes[k], List.getElem?_eq_getElem hlt⟩
        have hltI : (k : Int) < (N.nodes.length : Int) := by omega
        have e2 : IntKind.i64.wrap ((k : Int) + 1) = (k : Int) + 1 := wrapI _ (by omega) (by omega)

        have hall : (List.range k).all (okAt N) = true := and_right HC.out
        have hp : Hid (∀ j y, j < k → N.nodes[j]? = some y → 1 ≤ y.width ∧ y.width ≤ 32) := by
          intro j y hj hy
          have h1 := List.all_eq_true.1 hall j (List.mem_range.2 hj)
          simp only [okAt, hy, nodeOk] at h1
          by_cases ho : nodeOut y
          · rw [if_pos ho] at h1; cases h1
          · have : widthOk y.width = true := by
              cases hw : widthOk y.width with
              | true => rfl
              | false => exact absurd (.inl hw) ho
            simpa [widthOk] using this
        have NV : Hid (Calls Try.prog 20 #[.agg #[.slice S.a0 N.ins.length S.c0, .slice S.a1 N.nodes.length S.c1, .slice S.a2 N.regs.length S.c2, .slice S.a3 N.mems.length S.c3, .slice S.a4 N.wrs.length S.c4, .slice S.a5 N.outs.length S.c5], .int .i64 k] wr fun e w' => e = .returned (.bool (nodeOk N k z)) ∧ Below wr.heap.size wr w') := nodeValid_any B wr S N (HAW.out.to (HBr.out.mono hBW)) (Nat.le_trans hBW HBr.out.size) k z hz hp
        have HN : Hid (nodeOk N k z = (c3 && (List.range (k + 1)).all (okAt N))) := by
          show _ = _
          rw [range_next, ← Bool.and_assoc, ← HC.out]; simp [okAt, hz]
        clear HC hall hz hp
        generalize nodeOk N k z = no at NV HN
        go_wp2_with (go_at_call 20; refine NV.out.mono ?_; rintro e w' ⟨rfl, hb2⟩)
        go_roundw
        case measure => simp [intOf]; omega
        case rel => exact ⟨k + 1, _, by omega, by simp, rfl, HN.out, HBr.out.trans (hb2.mono HBr.out.size)⟩
      · have hcf : c = false := Bool.eq_false_iff.2 hct
        subst hcf
        have hltI : (k : Int) < (N.nodes.length : Int) := by omega
        have HE : Hid (false = (c3 && (List.range N.nodes.length).all (okAt N))) := by
          show _ = _
          rw [all_cut (okAt N) hk, ← Bool.and_assoc, ← HC.out]; rfl
        clear HC hct
        go_wp2
        exact HK.out _ _ _ _ _ _ _ _ _ _ _ _ _ _ _ _ ⟨false, rfl, HE.out, HBr.out⟩
    · have hge : ¬ ((k : Int) < (N.nodes.length : Int)) := by omega
      have HE : Hid (c = (c3 && (List.range N.nodes.length).all (okAt N))) := by
        show _ = _; rw [HC.out, show k = N.nodes.length by omega]
      clear HC
      go_wp2
      exact HK.out _ _ _ _ _ _ _ _ _ _ _ _ _ _ _ _ ⟨c, rfl, HE.out, HBr.out⟩

end Go.Proofs.Ytlkhmcajedjojaa
