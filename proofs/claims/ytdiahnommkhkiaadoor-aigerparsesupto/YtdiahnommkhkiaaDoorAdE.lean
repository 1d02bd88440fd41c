import Derived.Test.YtdiahnommkhkiaaDoorAdD
namespace Go.Proofs.YtdiahnommkhkiaaDoor
open Go.RowKit

set_option maxRecDepth 100000 in
set_option maxHeartbeats 8000000 in
theorem apIns (we wc : World) (rb fb hb n0 N : Nat) (T : List UInt8) (a : Option Addr) (c : Nat) (hT : T.length ≤ 1048576) (HL : Hid (LnAt wc a T)) (BX0 : Hid (Boxes wc rb fb)) (hne : rb ≠ fb) (HBW0 : Hid (Below we.heap.size we wc)) (hrw : we.heap.size ≤ rb) (hfw : we.heap.size ≤ fb) (hrl : rb < wc.heap.size) (hfl : fb < wc.heap.size) (hbl : hb < wc.heap.size) (hN : N ≤ 60000) (hn0 : n0 ≤ 200000) (hH : Hid (wc.cell? ⟨hb, 0, none⟩ = some (.int .i64 (N : Int)))) (K' : Act → World → Prop) (Q0 : Exit → Act → World → Prop) (x0 x1 x5 x7 x8 x10 x12 x13 x14 x15 x16 x17 x18 x19 x20 x21 x22 x23 x24 x25 x26 x27 x28 x29 x30 x31 x32 x33 x34 x35 x36 x37 x38 x39 x40 x41 x42 x43 x44 x45 x46 x47 x48 x49 x50 x51 x52 x53 x54 x55 x56 x57 x58 x59 x60 x61 x62 x63 x64 x65 x66 x67 x68 x69 x70 x71 x72 x73 x74 x75 x76 x77 x78 x79 x80 x81 x82 x83 x84 x85 x86 x87 x88 x89 x90 x91 x92 x93 x94 x95 x96 x97 x98 x99 x100 x101 x102 x103 x104 x105 x106 x107 x108 x109 x110 x111 x112 x113 x114 x115 x116 x117 x118 x119 x120 x121 x122 x123 x124 x125 x126 x127 x128 x129 x130 x131 x132 x133 x134 x135 x136 x137 x138 x139 x140 x141 x142 x143 x144 x145 x146 x147 x148 x149 x150 x151 x152 x153 x154 x155 x156 x157 x158 x159 x160 x161 x162 x163 x164 x165 x166 x167 x168 x169 x170 x171 x172 x173 x174 x175 x176 x177 x178 x179 x180 x181 x182 x183 x184 x185 x186 x187 x188 x189 x190 x191 x192 x193 x194 x195 x196 x197 x198 x199 x200 x201 x202 x203 x204 x205 x206 x207 x208 x209 x210 x211 x212 x213 x214 x215 x216 x217 x218 x219 x220 x221 x222 x223 x224 x225 x226 x227 x228 x229 x230 x231 x232 x233 x234 x235 x236 x237 x238 x239 x240 x241 x242 x243 x244 x245 x246 x247 x248 x249 x250 x251 x252 x253 x254 x255 x256 x257 x258 x259 x260 x261 x262 x263 x264 x265 x266 x267 x268 x269 x270 x271 x272 x273 x274 x275 x276 : Value)
    (HK : Hid (∀ (w' : World) (s11 s12 s13 s60 s61 s62 s63 s64 s65 s66 s67 s68 s69 s70 s71 s72 s73 s74 s75 s76 s77 s78 s79 s80 s81 s82 s83 s84 s85 s86 s87 : Value), ((∀ i, i < N → InOk T (n0 + i) i) ∧ Below wc.heap.size wc w') → K' ⟨#[x0, x1, .pointer (some ⟨rb, 0, none⟩), .pointer (some ⟨fb, 0, none⟩), .slice a (linesOf T).length c, x5, .pointer (some ⟨hb, 0, none⟩), x7, x8, .int .i64 ((n0 + N : Nat) : Int), x10, s11, s12, s13, x14, x15, x16, x17, x18, x19, x20, x21, x22, x23, x24, x25, x26, x27, x28, x29, x30, x31, x32, x33, x34, x35, x36, x37, x38, x39, x40, x41, x42, x43, x44, x45, x46, x47, x48, x49, x50, x51, x52, x53, x54, x55, x56, x57, x58, x59, s60, s61, s62, s63, s64, s65, s66, s67, s68, s69, s70, s71, s72, s73, s74, s75, s76, s77, s78, s79, s80, s81, s82, s83, s84, s85, s86, s87, x88, x89, x90, x91, x92, x93, x94, x95, x96, x97, x98, x99, x100, x101, x102, x103, x104, x105, x106, x107, x108, x109, x110, x111, x112, x113, x114, x115, x116, x117, x118, x119, x120, x121, x122, x123, x124, x125, x126, x127, x128, x129, x130, x131, x132, x133, x134, x135, x136, x137, x138, x139, x140, x141, x142, x143, x144, x145, x146, x147, x148, x149, x150, x151, x152, x153, x154, x155, x156, x157, x158, x159, x160, x161, x162, x163, x164, x165, x166, x167, x168, x169, x170, x171, x172, x173, x174, x175, x176, x177, x178, x179, x180, x181, x182, x183, x184, x185, x186, x187, x188, x189, x190, x191, x192, x193, x194, x195, x196, x197, x198, x199, x200, x201, x202, x203, x204, x205, x206, x207, x208, x209, x210, x211, x212, x213, x214, x215, x216, x217, x218, x219, x220, x221, x222, x223, x224, x225, x226, x227, x228, x229, x230, x231, x232, x233, x234, x235, x236, x237, x238, x239, x240, x241, x242, x243, x244, x245, x246, x247, x248, x249, x250, x251, x252, x253, x254, x255, x256, x257, x258, x259, x260, x261, x262, x263, x264, x265, x266, x267, x268, x269, x270, x271, x272, x273, x274, x275, x276], []⟩ w'))
    (HQ : Hid (∀ (k : Nat) (a : Act) (w' : World), k < N → (∀ j, j < k → InOk T (n0 + j) j) → (¬ InOk T (n0 + k) k) → a.defers = [] → a.tmps.getD 2 undef = .pointer (some ⟨rb, 0, none⟩) → a.tmps.getD 3 undef = .pointer (some ⟨fb, 0, none⟩) → Told we w' rb fb ((n0 + k + 1 : Nat) : Int) → Q0 .ret a w')) :
    Code.wp Tryd.prog ((Tryd.f11.body.bind (blockAt 0)).getD .skip) (Exit.then K' Q0) ⟨#[x0, x1, .pointer (some ⟨rb, 0, none⟩), .pointer (some ⟨fb, 0, none⟩), .slice a (linesOf T).length c, x5, .pointer (some ⟨hb, 0, none⟩), x7, x8, .int .i64 (n0 : Int), x10, .int .i64 0, x12, x13, x14, x15, x16, x17, x18, x19, x20, x21, x22, x23, x24, x25, x26, x27, x28, x29, x30, x31, x32, x33, x34, x35, x36, x37, x38, x39, x40, x41, x42, x43, x44, x45, x46, x47, x48, x49, x50, x51, x52, x53, x54, x55, x56, x57, x58, x59, x60, x61, x62, x63, x64, x65, x66, x67, x68, x69, x70, x71, x72, x73, x74, x75, x76, x77, x78, x79, x80, x81, x82, x83, x84, x85, x86, x87, x88, x89, x90, x91, x92, x93, x94, x95, x96, x97, x98, x99, x100, x101, x102, x103, x104, x105, x106, x107, x108, x109, x110, x111, x112, x113, x114, x115, x116, x117, x118, x119, x120, x121, x122, x123, x124, x125, x126, x127, x128, x129, x130, x131, x132, x133, x134, x135, x136, x137, x138, x139, x140, x141, x142, x143, x144, x145, x146, x147, x148, x149, x150, x151, x152, x153, x154, x155, x156, x157, x158, x159, x160, x161, x162, x163, x164, x165, x166, x167, x168, x169, x170, x171, x172, x173, x174, x175, x176, x177, x178, x179, x180, x181, x182, x183, x184, x185, x186, x187, x188, x189, x190, x191, x192, x193, x194, x195, x196, x197, x198, x199, x200, x201, x202, x203, x204, x205, x206, x207, x208, x209, x210, x211, x212, x213, x214, x215, x216, x217, x218, x219, x220, x221, x222, x223, x224, x225, x226, x227, x228, x229, x230, x231, x232, x233, x234, x235, x236, x237, x238, x239, x240, x241, x242, x243, x244, x245, x246, x247, x248, x249, x250, x251, x252, x253, x254, x255, x256, x257, x258, x259, x260, x261, x262, x263, x264, x265, x266, x267, x268, x269, x270, x271, x272, x273, x274, x275, x276], []⟩ wc := by
  conv => arg 2; whnf
  generalize hlnd : (linesOf T).length = ln at *
  have HLND := hidden hlnd
  clear hlnd
  go_wp2_with fail
  go_loopw [9, 11] (fun at' i' w' => ∃ (k p : Nat), k ≤ N ∧ at' = .int .i64 p ∧ i' = .int .i64 k ∧ Hid (p = n0 + k) ∧ Hid (∀ i, i < k → InOk T (n0 + i) i) ∧ Hid (Below wc.heap.size wc w')) (fun _ i' _ => N - (intOf i').toNat)
  case atStart => exact ⟨0, n0, Nat.zero_le _, rfl, rfl, rfl, fun i hi => absurd hi (by omega), Below.refl _ _⟩
  case round =>
    obtain ⟨k, p, hk, rfl, rfl, HPK, HPre, HB⟩ := hrel
    have c1 : wr.cell? ⟨hb, 0, none⟩ = some (.int .i64 (N : Int)) := (HB.out.cell (p := ⟨hb, 0, none⟩) hbl).trans hH.out
    by_cases hlt : k < N
    · have hltI : (k : Int) < (N : Int) := by omega
      have hp : p ≤ 300000 := by have := HPK.out; omega
      have R1 := hidden (row_any T hT a c wr (HL.out.to HB.out) p 1 (by decide) false)
      rw [HLND.out] at R1
      have e1 : IntKind.i64.wrap (1 + (k : Int)) = 1 + (k : Int) := wrapI _ (by omega) (by omega)
      have e2 : IntKind.i64.wrap (2 * (1 + (k : Int))) = 2 * (1 + (k : Int)) := wrapI _ (by omega) (by omega)
      have e3 : IntKind.i64.wrap ((k : Int) + 1) = (k : Int) + 1 := wrapI _ (by omega) (by omega)
      have e4 : IntKind.i64.wrap ((p : Int) + 1) = (p : Int) + 1 := wrapI _ (by omega) (by omega)
      go_wp2_with fail
      go_at_call 25
      refine R1.out.mono ?_
      rintro e w1 ⟨v, ok, rfl, hb1, hcase⟩
      have HBA : Hid (Below wc.heap.size wc w1) := HB.out.trans (hb1.mono HB.out.size)
      have BX := hidden (BX0.out.below HBA.out hrl hfl)
      have HBW : Hid (Below we.heap.size we w1) := HBW0.out.trans (HBA.out.mono HBW0.out.size)
      clear hb1 R1 c1
      rcases hcase with ⟨rfl, xs, hx1, hx2, hx3⟩ | ⟨rfl, hno⟩
      · obtain ⟨y, rfl⟩ := row_one hx3
        obtain ⟨lb, lc, rfl, hlb, hlb2, hlc, hel⟩ := row_els hx2 (by simp)
        have cy := hel 0 y rfl
        have HX1 := hidden hx1
        simp only [List.length_cons, List.length_nil, Nat.zero_add]
        clear hx1 hx2 hx3 hel
        by_cases hy : y = 2 * (1 + (k : Int))
        · have hyb : (y != 2 * (1 + (k : Int))) = false := by simp [hy]
          have HOK : Hid (InOk T (n0 + k) k) := by
            show nums T (n0 + k) = _
            rw [← HPK.out, HX1.out, hy]
          have HY := hidden hy
          have HPre2 : Hid (∀ i, i < k + 1 → InOk T (n0 + i) i) := fun i hi => by
            rcases Nat.lt_or_ge i k with h' | h'
            · exact HPre.out i h'
            · have : i = k := by omega
              subst this; exact HOK.out
          clear hy HPre BX HBW
          go_wp2
          go_roundw
          case measure => simp [intOf]; omega
          case rel => exact ⟨k + 1, p + 1, by omega, by simp, by simp, (by have := HPK.out; show _ = _; omega), HPre2.out, HBA.out⟩
        · have hyb : (y != 2 * (1 + (k : Int))) = true := by simp [hy]
          have HNOT : Hid (¬ InOk T (n0 + k) k) := fun hh => hy (by have h1 : nums T (n0 + k) = _ := hh; rw [← HPK.out, HX1.out] at h1; simpa using h1)
          have B5 := hidden (badLine_any (p : Int) (by omega) w1)
          have c0 : w1.cell? ⟨rb, 0, none⟩ = some (.int .i64 0) := heap_cell BX.out.r
          clear c0
          go_wp2_with fail
          go_at_call 23
          refine B5.out.mono ?_
          rintro e w8 ⟨rfl, hb8⟩
          have HBX8 := hidden (BX.out.below hb8 (by have := HBA.out.size; omega) (by have := HBA.out.size; omega))
          have HBW8 : Hid (Below we.heap.size we w8) := HBW.out.trans (hb8.mono HBW.out.size)
          have r0 : w8.cell? ⟨rb, 0, none⟩ = some (.int .i64 0) := heap_cell HBX8.out.r
          have r1 : w8.cell? ⟨rb, 1, none⟩ = some (.slice none 0 0) := heap_cell HBX8.out.r
          have r2 : w8.cell? ⟨rb, 2, none⟩ = some (.slice none 0 0) := heap_cell HBX8.out.r
          have r3 : w8.cell? ⟨rb, 3, none⟩ = some (.slice none 0 0) := heap_cell HBX8.out.r
          have q0 : w8.cell? ⟨fb, 0, none⟩ = some (.int .i64 0) := heap_cell HBX8.out.f
          have q1 : w8.cell? ⟨fb, 1, none⟩ = some (.int .i64 0) := heap_cell HBX8.out.f
          have fr : ∀ j, w8.frozen? ⟨rb, j, none⟩ = false := fun j => heap_fz HBX8.out.r j
          have ff : ∀ j, w8.frozen? ⟨fb, j, none⟩ = false := fun j => heap_fz HBX8.out.f j
          have HTOLD := hidden (told_of ((p : Int) + 1) HBX8.out hne HBW8.out hrw hfw)
          clear hb8 B5
          go_wp2
          exact HQ.out k _ _ hlt HPre.out HNOT.out rfl rfl rfl (by rw [show ((n0 + k + 1 : Nat) : Int) = (p : Int) + 1 by have := HPK.out; omega]; exact HTOLD.out)
      · have HNO := hidden hno
        clear hno
        have HNOT : Hid (¬ InOk T (n0 + k) k) := fun hh => HNO.out _ (by rw [HPK.out]; exact hh) (Or.inl rfl)
        have B5 := hidden (badLine_any (p : Int) (by omega) w1)
        have c0 : w1.cell? ⟨rb, 0, none⟩ = some (.int .i64 0) := heap_cell BX.out.r
        clear c0
        go_wp2_with fail
        go_at_call 23
        refine B5.out.mono ?_
        rintro e w8 ⟨rfl, hb8⟩
        have HBX8 := hidden (BX.out.below hb8 (by have := HBA.out.size; omega) (by have := HBA.out.size; omega))
        have HBW8 : Hid (Below we.heap.size we w8) := HBW.out.trans (hb8.mono HBW.out.size)
        have r0 : w8.cell? ⟨rb, 0, none⟩ = some (.int .i64 0) := heap_cell HBX8.out.r
        have r1 : w8.cell? ⟨rb, 1, none⟩ = some (.slice none 0 0) := heap_cell HBX8.out.r
        have r2 : w8.cell? ⟨rb, 2, none⟩ = some (.slice none 0 0) := heap_cell HBX8.out.r
        have r3 : w8.cell? ⟨rb, 3, none⟩ = some (.slice none 0 0) := heap_cell HBX8.out.r
        have q0 : w8.cell? ⟨fb, 0, none⟩ = some (.int .i64 0) := heap_cell HBX8.out.f
        have q1 : w8.cell? ⟨fb, 1, none⟩ = some (.int .i64 0) := heap_cell HBX8.out.f
        have fr : ∀ j, w8.frozen? ⟨rb, j, none⟩ = false := fun j => heap_fz HBX8.out.r j
        have ff : ∀ j, w8.frozen? ⟨fb, j, none⟩ = false := fun j => heap_fz HBX8.out.f j
        have HTOLD := hidden (told_of ((p : Int) + 1) HBX8.out hne HBW8.out hrw hfw)
        clear hb8 B5
        go_wp2
        exact HQ.out k _ _ hlt HPre.out HNOT.out rfl rfl rfl (by rw [show ((n0 + k + 1 : Nat) : Int) = (p : Int) + 1 by have := HPK.out; omega]; exact HTOLD.out)
    · have hkN : k = N := by omega
      subst hkN
      have hge : ¬ ((k : Int) < (k : Int)) := by omega
      have hpk := HPK.out
      subst hpk
      go_wp2
      exact HK.out _ _ _ _ _ _ _ _ _ _ _ _ _ _ _ _ _ _ _ _ _ _ _ _ _ _ _ _ _ _ _ _ ⟨HPre.out, HB.out⟩

end Go.Proofs.YtdiahnommkhkiaaDoor
