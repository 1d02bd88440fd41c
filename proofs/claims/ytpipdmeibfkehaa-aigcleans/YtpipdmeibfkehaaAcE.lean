import Derived.Test.YtpipdmeibfkehaaAcD
namespace Go.Proofs.Ytpipdmeibfkehaa
open Go.RowKit

def iV (x : Nat) : Value := .int .i64 (x : Int)
theorem info_int1 : (Try.prog.info? 3).map (fun i => (i.zero, i.size, i.bytes)) = some (some (.int .i64 0), 1, 8) := by kernel_rfl
theorem info_int : ∃ i, Try.prog.info? 3 = some i ∧ i.zero = some (.int .i64 0) ∧ i.size = 1 ∧ i.bytes = 8 := by
  have h := info_int1
  cases hi : Try.prog.info? 3 with
  | none => rw [hi] at h; cases h
  | some i => rw [hi] at h; simp at h; exact ⟨i, rfl, h.1, h.2.1, h.2.2⟩

set_option maxRecDepth 100000 in
set_option maxHeartbeats 8000000 in
theorem cgTo (wc : World) (first : Nat) (hf : first ≤ 60000) (K' : Act → World → Prop) (Q0 : Exit → Act → World → Prop) (x0 x1 x2 x4 x5 x6 x7 x8 x11 x12 x13 x14 x15 x16 x17 x18 x19 x20 x21 x22 x23 x24 x25 x26 x27 x28 x29 x30 x31 x32 x33 x34 x35 x36 x37 x38 x39 x40 x41 x42 x43 x44 x45 x46 x47 x48 x49 x50 x51 x52 x53 x54 x55 x56 x57 x58 x59 x60 x61 x62 x63 x64 x65 x66 x67 x68 x69 x70 x71 x72 x73 x74 x75 x76 x77 x78 x79 x80 x81 x82 x83 x84 x85 x86 x87 x88 x89 x90 x91 x92 x93 x94 x95 x96 x97 x98 x99 x100 x101 x102 x103 x104 x105 x106 x107 x108 x109 x110 x111 x112 x113 x114 x115 x116 x117 x118 x119 x120 x121 x122 x123 x124 x125 x126 x127 x128 x129 x130 x131 x132 x133 x134 x135 x136 x137 x138 x139 x140 x141 x142 x143 x144 x145 x146 x147 x148 x149 x150 x151 x152 x153 x154 x155 x156 x157 x158 x159 x160 x161 x162 x163 x164 x165 x166 x167 x168 x169 x170 x171 x172 x173 x174 x175 x176 x177 x178 x179 x180 x181 x182 x183 x184 x185 x186 x187 x188 x189 x190 x191 x192 x193 x194 x195 x196 x197 x198 x199 x200 x201 x202 x203 x204 x205 x206 x207 x208 x209 x210 x211 x212 x213 x214 x215 x216 x217 x218 x219 x220 : Value)
    (HK : Hid (∀ (w' : World) (s9 s10 s94 s95 s96 s97 s98 s99 s100 s101 s102 : Value), w'.ownsRow wc.heap.size 3 1 s9 first ((List.range first).map iV) ∧ Below wc.heap.size wc w' → K' ⟨#[x0, x1, x2, .int .i64 (first : Int), x4, x5, x6, x7, x8, s9, s10, x11, x12, x13, x14, x15, x16, x17, x18, x19, x20, x21, x22, x23, x24, x25, x26, x27, x28, x29, x30, x31, x32, x33, x34, x35, x36, x37, x38, x39, x40, x41, x42, x43, x44, x45, x46, x47, x48, x49, x50, x51, x52, x53, x54, x55, x56, x57, x58, x59, x60, x61, x62, x63, x64, x65, x66, x67, x68, x69, x70, x71, x72, x73, x74, x75, x76, x77, x78, x79, x80, x81, x82, x83, x84, x85, x86, x87, x88, x89, x90, x91, x92, x93, s94, s95, s96, s97, s98, s99, s100, s101, s102, x103, x104, x105, x106, x107, x108, x109, x110, x111, x112, x113, x114, x115, x116, x117, x118, x119, x120, x121, x122, x123, x124, x125, x126, x127, x128, x129, x130, x131, x132, x133, x134, x135, x136, x137, x138, x139, x140, x141, x142, x143, x144, x145, x146, x147, x148, x149, x150, x151, x152, x153, x154, x155, x156, x157, x158, x159, x160, x161, x162, x163, x164, x165, x166, x167, x168, x169, x170, x171, x172, x173, x174, x175, x176, x177, x178, x179, x180, x181, x182, x183, x184, x185, x186, x187, x188, x189, x190, x191, x192, x193, x194, x195, x196, x197, x198, x199, x200, x201, x202, x203, x204, x205, x206, x207, x208, x209, x210, x211, x212, x213, x214, x215, x216, x217, x218, x219, x220], []⟩ w')) :
    Code.wp Try.prog ((Try.f9.body.bind (blockAt 6)).getD .skip) (Exit.then K' Q0) ⟨#[x0, x1, x2, .int .i64 (first : Int), x4, x5, x6, x7, x8, .slice none 0 0, .int .i64 0, x11, x12, x13, x14, x15, x16, x17, x18, x19, x20, x21, x22, x23, x24, x25, x26, x27, x28, x29, x30, x31, x32, x33, x34, x35, x36, x37, x38, x39, x40, x41, x42, x43, x44, x45, x46, x47, x48, x49, x50, x51, x52, x53, x54, x55, x56, x57, x58, x59, x60, x61, x62, x63, x64, x65, x66, x67, x68, x69, x70, x71, x72, x73, x74, x75, x76, x77, x78, x79, x80, x81, x82, x83, x84, x85, x86, x87, x88, x89, x90, x91, x92, x93, x94, x95, x96, x97, x98, x99, x100, x101, x102, x103, x104, x105, x106, x107, x108, x109, x110, x111, x112, x113, x114, x115, x116, x117, x118, x119, x120, x121, x122, x123, x124, x125, x126, x127, x128, x129, x130, x131, x132, x133, x134, x135, x136, x137, x138, x139, x140, x141, x142, x143, x144, x145, x146, x147, x148, x149, x150, x151, x152, x153, x154, x155, x156, x157, x158, x159, x160, x161, x162, x163, x164, x165, x166, x167, x168, x169, x170, x171, x172, x173, x174, x175, x176, x177, x178, x179, x180, x181, x182, x183, x184, x185, x186, x187, x188, x189, x190, x191, x192, x193, x194, x195, x196, x197, x198, x199, x200, x201, x202, x203, x204, x205, x206, x207, x208, x209, x210, x211, x212, x213, x214, x215, x216, x217, x218, x219, x220], []⟩ wc := by
  conv => arg 2; whnf
  obtain ⟨i3, hi3, hz3, hs3, hb3⟩ := info_int
  have HI2 := hidden hi3
  have HZ2 := hidden hz3
  have HS2 := hidden hs3
  have HBY2 := hidden hb3
  clear hi3 hz3 hs3 hb3
  go_wp2_with fail
  go_loopw [9, 10] (fun v i' w' => ∃ (k : Nat), k ≤ first ∧ i' = .int .i64 k ∧ Hid (w'.ownsRow wc.heap.size 3 1 v k ((List.range k).map iV)) ∧ Hid (Below wc.heap.size wc w')) (fun _ i' _ => first - (intOf i').toNat)
  case atStart => exact ⟨0, Nat.zero_le _, rfl, World.ownsRow_nil _ _ _ _, Below.refl _ _⟩
  case round =>
    obtain ⟨k, hk, rfl, HO, HBr⟩ := hrel
    by_cases hlt : k < first
    · have hltI : (k : Int) < (first : Int) := by omega
      have e3 : IntKind.i64.wrap ((k : Int) + 1) = (k : Int) + 1 := wrapI _ (by omega) (by omega)
      have hm1 : k + 1 ≤ maxLen := by simp only [maxLen]; omega
      have hm2 : (k + 1) * 8 ≤ 140737488355328 := by omega
      have hsz := HBr.out.size
      have hm3 : wc.heap.size ≤ (wr.alloc (.cells #[.int .i64 (k : Int)] 3)).heap.size := by simp; omega
      have tok : True := trivial
      go_wp2_with (have _t := tok; at_builtin; (refine wpList_append_lies _ rfl (.tmp 99) (.tmp 101) 24 rfl wc.heap.size 3 i3 _ 1 8 Try.underlying24 HI2.out HZ2.out HS2.out HBY2.out rfl (by decide) u9 k _ rfl (HO.out.alloc _) ⟨wr.heap.size, 0, none⟩ 1 1 [.int .i64 (k : Int)] rfl rfl (World.news_of_block (heap_new _ _)) (by simp [Value.oneCell']) (by decide) hm1 hm2 hm3 _ rfl ?_; intro g cap w5 hown hgrow hat5 hlt5; clear tok))
      have HO5 : Hid (w5.ownsRow wc.heap.size 3 1 (.slice (some ⟨g, 0, none⟩) (k + 1) cap) (k + 1) ((List.range (k + 1)).map iV)) := by
        show World.ownsRow _ _ _ _ _ _ _
        rw [List.range_succ, List.map_append]; exact hown
      have HB5 : Hid (Below wc.heap.size wc w5) := grown_plain HBr.out HO.out hgrow
      clear hown hgrow hat5 hlt5 hm1 hm2 hm3 HO HBr
      go_roundw
      case measure => simp [intOf]; omega
      case rel => exact ⟨k + 1, by omega, by simp, HO5.out, HB5.out⟩
    · have hge : ¬ ((k : Int) < (first : Int)) := by omega
      have HEN : Hid (wr.ownsRow wc.heap.size 3 1 u9 first ((List.range first).map iV)) := by
        have := HO.out
        rw [show k = first by omega] at this
        exact this
      clear HO
      go_wp2
      exact HK.out _ _ _ _ _ _ _ _ _ _ _ _ ⟨HEN.out, HBr.out⟩

end Go.Proofs.Ytpipdmeibfkehaa
