import Derived.Test.YtlkhmcajedjojaaJ25
namespace Go.Proofs.Ytlkhmcajedjojaa
open Go.RowKit

set_option maxRecDepth 100000 in
set_option maxHeartbeats 8000000 in
theorem nrRegs (W wc : World) (N : NetD) (nbk : Nat) (a2 : Option Addr) (c2 : Nat) (q2 : W.cell? ⟨nbk, 2, none⟩ = some (.slice a2 N.regs.length c2)) (hnbk : nbk < W.heap.size) (HR : Hid (RowAt W.heap.size W a2 3 (N.regs.map RegD.cells))) (hin : ∀ z, z ∈ N.regs → 0 ≤ z.init) (hlen : N.regs.length < 17592186044416) (HBc : Hid (Below W.heap.size W wc)) (K' : Act → World → Prop) (Q0 : Exit → Act → World → Prop) (x0 x1 x3 x4 x6 x8 x9 x10 x11 x12 x13 x14 x15 x16 x17 x18 x19 x20 x21 x22 x23 x24 x25 x26 x27 x28 x29 x30 x31 x32 x33 x34 x35 x36 x37 x38 x39 x40 x41 x42 x43 x44 x45 x46 x47 x48 x49 x50 x51 x52 x53 x54 x55 x56 x57 x58 x59 x60 x61 x62 x63 x64 x65 x66 x67 x68 x69 x70 x71 x72 x73 x74 x75 x76 x77 x78 x79 x80 x81 x82 x83 x84 x85 x86 x87 x88 x89 x90 x91 x92 x93 x94 x95 x96 x97 x98 x99 x100 x101 x102 x103 x104 x105 x106 x107 x108 x109 x110 x111 x112 x113 x114 x115 x116 x117 x118 x119 x120 x121 x122 x123 x124 x125 x126 x127 x128 x129 x130 x131 x132 x133 x134 x135 x136 x137 x138 x139 x140 x141 x142 x143 x144 x145 x146 x147 x148 x149 x150 x151 x152 x153 x154 x155 : Value)
    (HK : Hid (∀ (w' : World) (s5 s7 s17 s18 s19 s20 s21 s22 s23 s24 s25 s26 s27 s28 s29 s30 s31 s32 : Value), (w'.ownsRow W.heap.size 33 1 s5 N.regs.length ((N.regs.map fun r => r.init.toNat).map uV) ∧ Below W.heap.size W w') → K' ⟨#[x0, x1, .pointer (some ⟨nbk, 0, none⟩), x3, x4, s5, x6, s7, x8, x9, x10, x11, x12, x13, x14, x15, x16, s17, s18, s19, s20, s21, s22, s23, s24, s25, s26, s27, s28, s29, s30, s31, s32, x33, x34, x35, x36, x37, x38, x39, x40, x41, x42, x43, x44, x45, x46, x47, x48, x49, x50, x51, x52, x53, x54, x55, x56, x57, x58, x59, x60, x61, x62, x63, x64, x65, x66, x67, x68, x69, x70, x71, x72, x73, x74, x75, x76, x77, x78, x79, x80, x81, x82, x83, x84, x85, x86, x87, x88, x89, x90, x91, x92, x93, x94, x95, x96, x97, x98, x99, x100, x101, x102, x103, x104, x105, x106, x107, x108, x109, x110, x111, x112, x113, x114, x115, x116, x117, x118, x119, x120, x121, x122, x123, x124, x125, x126, x127, x128, x129, x130, x131, x132, x133, x134, x135, x136, x137, x138, x139, x140, x141, x142, x143, x144, x145, x146, x147, x148, x149, x150, x151, x152, x153, x154, x155], []⟩ w')) :
    Code.wp Try.prog ((Try.f24.body.bind (blockAt 0)).getD .skip) (Exit.then K' Q0) ⟨#[x0, x1, .pointer (some ⟨nbk, 0, none⟩), x3, x4, .slice none 0 0, x6, .int .i64 0, x8, x9, x10, x11, x12, x13, x14, x15, x16, x17, x18, x19, x20, x21, x22, x23, x24, x25, x26, x27, x28, x29, x30, x31, x32, x33, x34, x35, x36, x37, x38, x39, x40, x41, x42, x43, x44, x45, x46, x47, x48, x49, x50, x51, x52, x53, x54, x55, x56, x57, x58, x59, x60, x61, x62, x63, x64, x65, x66, x67, x68, x69, x70, x71, x72, x73, x74, x75, x76, x77, x78, x79, x80, x81, x82, x83, x84, x85, x86, x87, x88, x89, x90, x91, x92, x93, x94, x95, x96, x97, x98, x99, x100, x101, x102, x103, x104, x105, x106, x107, x108, x109, x110, x111, x112, x113, x114, x115, x116, x117, x118, x119, x120, x121, x122, x123, x124, x125, x126, x127, x128, x129, x130, x131, x132, x133, x134, x135, x136, x137, x138, x139, x140, x141, x142, x143, x144, x145, x146, x147, x148, x149, x150, x151, x152, x153, x154, x155], []⟩ wc := by
  conv => arg 2; whnf
  obtain ⟨i33, hi33, hz33, hs33, hb33⟩ := info_u64
  have HI2 := hidden hi33
  have HZ2 := hidden hz33
  have HS2 := hidden hs33
  have HBY2 := hidden hb33
  clear hi33 hz33 hs33 hb33
  go_wp2_with fail
  go_loopw [5, 7] (fun v i' w' => ∃ (k : Nat), k ≤ N.regs.length ∧ i' = .int .i64 k ∧ Hid (w'.ownsRow W.heap.size 33 1 v k (((N.regs.take k).map fun r => r.init.toNat).map uV)) ∧ Hid (Below W.heap.size W w')) (fun _ i' _ => N.regs.length - (intOf i').toNat)
  case atStart => exact ⟨0, Nat.zero_le _, rfl, World.ownsRow_nil _ _ _ _, HBc.out⟩
  case round =>
    obtain ⟨k, hk, rfl, HO, HBr⟩ := hrel
    have q2R := (HBr.out.cell (p := ⟨nbk, 2, none⟩) hnbk).trans q2
    by_cases hlt : k < N.regs.length
    · obtain ⟨z, hz⟩ : ∃ z, N.regs[k]? = some z := ⟨N.regs[k], List.getElem?_eq_getElem hlt⟩
      obtain ⟨rb, ro, ea, hrb, hrc⟩ := HR.out.el hz
      have c1 := (HBr.out.cell (p := ⟨rb, ro + k * 3 + 1, none⟩) hrb).trans (hrc 1 _ rfl)
      have hz0 := hin z (List.mem_of_getElem? hz)
      have e1 : z.init = ((z.init.toNat : Nat) : Int) := by omega
      rw [ea] at q2R
      rw [e1] at c1
      have HNX : Hid (((N.regs.take (k + 1)).map fun r => r.init.toNat).map uV = ((N.regs.take k).map fun r => r.init.toNat).map uV ++ [.int .u64 ((z.init.toNat : Nat) : Int)]) := by
        show _ = _
        rw [take_next _ k z hz, List.map_append, List.map_append]; rfl
      generalize z.init.toNat = x at *
      have hltI : (k : Int) < (N.regs.length : Int) := by omega
      have e3 : IntKind.i64.wrap ((k : Int) + 1) = (k : Int) + 1 := wrapI _ (by omega) (by omega)
      have hm1 : k + 1 ≤ maxLen := by simp only [maxLen]; omega
      have hm2 : (k + 1) * 8 ≤ 140737488355328 := by omega
      have hsz := HBr.out.size
      have hm3 : W.heap.size ≤ (wr.alloc (.cells #[.int .u64 (x : Int)] 33)).heap.size := by simp; omega
      clear hrc ea hz e1 hz0
      have tok : True := trivial
      go_wp2_with (have _t := tok; at_builtin; (refine wpList_append_lies _ rfl (.tmp 24) (.tmp 31) 34 rfl W.heap.size 33 i33 _ 1 8 Try.underlying34 HI2.out HZ2.out HS2.out HBY2.out rfl (by decide) u5 k _ rfl (HO.out.alloc _) ⟨wr.heap.size, 0, none⟩ 1 1 [.int .u64 (x : Int)] rfl rfl (World.news_of_block (heap_new _ _)) (by simp [Value.oneCell']) (by decide) hm1 hm2 hm3 _ rfl ?_; intro g cap w5 hown hgrow hat5 hlt5; clear tok))
      have HO5 : Hid (w5.ownsRow W.heap.size 33 1 (.slice (some ⟨g, 0, none⟩) (k + 1) cap) (k + 1) (((N.regs.take (k + 1)).map fun r => r.init.toNat).map uV)) := by
        show World.ownsRow _ _ _ _ _ _ _
        rw [HNX.out]
        exact hown
      have HB5 : Hid (Below W.heap.size W w5) := grown_plain HBr.out HO.out hgrow
      clear hown hgrow hat5 hlt5 hm1 hm2 hm3 HO HBr HNX
      go_wp2
      go_roundw
      case measure => simp [intOf]; omega
      case rel => exact ⟨k + 1, by omega, by simp, HO5.out, HB5.out⟩
    · have hge : ¬ ((k : Int) < (N.regs.length : Int)) := by omega
      have HO6 : Hid (wr.ownsRow W.heap.size 33 1 u5 N.regs.length ((N.regs.map fun r => r.init.toNat).map uV)) := by
        have := HO.out
        rw [List.take_of_length_le (by omega), show k = N.regs.length by omega] at this
        exact this
      clear HO
      go_wp2
      exact HK.out _ _ _ _ _ _ _ _ _ _ _ _ _ _ _ _ _ _ _ ⟨HO6.out, HBr.out⟩

end Go.Proofs.Ytlkhmcajedjojaa

namespace Go.Proofs.Ytlkhmcajedjojaa
open Go.RowKit

set_option maxRecDepth 100000 in
set_option maxHeartbeats 8000000 in
theorem nrTold (wc : World) (N : NetD) (nbk : Nat) (a5 : Option Addr) (c5 : Nat) (q5 : wc.cell? ⟨nbk, 5, none⟩ = some (.slice a5 N.outs.length c5)) (hnbk : nbk < wc.heap.size) (HOU : Hid (RowAt wc.heap.size wc a5 1 (N.outs.map intC))) (vs : List Nat) (vb vo cv : Nat) (hvb : vb < wc.heap.size) (HV : Hid (∀ (i x : Nat), vs[i]? = some x → wc.cell? ⟨vb, vo + i, none⟩ = some (.int .u64 (x : Int)))) (hin : ∀ a, a ∈ N.outs → 0 ≤ a ∧ a < (vs.length : Int)) (hlen : N.outs.length < 17592186044416) (K' : Act → World → Prop) (Q0 : Exit → Act → World → Prop) (x0 x1 x3 x4 x5 x6 x7 x8 x9 x10 x14 x15 x16 x17 x18 x19 x20 x21 x22 x23 x24 x25 x26 x27 x28 x29 x30 x31 x32 x33 x34 x35 x36 x37 x38 x39 x40 x41 x42 x43 x44 x45 x46 x47 x48 x49 x50 x51 x52 x53 x54 x55 x56 x57 x58 x59 x60 x61 x62 x63 x64 x65 x66 x67 x68 x69 x70 x71 x72 x73 x74 x75 x76 x77 x78 x79 x80 x81 x82 x83 x84 x85 x86 x87 x88 x89 x90 x91 x92 x93 x94 x95 x96 x97 x98 x99 x100 x101 x102 x103 x104 x105 x106 x107 x108 x109 x110 x111 x112 x113 x114 x115 x116 x117 x118 x119 x120 x121 x122 x123 x124 x125 x126 x127 x128 x129 x130 x131 x132 x133 x134 x135 x136 x137 x138 x139 x140 x141 x142 x143 x144 x145 x146 x147 x148 x149 x150 x151 x152 x153 x154 x155 : Value)
    (HK : Hid (∀ (w' : World) (s12 s13 s64 s65 s66 s67 s68 s69 s70 s71 s72 s73 s74 s75 s76 s77 s78 s79 s80 s81 : Value), (w'.ownsRow wc.heap.size 33 1 s12 N.outs.length ((N.outs.map (vAt vs)).map uV) ∧ Below wc.heap.size wc w') → K' ⟨#[x0, x1, .pointer (some ⟨nbk, 0, none⟩), x3, x4, x5, x6, x7, x8, x9, x10, .slice (some ⟨vb, vo, none⟩) vs.length cv, s12, s13, x14, x15, x16, x17, x18, x19, x20, x21, x22, x23, x24, x25, x26, x27, x28, x29, x30, x31, x32, x33, x34, x35, x36, x37, x38, x39, x40, x41, x42, x43, x44, x45, x46, x47, x48, x49, x50, x51, x52, x53, x54, x55, x56, x57, x58, x59, x60, x61, x62, x63, s64, s65, s66, s67, s68, s69, s70, s71, s72, s73, s74, s75, s76, s77, s78, s79, s80, s81, x82, x83, x84, x85, x86, x87, x88, x89, x90, x91, x92, x93, x94, x95, x96, x97, x98, x99, x100, x101, x102, x103, x104, x105, x106, x107, x108, x109, x110, x111, x112, x113, x114, x115, x116, x117, x118, x119, x120, x121, x122, x123, x124, x125, x126, x127, x128, x129, x130, x131, x132, x133, x134, x135, x136, x137, x138, x139, x140, x141, x142, x143, x144, x145, x146, x147, x148, x149, x150, x151, x152, x153, x154, x155], []⟩ w')) :
    Code.wp Try.prog ((Try.f24.body.bind (blockAt 6)).getD .skip) (Exit.then K' Q0) ⟨#[x0, x1, .pointer (some ⟨nbk, 0, none⟩), x3, x4, x5, x6, x7, x8, x9, x10, .slice (some ⟨vb, vo, none⟩) vs.length cv, .slice none 0 0, .int .i64 0, x14, x15, x16, x17, x18, x19, x20, x21, x22, x23, x24, x25, x26, x27, x28, x29, x30, x31, x32, x33, x34, x35, x36, x37, x38, x39, x40, x41, x42, x43, x44, x45, x46, x47, x48, x49, x50, x51, x52, x53, x54, x55, x56, x57, x58, x59, x60, x61, x62, x63, x64, x65, x66, x67, x68, x69, x70, x71, x72, x73, x74, x75, x76, x77, x78, x79, x80, x81, x82, x83, x84, x85, x86, x87, x88, x89, x90, x91, x92, x93, x94, x95, x96, x97, x98, x99, x100, x101, x102, x103, x104, x105, x106, x107, x108, x109, x110, x111, x112, x113, x114, x115, x116, x117, x118, x119, x120, x121, x122, x123, x124, x125, x126, x127, x128, x129, x130, x131, x132, x133, x134, x135, x136, x137, x138, x139, x140, x141, x142, x143, x144, x145, x146, x147, x148, x149, x150, x151, x152, x153, x154, x155], []⟩ wc := by
  conv => arg 2; whnf
  obtain ⟨i33, hi33, hz33, hs33, hb33⟩ := info_u64
  have HI2 := hidden hi33
  have HZ2 := hidden hz33
  have HS2 := hidden hs33
  have HBY2 := hidden hb33
  clear hi33 hz33 hs33 hb33
  go_wp2_with fail
  go_loopw [12, 13] (fun v i' w' => ∃ (k : Nat), k ≤ N.outs.length ∧ i' = .int .i64 k ∧ Hid (w'.ownsRow wc.heap.size 33 1 v k (((N.outs.take k).map (vAt vs)).map uV)) ∧ Hid (Below wc.heap.size wc w')) (fun _ i' _ => N.outs.length - (intOf i').toNat)
  case atStart => exact ⟨0, Nat.zero_le _, rfl, World.ownsRow_nil _ _ _ _, Below.refl _ _⟩
  case round =>
    obtain ⟨k, hk, rfl, HO, HBr⟩ := hrel
    have q5R := (HBr.out.cell (p := ⟨nbk, 5, none⟩) hnbk).trans q5
    by_cases hlt : k < N.outs.length
    · obtain ⟨ob, oo, ea, hob, hoc⟩ := HOU.out.int hlt
      have co := (HBr.out.cell (p := ⟨ob, oo + k, none⟩) hob).trans (hoc k hlt)
      have hr := hin _ (List.mem_of_getElem? (at0_of hlt))
      obtain ⟨y, hy⟩ : ∃ y, vs[(at0 N.outs k).toNat]? = some y := ⟨vs[(at0 N.outs k).toNat]'(by omega), List.getElem?_eq_getElem (by omega)⟩
      have cyR := (HBr.out.cell (p := ⟨vb, vo + (at0 N.outs k).toNat, none⟩) hvb).trans (HV.out _ y hy)
      have ev : vAt vs (at0 N.outs k) = y := by unfold vAt; rw [hy]; rfl
      have HNX : Hid (((N.outs.take (k + 1)).map (vAt vs)).map uV = ((N.outs.take k).map (vAt vs)).map uV ++ [.int .u64 (y : Int)]) := by
        show _ = _
        rw [take_next _ k _ (at0_of hlt), List.map_append, List.map_append]
        simp [uV, ev]
      rw [ea] at q5R
      generalize at0 N.outs k = a at *
      obtain ⟨ha0, ha1⟩ := hr
      have hltI : (k : Int) < (N.outs.length : Int) := by omega
      have e3 : IntKind.i64.wrap ((k : Int) + 1) = (k : Int) + 1 := wrapI _ (by omega) (by omega)
      have hm1 : k + 1 ≤ maxLen := by simp only [maxLen]; omega
      have hm2 : (k + 1) * 8 ≤ 140737488355328 := by omega
      have hsz := HBr.out.size
      have hm3 : wc.heap.size ≤ (wr.alloc (.cells #[.int .u64 (y : Int)] 33)).heap.size := by simp; omega
      clear hoc ea hy ev
      have tok : True := trivial
      go_wp2_with (have _t := tok; at_builtin; (refine wpList_append_lies _ rfl (.tmp 71) (.tmp 80) 34 rfl wc.heap.size 33 i33 _ 1 8 Try.underlying34 HI2.out HZ2.out HS2.out HBY2.out rfl (by decide) u12 k _ rfl (HO.out.alloc _) ⟨wr.heap.size, 0, none⟩ 1 1 [.int .u64 (y : Int)] rfl rfl (World.news_of_block (heap_new _ _)) (by simp [Value.oneCell']) (by decide) hm1 hm2 hm3 _ rfl ?_; intro g cap w5 hown hgrow hat5 hlt5; clear tok))
      have HO5 : Hid (w5.ownsRow wc.heap.size 33 1 (.slice (some ⟨g, 0, none⟩) (k + 1) cap) (k + 1) (((N.outs.take (k + 1)).map (vAt vs)).map uV)) := by
        show World.ownsRow _ _ _ _ _ _ _
        rw [HNX.out]
        exact hown
      have HB5 : Hid (Below wc.heap.size wc w5) := grown_plain HBr.out HO.out hgrow
      clear hown hgrow hat5 hlt5 hm1 hm2 hm3 HO HBr HNX
      go_wp2
      go_roundw
      case measure => simp [intOf]; omega
      case rel => exact ⟨k + 1, by omega, by simp, HO5.out, HB5.out⟩
    · have hge : ¬ ((k : Int) < (N.outs.length : Int)) := by omega
      have HO6 : Hid (wr.ownsRow wc.heap.size 33 1 u12 N.outs.length ((N.outs.map (vAt vs)).map uV)) := by
        have := HO.out
        rw [List.take_of_length_le (by omega), show k = N.outs.length by omega] at this
        exact this
      clear HO
      go_wp2
      exact HK.out _ _ _ _ _ _ _ _ _ _ _ _ _ _ _ _ _ _ _ _ _ ⟨HO6.out, HBr.out⟩

end Go.Proofs.Ytlkhmcajedjojaa
