import Derived.Test.YtdiahnommkhkiaaDoorJ38
namespace Go.Proofs.YtdiahnommkhkiaaDoor
open Go.RowKit

set_option maxRecDepth 100000 in
set_option maxHeartbeats 8000000 in
theorem auAnds (we wc : World) (rb fb hb gb n ni nl na : Nat) (T : List UInt8) (a : Option Addr) (c : Nat) (hT : T.length ≤ 1048576) (HBT : Hid (BtAt we a c T)) (BX0 : Hid (Boxes wc rb fb)) (hne : rb ≠ fb) (HBW0 : Hid (Below we.heap.size we wc)) (hrw : we.heap.size ≤ rb) (hfw : we.heap.size ≤ fb) (hrl : rb < wc.heap.size) (hfl : fb < wc.heap.size) (hbl : hb < wc.heap.size) (hni : ni ≤ 60000) (hnl : nl ≤ 60000) (hna : na ≤ 60000) (hgw : we.heap.size ≤ gb) (hgbl : gb < wc.heap.size) (hhg : hb ≠ gb) (hrg : rb ≠ gb) (hfg : fb ≠ gb) (hq2 : wc.cell? ⟨gb, 2, none⟩ = some (.slice none 0 0)) (hfr : ∀ j, wc.frozen? ⟨gb, j, none⟩ = false) (hH0 : Hid (wc.cell? ⟨hb, 0, none⟩ = some (.int .i64 (ni : Int)))) (hH1 : Hid (wc.cell? ⟨hb, 1, none⟩ = some (.int .i64 (nl : Int)))) (hH3 : Hid (wc.cell? ⟨hb, 3, none⟩ = some (.int .i64 (na : Int)))) (hP0 : offA T n 0 ≤ T.length) (K' : Act → World → Prop) (Q0 : Exit → Act → World → Prop) (x1 x4 x6 x8 x10 x11 x12 x13 x14 x15 x16 x18 x19 x20 x21 x22 x23 x24 x25 x26 x27 x28 x29 x30 x31 x32 x33 x34 x35 x36 x37 x38 x39 x40 x41 x42 x43 x44 x45 x46 x47 x48 x49 x50 x51 x52 x53 x54 x55 x56 x57 x58 x59 x60 x61 x62 x63 x64 x65 x66 x67 x68 x69 x70 x71 x72 x73 x74 x75 x76 x77 x78 x79 x80 x81 x82 x83 x84 x85 x86 x87 x88 x89 x90 x91 x92 x93 x94 x95 x96 x97 x98 x99 x100 x101 x102 x103 x104 x105 x106 x107 x108 x109 x110 x111 x112 x113 x114 x115 x116 x117 x118 x119 x120 x121 x122 x123 x124 x125 x126 x127 x128 x129 x130 x131 x132 x133 x134 x135 x136 x137 x138 x139 x140 x141 x142 x143 x144 x145 x146 x147 x148 x149 x150 x151 x152 x153 x154 x155 x156 x157 x158 x159 x160 x161 x162 x163 x164 x165 x166 x167 x168 x169 x170 x171 x172 x173 x174 x175 x176 x177 x178 x179 x180 x181 x182 x183 x184 x185 x186 x187 x188 x189 x190 x191 x192 x193 x194 x195 x196 x197 x198 x199 x200 x201 x202 x203 x204 x205 x206 x207 x208 x209 x210 x211 x212 x213 x214 x215 x216 x217 x218 x219 x220 x221 x222 x223 x224 x225 x226 x227 x228 x229 x230 x231 x232 x233 x234 x235 x236 x237 x238 x239 x240 x241 x242 x243 x244 x245 x246 x247 : Value)
    (HK : Hid (∀ (w' : World) (s17 s18 s19 s20 s21 s22 s23 s136 s137 s138 s139 s140 s141 s142 s143 s144 s145 s146 s147 s148 s149 s150 s151 s152 s153 s154 s155 s156 s157 s158 s159 s160 s161 s162 s163 s164 s165 s166 s167 s168 s169 s170 s171 s172 s173 s174 s175 s176 s177 s178 s179 s180 s181 s182 s183 s184 s185 s186 s187 s188 s189 s190 s191 s192 s193 s194 s195 s196 s197 s198 s199 s200 s201 s202 s203 s204 s205 s206 s207 : Value), (∃ (ds : List AndD) (u : Value), offA T n na ≤ T.length ∧ ds.length = na ∧ (∀ i d, ds[i]? = some d → AndB T (offA T n i) (2 * (1 + (ni : Int) + (nl : Int) + (i : Int))) d) ∧ w'.cell? ⟨gb, 2, none⟩ = some u ∧ w'.ownsRow wc.heap.size 48 2 u na (ds.flatMap AndD.cells) ∧ wc.grownBy w' (some gb) ∧ (∀ j, w'.frozen? ⟨gb, j, none⟩ = false) ∧ (∀ j, j ≠ 2 → w'.cell? ⟨gb, j, none⟩ = wc.cell? ⟨gb, j, none⟩)) → K' ⟨#[.slice a T.length c, x1, .pointer (some ⟨rb, 0, none⟩), .pointer (some ⟨fb, 0, none⟩), x4, .int .i64 ((offA T n na : Nat) : Int), x6, .pointer (some ⟨hb, 0, none⟩), x8, .pointer (some ⟨gb, 0, none⟩), x10, x11, x12, x13, x14, x15, x16, s17, s18, s19, s20, s21, s22, s23, x24, x25, x26, x27, x28, x29, x30, x31, x32, x33, x34, x35, x36, x37, x38, x39, x40, x41, x42, x43, x44, x45, x46, x47, x48, x49, x50, x51, x52, x53, x54, x55, x56, x57, x58, x59, x60, x61, x62, x63, x64, x65, x66, x67, x68, x69, x70, x71, x72, x73, x74, x75, x76, x77, x78, x79, x80, x81, x82, x83, x84, x85, x86, x87, x88, x89, x90, x91, x92, x93, x94, x95, x96, x97, x98, x99, x100, x101, x102, x103, x104, x105, x106, x107, x108, x109, x110, x111, x112, x113, x114, x115, x116, x117, x118, x119, x120, x121, x122, x123, x124, x125, x126, x127, x128, x129, x130, x131, x132, x133, x134, x135, s136, s137, s138, s139, s140, s141, s142, s143, s144, s145, s146, s147, s148, s149, s150, s151, s152, s153, s154, s155, s156, s157, s158, s159, s160, s161, s162, s163, s164, s165, s166, s167, s168, s169, s170, s171, s172, s173, s174, s175, s176, s177, s178, s179, s180, s181, s182, s183, s184, s185, s186, s187, s188, s189, s190, s191, s192, s193, s194, s195, s196, s197, s198, s199, s200, s201, s202, s203, s204, s205, s206, s207, x208, x209, x210, x211, x212, x213, x214, x215, x216, x217, x218, x219, x220, x221, x222, x223, x224, x225, x226, x227, x228, x229, x230, x231, x232, x233, x234, x235, x236, x237, x238, x239, x240, x241, x242, x243, x244, x245, x246, x247], []⟩ w'))
    (HQ : Hid (∀ (k : Nat) (a : Act) (w' : World), k < na → (∀ j, j < k → ∃ d, AndB T (offA T n j) (2 * (1 + (ni : Int) + (nl : Int) + (j : Int))) d) → (¬ ∃ d, AndB T (offA T n k) (2 * (1 + (ni : Int) + (nl : Int) + (k : Int))) d) → a.defers = [] → a.tmps.getD 2 undef = .pointer (some ⟨rb, 0, none⟩) → a.tmps.getD 3 undef = .pointer (some ⟨fb, 0, none⟩) → Told we w' rb fb ((placeA T (offA T n k) (2 * (1 + (ni : Int) + (nl : Int) + (k : Int))) : Nat) : Int) → Q0 .ret a w')) :
    Code.wp Tryd.prog ((Tryd.f18.body.bind (blockAt 2)).getD .skip) (Exit.then K' Q0) ⟨#[.slice a T.length c, x1, .pointer (some ⟨rb, 0, none⟩), .pointer (some ⟨fb, 0, none⟩), x4, .int .i64 ((offA T n 0 : Nat) : Int), x6, .pointer (some ⟨hb, 0, none⟩), x8, .pointer (some ⟨gb, 0, none⟩), x10, x11, x12, x13, x14, x15, x16, .int .i64 0, x18, x19, x20, x21, x22, x23, x24, x25, x26, x27, x28, x29, x30, x31, x32, x33, x34, x35, x36, x37, x38, x39, x40, x41, x42, x43, x44, x45, x46, x47, x48, x49, x50, x51, x52, x53, x54, x55, x56, x57, x58, x59, x60, x61, x62, x63, x64, x65, x66, x67, x68, x69, x70, x71, x72, x73, x74, x75, x76, x77, x78, x79, x80, x81, x82, x83, x84, x85, x86, x87, x88, x89, x90, x91, x92, x93, x94, x95, x96, x97, x98, x99, x100, x101, x102, x103, x104, x105, x106, x107, x108, x109, x110, x111, x112, x113, x114, x115, x116, x117, x118, x119, x120, x121, x122, x123, x124, x125, x126, x127, x128, x129, x130, x131, x132, x133, x134, x135, x136, x137, x138, x139, x140, x141, x142, x143, x144, x145, x146, x147, x148, x149, x150, x151, x152, x153, x154, x155, x156, x157, x158, x159, x160, x161, x162, x163, x164, x165, x166, x167, x168, x169, x170, x171, x172, x173, x174, x175, x176, x177, x178, x179, x180, x181, x182, x183, x184, x185, x186, x187, x188, x189, x190, x191, x192, x193, x194, x195, x196, x197, x198, x199, x200, x201, x202, x203, x204, x205, x206, x207, x208, x209, x210, x211, x212, x213, x214, x215, x216, x217, x218, x219, x220, x221, x222, x223, x224, x225, x226, x227, x228, x229, x230, x231, x232, x233, x234, x235, x236, x237, x238, x239, x240, x241, x242, x243, x244, x245, x246, x247], []⟩ wc := by
  conv => arg 2; whnf
  obtain ⟨i3, hi3, hz3, hs3, hb3⟩ := info_and
  have HI2 := hidden hi3
  have HZ2 := hidden hz3
  have HS2 := hidden hs3
  have HBY2 := hidden hb3
  clear hi3 hz3 hs3 hb3
  generalize htl0 : T.length = tl at *
  have HTL := hidden htl0
  clear htl0
  go_wp2_with fail
  go_loopw [5, 17] (fun p' i' w' => ∃ (k p : Nat) (ds : List AndD) (u : Value), k ≤ na ∧ p' = .int .i64 p ∧ i' = .int .i64 k ∧ Hid (p = offA T n k) ∧ Hid (p ≤ tl) ∧ ds.length = k ∧ Hid (∀ i d, ds[i]? = some d → AndB T (offA T n i) (2 * (1 + (ni : Int) + (nl : Int) + (i : Int))) d) ∧ Hid (w'.cell? ⟨gb, 2, none⟩ = some u) ∧ Hid (w'.ownsRow wc.heap.size 48 2 u k (ds.flatMap AndD.cells)) ∧ Hid (wc.grownBy w' (some gb)) ∧ Hid (∀ j, w'.frozen? ⟨gb, j, none⟩ = false) ∧ Hid (∀ j, j ≠ 2 → w'.cell? ⟨gb, j, none⟩ = wc.cell? ⟨gb, j, none⟩)) (fun _ i' _ => na - (intOf i').toNat)
  case atStart => exact ⟨0, offA T n 0, [], _, Nat.zero_le _, rfl, rfl, rfl, hP0, rfl, fun i d hd => by simp at hd, hq2, World.ownsRow_nil _ _ _ _, grown_refl _ _, hfr, fun _ _ => rfl⟩
  case round =>
    obtain ⟨k, p, ds, u, hk, rfl, rfl, HPK, HPT, hds, HP, HU, HO, HG, HF, HJ⟩ := hrel
    have c3 : wr.cell? ⟨hb, 3, none⟩ = some (.int .i64 (na : Int)) := (gcell HG.out hbl hhg).trans hH3.out
    by_cases hlt : k < na
    · have hltI : (k : Int) < (na : Int) := by omega
      have HBWr : Hid (Below we.heap.size we wr) := HBW0.out.trans (below_grown HG.out HBW0.out.size (fun x hx => by have := Option.some.inj hx; omega))
      have U1 := hidden (unseven_any T (by rw [HTL.out]; exact hT) a c p (by rw [HTL.out]; exact HPT.out) wr (HBT.out.to HBWr.out))
      rw [HTL.out] at U1
      have HPre : Hid (∀ j, j < k → ∃ d, AndB T (offA T n j) (2 * (1 + (ni : Int) + (nl : Int) + (j : Int))) d) := fun j hj => ⟨_, HP.out j _ (List.getElem?_eq_getElem (by omega : j < ds.length))⟩
      have e3 : IntKind.i64.wrap ((k : Int) + 1) = (k : Int) + 1 := wrapI _ (by omega) (by omega)
      have e5 : IntKind.i64.wrap (1 + (ni : Int)) = 1 + (ni : Int) := wrapI _ (by omega) (by omega)
      have e6 : IntKind.i64.wrap (1 + (ni : Int) + (nl : Int)) = 1 + (ni : Int) + (nl : Int) := wrapI _ (by omega) (by omega)
      have e7 : IntKind.i64.wrap (1 + (ni : Int) + (nl : Int) + (k : Int)) = 1 + (ni : Int) + (nl : Int) + (k : Int) := wrapI _ (by omega) (by omega)
      obtain ⟨own, hown0⟩ : ∃ x, x = (2 * (1 + (ni : Int) + (nl : Int) + (k : Int))) := ⟨_, rfl⟩
      have e8 : IntKind.i64.wrap (2 * (1 + (ni : Int) + (nl : Int) + (k : Int))) = own := by rw [hown0]; exact wrapI _ (by omega) (by omega)
      have hob : 0 ≤ own ∧ own ≤ 1000000 := by rw [hown0]; omega
      have HOWN := hidden hown0
      have hm1 : k + 1 ≤ maxLen := by simp only [maxLen]; omega
      have hm2 : (k + 1) * 16 ≤ 140737488355328 := by omega
      have hsr := HG.out.size
      clear hown0
      go_wp2_with fail
      go_at_call 32
      refine U1.out.mono ?_
      rintro e w1 ⟨hcl, hb1⟩
      have HGA : Hid (wc.grownBy w1 (some gb)) := grown_trans HG.out (gbel hb1 _)
      have hs1 := hb1.size
      have HB1 := hidden hb1
      have h0 : w1.cell? ⟨hb, 0, none⟩ = some (.int .i64 (ni : Int)) := (gcell HGA.out hbl hhg).trans hH0.out
      have h1 : w1.cell? ⟨hb, 1, none⟩ = some (.int .i64 (nl : Int)) := (gcell HGA.out hbl hhg).trans hH1.out
      clear hb1 U1 c3
      rcases hcl with ⟨x, q, hx1, rfl⟩ | ⟨hx1, x, q, rfl⟩
      · have HX1 := hidden hx1
        have hxq := sevB_le hx1
        rw [HTL.out] at hxq
        clear hx1
        by_cases hxl : 1 ≤ x
        · have hxlb : ¬ x < 1 := by omega
          by_cases hxo : x ≤ own
          · have hxob : ¬ own < x := by omega
            have HBW1 : Hid (Below we.heap.size we w1) := HBW0.out.trans (below_grown HGA.out HBW0.out.size (fun x hx => by have := Option.some.inj hx; omega))
            have U2 := hidden (unseven_any T (by rw [HTL.out]; exact hT) a c q (by rw [HTL.out]; exact hxq.2) w1 (HBT.out.to HBW1.out))
            rw [HTL.out] at U2
            go_wp2_with fail
            go_at_call 32
            refine U2.out.mono ?_
            rintro e w2 ⟨hcl, hb2⟩
            have HB12 : Hid (Below wr.heap.size wr w2) := HB1.out.trans (hb2.mono HB1.out.size)
            have HGX : Hid (wc.grownBy w2 (some gb)) := grown_trans HG.out (gbel HB12.out _)
            have hs2 := HB12.out.size
            have m1 : IntKind.i64.wrap (own - x) = own - x := wrapI _ (by omega) (by omega)
            clear hb2 U2 h0 h1 HBW1
            rcases hcl with ⟨y, r, hy1, rfl⟩ | ⟨hy1, y, r, rfl⟩
            · have HY1 := hidden hy1
              have hy0 := sevB_nonneg hy1
              have hyq := sevB_le hy1
              rw [HTL.out] at hyq
              clear hy1
              by_cases hyo : y ≤ own - x
              · have hyob : ¬ own - x < y := by omega
                have m2 : IntKind.i64.wrap (own - x - y) = own - x - y := wrapI _ (by omega) (by omega)
                have HOK : Hid (AndB T (offA T n k) (2 * (1 + (ni : Int) + (nl : Int) + (k : Int))) (⟨own - x, own - x - y⟩ : AndD)) := by rw [← HPK.out, ← HOWN.out]; exact ⟨x, q, y, r, HX1.out, hxl, hxo, HY1.out, hyo, rfl⟩
                have HPN : Hid (r = offA T n (k + 1)) := by show _ = _; rw [offA_next, ← HPK.out, nextA_of HX1.out HY1.out]
                have HNX := hidden (line_next (P := fun i d => AndB T (offA T n i) (2 * (1 + (ni : Int) + (nl : Int) + (i : Int))) d) (d := (⟨own - x, own - x - y⟩ : AndD)) hds HP.out HOK.out)
                have HO2 := hidden (own_below HO.out HB12.out)
                have hgl2 : gb < w2.heap.size := by omega
                have hu2 : w2.cell? ⟨gb, 2, none⟩ = some u := (HB12.out.cell (p := ⟨gb, 2, none⟩) (by show gb < _; omega)).trans HU.out
                have HF2 : Hid (∀ j, w2.frozen? ⟨gb, j, none⟩ = false) := fun j => (HB12.out.frozen (p := ⟨gb, j, none⟩) (by show gb < _; omega)).trans (HF.out j)
                have HJ2 : Hid (∀ j, j ≠ 2 → w2.cell? ⟨gb, j, none⟩ = wc.cell? ⟨gb, j, none⟩) := fun j hj => (HB12.out.cell (p := ⟨gb, j, none⟩) (by show gb < _; omega)).trans (HJ.out j hj)
                have far : some gb ≠ u.ownBlock := fun e => by have := (HO.out.lt gb e.symm).1; omega
                have hm3 : wc.heap.size ≤ (w2.alloc (.cells #[.int .i64 (own - x), .int .i64 (own - x - y)] 48)).heap.size := by simp; omega
                have KC : Hid (∀ w', (w2.alloc (.cells #[.int .i64 (own - x), .int .i64 (own - x - y)] 48)).grownBy w' u.ownBlock → w'.cell? ⟨gb, 2, none⟩ = some u ∧ w'.frozen? ⟨gb, 2, none⟩ = false) := fun w' hg => by
                  have hg' := grown_trans (World.grownBy_alloc _ _ _) hg
                  exact ⟨(hg'.cell_far ⟨gb, 2, none⟩ hgl2 far).trans hu2, (hg'.frozen_far ⟨gb, 2, none⟩ hgl2 far).trans (HF2.out 2)⟩
                have tok : True := trivial
                go_upto_region 29 with (have _t := tok; at_builtin; (refine wpList_append_lies _ rfl (.tmp 194) (.tmp 204) 25 rfl wc.heap.size 48 i3 _ 2 16 Tryd.underlying25 HI2.out HZ2.out HS2.out HBY2.out rfl (by decide) u k _ rfl (HO2.out.alloc _) ⟨w2.heap.size, 0, none⟩ 1 1 [.int .i64 (own - x), .int .i64 (own - x - y)] rfl rfl (World.news_of_block (heap_new _ _)) (by simp [Value.oneCell']) (by decide) hm1 hm2 hm3 _ rfl ?_; intro g cap w5 hown hgrow hat hlt5; clear tok; have hcc := (KC.out w5 hgrow).1; have hff := (KC.out w5 hgrow).2))
                generalize hW6 : World.setCell w5 _ _ = w6
                have HG5 : w2.grownBy w5 u.ownBlock := grown_trans (World.grownBy_alloc _ _ _) hgrow
                have HU6 : Hid (w6.cell? ⟨gb, 2, none⟩ = some (.slice (some ⟨g, 0, none⟩) (k + 1) cap)) := by rw [← hW6]; exact World.cell?_setCell_same (h := hcc) ..
                have HF6 : Hid (∀ j, w6.frozen? ⟨gb, j, none⟩ = false) := fun j => by rw [← hW6]; exact (World.frozen?_setCell _ _ _ _).trans ((HG5.frozen_far ⟨gb, j, none⟩ hgl2 far).trans (HF2.out j))
                have hgs : w5.grownBy w6 (some gb) := by rw [← hW6]; exact gset _ _ _ _
                have hgh : g ≠ gb := fun e => by
                  rcases hat with h | h
                  · have := (HO.out.lt g h).1; omega
                  · simp at h; omega
                have HO6 : Hid (w6.ownsRow wc.heap.size 48 2 (.slice (some ⟨g, 0, none⟩) (k + 1) cap) (k + 1) ((ds ++ [(⟨own - x, own - x - y⟩ : AndD)]).flatMap AndD.cells)) := by
                  have := hown.kept hgs (.inr (fun e => hgh (by cases e; rfl)))
                  rw [List.flatMap_append]; exact this
                have HG6 : Hid (wc.grownBy w6 (some gb)) := grown_thru HGX.out HG5 hgs (fun x hx => (HO.out.lt x hx).1)
                have HJ6 : Hid (∀ j, j ≠ 2 → w6.cell? ⟨gb, j, none⟩ = wc.cell? ⟨gb, j, none⟩) := fun j hj => by
                  rw [← hW6]
                  refine (World.cell?_setCell_other (h := fun e => hj (by cases e; rfl)) ..).trans ?_
                  exact (HG5.cell_far ⟨gb, j, none⟩ hgl2 far).trans (HJ2.out j hj)
                clear hW6 hgs hgh hown hgrow hat hlt5 HG5 hcc hff HO HG HJ HU HF KC hu2 HP HOK HGA HGX HO2 HF2 HJ2
                go_wp2
                go_roundw
                case measure => simp [intOf]; omega
                case rel => exact ⟨k + 1, r, ds ++ [(⟨own - x, own - x - y⟩ : AndD)], _, by omega, rfl, by simp, HPN.out, hyq.2, HNX.out.1, HNX.out.2, HU6.out, HO6.out, HG6.out, HF6.out, HJ6.out⟩
              · have hyob : own - x < y := by omega
                have HPS := hidden (placeA_second HX1.out hxl hxo (fun y' q' h => by rw [HY1.out] at h; cases h; omega))
                have HPLC : Hid (((placeA T (offA T n k) (2 * (1 + (ni : Int) + (nl : Int) + (k : Int))) : Nat) : Int) = (q : Int)) := by rw [← HPK.out, ← HOWN.out, HPS.out.1]; rfl
                have HNOT : Hid (¬ ∃ d, AndB T (offA T n k) (2 * (1 + (ni : Int) + (nl : Int) + (k : Int))) d) := by rw [← HPK.out, ← HOWN.out]; exact HPS.out.2
                have BX := hidden (BX0.out.grown HGX.out hrl hfl hrg hfg)
                have HBW : Hid (Below we.heap.size we w2) := HBW0.out.trans (below_grown HGX.out HBW0.out.size (fun x hx => by have := Option.some.inj hx; omega))
                have hsX := HGX.out.size
                have B5 := hidden (badByte_any (q : Int) w2)
                go_wp2_with fail
                go_at_call 31
                refine B5.out.mono ?_
                rintro e w8 ⟨rfl, hb8⟩
                have HBX8 := hidden (BX.out.below hb8 (by omega) (by omega))
                have HBW8 : Hid (Below we.heap.size we w8) := HBW.out.trans (hb8.mono HBW.out.size)
                have r0 : w8.cell? ⟨rb, 0, none⟩ = some (.int .i64 0) := heap_cell HBX8.out.r
                have r1 : w8.cell? ⟨rb, 1, none⟩ = some (.slice none 0 0) := heap_cell HBX8.out.r
                have r2 : w8.cell? ⟨rb, 2, none⟩ = some (.slice none 0 0) := heap_cell HBX8.out.r
                have r3 : w8.cell? ⟨rb, 3, none⟩ = some (.slice none 0 0) := heap_cell HBX8.out.r
                have q0 : w8.cell? ⟨fb, 0, none⟩ = some (.int .i64 0) := heap_cell HBX8.out.f
                have q1 : w8.cell? ⟨fb, 1, none⟩ = some (.int .i64 0) := heap_cell HBX8.out.f
                have fr : ∀ j, w8.frozen? ⟨rb, j, none⟩ = false := fun j => heap_fz HBX8.out.r j
                have ff : ∀ j, w8.frozen? ⟨fb, j, none⟩ = false := fun j => heap_fz HBX8.out.f j
                have HTOLD := hidden (told_of (q : Int) HBX8.out hne HBW8.out hrw hfw)
                clear hb8 B5
                go_wp2
                exact HQ.out k _ _ hlt HPre.out HNOT.out rfl rfl rfl (by rw [HPLC.out]; exact HTOLD.out)
            · have HY1 := hidden hy1
              clear hy1
              have HPS := hidden (placeA_second HX1.out hxl hxo (fun y' q' h => by rw [HY1.out] at h; cases h))
              have HPLC : Hid (((placeA T (offA T n k) (2 * (1 + (ni : Int) + (nl : Int) + (k : Int))) : Nat) : Int) = (q : Int)) := by rw [← HPK.out, ← HOWN.out, HPS.out.1]; rfl
              have HNOT : Hid (¬ ∃ d, AndB T (offA T n k) (2 * (1 + (ni : Int) + (nl : Int) + (k : Int))) d) := by rw [← HPK.out, ← HOWN.out]; exact HPS.out.2
              have BX := hidden (BX0.out.grown HGX.out hrl hfl hrg hfg)
              have HBW : Hid (Below we.heap.size we w2) := HBW0.out.trans (below_grown HGX.out HBW0.out.size (fun x hx => by have := Option.some.inj hx; omega))
              have hsX := HGX.out.size
              have B5 := hidden (badByte_any (q : Int) w2)
              go_wp2_with fail
              go_at_call 31
              refine B5.out.mono ?_
              rintro e w8 ⟨rfl, hb8⟩
              have HBX8 := hidden (BX.out.below hb8 (by omega) (by omega))
              have HBW8 : Hid (Below we.heap.size we w8) := HBW.out.trans (hb8.mono HBW.out.size)
              have r0 : w8.cell? ⟨rb, 0, none⟩ = some (.int .i64 0) := heap_cell HBX8.out.r
              have r1 : w8.cell? ⟨rb, 1, none⟩ = some (.slice none 0 0) := heap_cell HBX8.out.r
              have r2 : w8.cell? ⟨rb, 2, none⟩ = some (.slice none 0 0) := heap_cell HBX8.out.r
              have r3 : w8.cell? ⟨rb, 3, none⟩ = some (.slice none 0 0) := heap_cell HBX8.out.r
              have q0 : w8.cell? ⟨fb, 0, none⟩ = some (.int .i64 0) := heap_cell HBX8.out.f
              have q1 : w8.cell? ⟨fb, 1, none⟩ = some (.int .i64 0) := heap_cell HBX8.out.f
              have fr : ∀ j, w8.frozen? ⟨rb, j, none⟩ = false := fun j => heap_fz HBX8.out.r j
              have ff : ∀ j, w8.frozen? ⟨fb, j, none⟩ = false := fun j => heap_fz HBX8.out.f j
              have HTOLD := hidden (told_of (q : Int) HBX8.out hne HBW8.out hrw hfw)
              clear hb8 B5
              go_wp2
              exact HQ.out k _ _ hlt HPre.out HNOT.out rfl rfl rfl (by rw [HPLC.out]; exact HTOLD.out)
          · have hxob : own < x := by omega
            have HGX := HGA
            have HPS := hidden (placeA_first (T := T) (n := p) (own := own) (fun y' q' h => by rw [HX1.out] at h; cases h; omega))
            have HPLC : Hid (((placeA T (offA T n k) (2 * (1 + (ni : Int) + (nl : Int) + (k : Int))) : Nat) : Int) = (p : Int)) := by rw [← HPK.out, ← HOWN.out, HPS.out.1]; rfl
            have HNOT : Hid (¬ ∃ d, AndB T (offA T n k) (2 * (1 + (ni : Int) + (nl : Int) + (k : Int))) d) := by rw [← HPK.out, ← HOWN.out]; exact HPS.out.2
            have BX := hidden (BX0.out.grown HGX.out hrl hfl hrg hfg)
            have HBW : Hid (Below we.heap.size we w1) := HBW0.out.trans (below_grown HGX.out HBW0.out.size (fun x hx => by have := Option.some.inj hx; omega))
            have hsX := HGX.out.size
            have B5 := hidden (badByte_any (p : Int) w1)
            go_wp2_with fail
            go_at_call 31
            refine B5.out.mono ?_
            rintro e w8 ⟨rfl, hb8⟩
            have HBX8 := hidden (BX.out.below hb8 (by omega) (by omega))
            have HBW8 : Hid (Below we.heap.size we w8) := HBW.out.trans (hb8.mono HBW.out.size)
            have r0 : w8.cell? ⟨rb, 0, none⟩ = some (.int .i64 0) := heap_cell HBX8.out.r
            have r1 : w8.cell? ⟨rb, 1, none⟩ = some (.slice none 0 0) := heap_cell HBX8.out.r
            have r2 : w8.cell? ⟨rb, 2, none⟩ = some (.slice none 0 0) := heap_cell HBX8.out.r
            have r3 : w8.cell? ⟨rb, 3, none⟩ = some (.slice none 0 0) := heap_cell HBX8.out.r
            have q0 : w8.cell? ⟨fb, 0, none⟩ = some (.int .i64 0) := heap_cell HBX8.out.f
            have q1 : w8.cell? ⟨fb, 1, none⟩ = some (.int .i64 0) := heap_cell HBX8.out.f
            have fr : ∀ j, w8.frozen? ⟨rb, j, none⟩ = false := fun j => heap_fz HBX8.out.r j
            have ff : ∀ j, w8.frozen? ⟨fb, j, none⟩ = false := fun j => heap_fz HBX8.out.f j
            have HTOLD := hidden (told_of (p : Int) HBX8.out hne HBW8.out hrw hfw)
            clear hb8 B5
            go_wp2
            exact HQ.out k _ _ hlt HPre.out HNOT.out rfl rfl rfl (by rw [HPLC.out]; exact HTOLD.out)
        · have hxlb : x < 1 := by omega
          have HGX := HGA
          have HPS := hidden (placeA_first (T := T) (n := p) (own := own) (fun y' q' h => by rw [HX1.out] at h; cases h; omega))
          have HPLC : Hid (((placeA T (offA T n k) (2 * (1 + (ni : Int) + (nl : Int) + (k : Int))) : Nat) : Int) = (p : Int)) := by rw [← HPK.out, ← HOWN.out, HPS.out.1]; rfl
          have HNOT : Hid (¬ ∃ d, AndB T (offA T n k) (2 * (1 + (ni : Int) + (nl : Int) + (k : Int))) d) := by rw [← HPK.out, ← HOWN.out]; exact HPS.out.2
          have BX := hidden (BX0.out.grown HGX.out hrl hfl hrg hfg)
          have HBW : Hid (Below we.heap.size we w1) := HBW0.out.trans (below_grown HGX.out HBW0.out.size (fun x hx => by have := Option.some.inj hx; omega))
          have hsX := HGX.out.size
          have B5 := hidden (badByte_any (p : Int) w1)
          go_wp2_with fail
          go_at_call 31
          refine B5.out.mono ?_
          rintro e w8 ⟨rfl, hb8⟩
          have HBX8 := hidden (BX.out.below hb8 (by omega) (by omega))
          have HBW8 : Hid (Below we.heap.size we w8) := HBW.out.trans (hb8.mono HBW.out.size)
          have r0 : w8.cell? ⟨rb, 0, none⟩ = some (.int .i64 0) := heap_cell HBX8.out.r
          have r1 : w8.cell? ⟨rb, 1, none⟩ = some (.slice none 0 0) := heap_cell HBX8.out.r
          have r2 : w8.cell? ⟨rb, 2, none⟩ = some (.slice none 0 0) := heap_cell HBX8.out.r
          have r3 : w8.cell? ⟨rb, 3, none⟩ = some (.slice none 0 0) := heap_cell HBX8.out.r
          have q0 : w8.cell? ⟨fb, 0, none⟩ = some (.int .i64 0) := heap_cell HBX8.out.f
          have q1 : w8.cell? ⟨fb, 1, none⟩ = some (.int .i64 0) := heap_cell HBX8.out.f
          have fr : ∀ j, w8.frozen? ⟨rb, j, none⟩ = false := fun j => heap_fz HBX8.out.r j
          have ff : ∀ j, w8.frozen? ⟨fb, j, none⟩ = false := fun j => heap_fz HBX8.out.f j
          have HTOLD := hidden (told_of (p : Int) HBX8.out hne HBW8.out hrw hfw)
          clear hb8 B5
          go_wp2
          exact HQ.out k _ _ hlt HPre.out HNOT.out rfl rfl rfl (by rw [HPLC.out]; exact HTOLD.out)
      · have HX1 := hidden hx1
        clear hx1
        have HGX := HGA
        have HPS := hidden (placeA_first (T := T) (n := p) (own := own) (fun y' q' h => by rw [HX1.out] at h; cases h))
        have HPLC : Hid (((placeA T (offA T n k) (2 * (1 + (ni : Int) + (nl : Int) + (k : Int))) : Nat) : Int) = (p : Int)) := by rw [← HPK.out, ← HOWN.out, HPS.out.1]; rfl
        have HNOT : Hid (¬ ∃ d, AndB T (offA T n k) (2 * (1 + (ni : Int) + (nl : Int) + (k : Int))) d) := by rw [← HPK.out, ← HOWN.out]; exact HPS.out.2
        have BX := hidden (BX0.out.grown HGX.out hrl hfl hrg hfg)
        have HBW : Hid (Below we.heap.size we w1) := HBW0.out.trans (below_grown HGX.out HBW0.out.size (fun x hx => by have := Option.some.inj hx; omega))
        have hsX := HGX.out.size
        have B5 := hidden (badByte_any (p : Int) w1)
        go_wp2_with fail
        go_at_call 31
        refine B5.out.mono ?_
        rintro e w8 ⟨rfl, hb8⟩
        have HBX8 := hidden (BX.out.below hb8 (by omega) (by omega))
        have HBW8 : Hid (Below we.heap.size we w8) := HBW.out.trans (hb8.mono HBW.out.size)
        have r0 : w8.cell? ⟨rb, 0, none⟩ = some (.int .i64 0) := heap_cell HBX8.out.r
        have r1 : w8.cell? ⟨rb, 1, none⟩ = some (.slice none 0 0) := heap_cell HBX8.out.r
        have r2 : w8.cell? ⟨rb, 2, none⟩ = some (.slice none 0 0) := heap_cell HBX8.out.r
        have r3 : w8.cell? ⟨rb, 3, none⟩ = some (.slice none 0 0) := heap_cell HBX8.out.r
        have q0 : w8.cell? ⟨fb, 0, none⟩ = some (.int .i64 0) := heap_cell HBX8.out.f
        have q1 : w8.cell? ⟨fb, 1, none⟩ = some (.int .i64 0) := heap_cell HBX8.out.f
        have fr : ∀ j, w8.frozen? ⟨rb, j, none⟩ = false := fun j => heap_fz HBX8.out.r j
        have ff : ∀ j, w8.frozen? ⟨fb, j, none⟩ = false := fun j => heap_fz HBX8.out.f j
        have HTOLD := hidden (told_of (p : Int) HBX8.out hne HBW8.out hrw hfw)
        clear hb8 B5
        go_wp2
        exact HQ.out k _ _ hlt HPre.out HNOT.out rfl rfl rfl (by rw [HPLC.out]; exact HTOLD.out)
    · have hkN : k = na := by omega
      subst hkN
      have hge : ¬ ((k : Int) < (k : Int)) := by omega
      have hpk := HPK.out
      subst hpk
      go_wp2
      exact HK.out _ _ _ _ _ _ _ _ _ _ _ _ _ _ _ _ _ _ _ _ _ _ _ _ _ _ _ _ _ _ _ _ _ _ _ _ _ _ _ _ _ _ _ _ _ _ _ _ _ _ _ _ _ _ _ _ _ _ _ _ _ _ _ _ _ _ _ _ _ _ _ _ _ _ _ _ _ _ _ _ ⟨ds, u, HPT.out, hds, HP.out, HU.out, HO.out, HG.out, HF.out, HJ.out⟩


end Go.Proofs.YtdiahnommkhkiaaDoor
