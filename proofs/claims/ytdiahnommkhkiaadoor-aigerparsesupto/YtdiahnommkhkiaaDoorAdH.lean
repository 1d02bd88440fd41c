import Derived.Test.YtdiahnommkhkiaaDoorAdD
import Derived.Test.YtdiahnommkhkiaaDoorAqI
namespace Go.Proofs.YtdiahnommkhkiaaDoor
open Go.RowKit

set_option maxRecDepth 100000 in
set_option maxHeartbeats 8000000 in
theorem apAnds (we wc : World) (rb fb hb n0 N : Nat) (T : List UInt8) (a : Option Addr) (c : Nat) (hT : T.length ≤ 1048576) (HL : Hid (LnAt wc a T)) (BX0 : Hid (Boxes wc rb fb)) (hne : rb ≠ fb) (HBW0 : Hid (Below we.heap.size we wc)) (hrw : we.heap.size ≤ rb) (hfw : we.heap.size ≤ fb) (hrl : rb < wc.heap.size) (hfl : fb < wc.heap.size) (hbl : hb < wc.heap.size) (hN : N ≤ 60000) (hn0 : n0 ≤ 200000) (gb : Nat) (M : Int) (hgw : we.heap.size ≤ gb) (hgbl : gb < wc.heap.size) (hhg : hb ≠ gb) (hrg : rb ≠ gb) (hfg : fb ≠ gb) (hLg : ∀ b o, a = some ⟨b, o, none⟩ → b ≠ gb) (hq : wc.cell? ⟨gb, 2, none⟩ = some (.slice none 0 0)) (hfr : ∀ j, wc.frozen? ⟨gb, j, none⟩ = false) (hH : Hid (wc.cell? ⟨hb, 3, none⟩ = some (.int .i64 (N : Int)))) (ni nl : Nat) (hni : ni ≤ 60000) (hnl : nl ≤ 60000) (hH0 : Hid (wc.cell? ⟨hb, 0, none⟩ = some (.int .i64 (ni : Int)))) (hH1 : Hid (wc.cell? ⟨hb, 1, none⟩ = some (.int .i64 (nl : Int)))) (K' : Act → World → Prop) (Q0 : Exit → Act → World → Prop) (x0 x1 x5 x7 x11 x12 x13 x14 x15 x16 x17 x18 x19 x21 x22 x23 x24 x25 x26 x27 x28 x29 x30 x31 x32 x33 x34 x35 x36 x37 x38 x39 x40 x41 x42 x43 x44 x45 x46 x47 x48 x49 x50 x51 x52 x53 x54 x55 x56 x57 x58 x59 x60 x61 x62 x63 x64 x65 x66 x67 x68 x69 x70 x71 x72 x73 x74 x75 x76 x77 x78 x79 x80 x81 x82 x83 x84 x85 x86 x87 x88 x89 x90 x91 x92 x93 x94 x95 x96 x97 x98 x99 x100 x101 x102 x103 x104 x105 x106 x107 x108 x109 x110 x111 x112 x113 x114 x115 x116 x117 x118 x119 x120 x121 x122 x123 x124 x125 x126 x127 x128 x129 x130 x131 x132 x133 x134 x135 x136 x137 x138 x139 x140 x141 x142 x143 x144 x145 x146 x147 x148 x149 x150 x151 x152 x153 x154 x155 x156 x157 x158 x159 x160 x161 x162 x163 x164 x165 x166 x167 x168 x169 x170 x171 x172 x173 x174 x175 x176 x177 x178 x179 x180 x181 x182 x183 x184 x185 x186 x187 x188 x189 x190 x191 x192 x193 x194 x195 x196 x197 x198 x199 x200 x201 x202 x203 x204 x205 x206 x207 x208 x209 x210 x211 x212 x213 x214 x215 x216 x217 x218 x219 x220 x221 x222 x223 x224 x225 x226 x227 x228 x229 x230 x231 x232 x233 x234 x235 x236 x237 x238 x239 x240 x241 x242 x243 x244 x245 x246 x247 x248 x249 x250 x251 x252 x253 x254 x255 x256 x257 x258 x259 x260 x261 x262 x263 x264 x265 x266 x267 x268 x269 x270 x271 x272 x273 x274 x275 x276 : Value)
    (HK : Hid (∀ (w' : World) (s20 s21 s22 s178 s179 s180 s181 s182 s183 s184 s185 s186 s187 s188 s189 s190 s191 s192 s193 s194 s195 s196 s197 s198 s199 s200 s201 s202 s203 s204 s205 s206 s207 s208 s209 s210 s211 s212 s213 s214 s215 s216 s217 s218 s219 s220 s221 s222 s223 s224 s225 s226 s227 s228 s229 s230 s231 s232 s233 s234 s235 s236 s237 s238 s239 s240 s241 : Value), (∃ (ds : List AndD) (u : Value), ds.length = N ∧ (∀ i d, ds[i]? = some d → AndLine T (n0 + i) (2 * (1 + (ni : Int) + (nl : Int) + (i : Int))) d) ∧ w'.cell? ⟨gb, 2, none⟩ = some u ∧ w'.ownsRow wc.heap.size 48 2 u N (ds.flatMap AndD.cells) ∧ wc.grownBy w' (some gb) ∧ (∀ j, w'.frozen? ⟨gb, j, none⟩ = false) ∧ (∀ j, j ≠ 2 → w'.cell? ⟨gb, j, none⟩ = wc.cell? ⟨gb, j, none⟩)) → K' ⟨#[x0, x1, .pointer (some ⟨rb, 0, none⟩), .pointer (some ⟨fb, 0, none⟩), .slice a (linesOf T).length c, x5, .pointer (some ⟨hb, 0, none⟩), x7, .pointer (some ⟨gb, 0, none⟩), .int .i64 ((n0 + N : Nat) : Int), .int .i64 M, x11, x12, x13, x14, x15, x16, x17, x18, x19, s20, s21, s22, x23, x24, x25, x26, x27, x28, x29, x30, x31, x32, x33, x34, x35, x36, x37, x38, x39, x40, x41, x42, x43, x44, x45, x46, x47, x48, x49, x50, x51, x52, x53, x54, x55, x56, x57, x58, x59, x60, x61, x62, x63, x64, x65, x66, x67, x68, x69, x70, x71, x72, x73, x74, x75, x76, x77, x78, x79, x80, x81, x82, x83, x84, x85, x86, x87, x88, x89, x90, x91, x92, x93, x94, x95, x96, x97, x98, x99, x100, x101, x102, x103, x104, x105, x106, x107, x108, x109, x110, x111, x112, x113, x114, x115, x116, x117, x118, x119, x120, x121, x122, x123, x124, x125, x126, x127, x128, x129, x130, x131, x132, x133, x134, x135, x136, x137, x138, x139, x140, x141, x142, x143, x144, x145, x146, x147, x148, x149, x150, x151, x152, x153, x154, x155, x156, x157, x158, x159, x160, x161, x162, x163, x164, x165, x166, x167, x168, x169, x170, x171, x172, x173, x174, x175, x176, x177, s178, s179, s180, s181, s182, s183, s184, s185, s186, s187, s188, s189, s190, s191, s192, s193, s194, s195, s196, s197, s198, s199, s200, s201, s202, s203, s204, s205, s206, s207, s208, s209, s210, s211, s212, s213, s214, s215, s216, s217, s218, s219, s220, s221, s222, s223, s224, s225, s226, s227, s228, s229, s230, s231, s232, s233, s234, s235, s236, s237, s238, s239, s240, s241, x242, x243, x244, x245, x246, x247, x248, x249, x250, x251, x252, x253, x254, x255, x256, x257, x258, x259, x260, x261, x262, x263, x264, x265, x266, x267, x268, x269, x270, x271, x272, x273, x274, x275, x276], []⟩ w'))
    (HQ : Hid (∀ (k : Nat) (a : Act) (w' : World), k < N → (∀ j, j < k → (∃ d, AndLine T (n0 + j) (2 * (1 + (ni : Int) + (nl : Int) + (j : Int))) d)) → (¬ (∃ d, AndLine T (n0 + k) (2 * (1 + (ni : Int) + (nl : Int) + (k : Int))) d)) → a.defers = [] → a.tmps.getD 2 undef = .pointer (some ⟨rb, 0, none⟩) → a.tmps.getD 3 undef = .pointer (some ⟨fb, 0, none⟩) → Told we w' rb fb ((n0 + k + 1 : Nat) : Int) → Q0 .ret a w')) :
    Code.wp Tryd.prog ((Tryd.f11.body.bind (blockAt 6)).getD .skip) (Exit.then K' Q0) ⟨#[x0, x1, .pointer (some ⟨rb, 0, none⟩), .pointer (some ⟨fb, 0, none⟩), .slice a (linesOf T).length c, x5, .pointer (some ⟨hb, 0, none⟩), x7, .pointer (some ⟨gb, 0, none⟩), .int .i64 (n0 : Int), .int .i64 M, x11, x12, x13, x14, x15, x16, x17, x18, x19, .int .i64 0, x21, x22, x23, x24, x25, x26, x27, x28, x29, x30, x31, x32, x33, x34, x35, x36, x37, x38, x39, x40, x41, x42, x43, x44, x45, x46, x47, x48, x49, x50, x51, x52, x53, x54, x55, x56, x57, x58, x59, x60, x61, x62, x63, x64, x65, x66, x67, x68, x69, x70, x71, x72, x73, x74, x75, x76, x77, x78, x79, x80, x81, x82, x83, x84, x85, x86, x87, x88, x89, x90, x91, x92, x93, x94, x95, x96, x97, x98, x99, x100, x101, x102, x103, x104, x105, x106, x107, x108, x109, x110, x111, x112, x113, x114, x115, x116, x117, x118, x119, x120, x121, x122, x123, x124, x125, x126, x127, x128, x129, x130, x131, x132, x133, x134, x135, x136, x137, x138, x139, x140, x141, x142, x143, x144, x145, x146, x147, x148, x149, x150, x151, x152, x153, x154, x155, x156, x157, x158, x159, x160, x161, x162, x163, x164, x165, x166, x167, x168, x169, x170, x171, x172, x173, x174, x175, x176, x177, x178, x179, x180, x181, x182, x183, x184, x185, x186, x187, x188, x189, x190, x191, x192, x193, x194, x195, x196, x197, x198, x199, x200, x201, x202, x203, x204, x205, x206, x207, x208, x209, x210, x211, x212, x213, x214, x215, x216, x217, x218, x219, x220, x221, x222, x223, x224, x225, x226, x227, x228, x229, x230, x231, x232, x233, x234, x235, x236, x237, x238, x239, x240, x241, x242, x243, x244, x245, x246, x247, x248, x249, x250, x251, x252, x253, x254, x255, x256, x257, x258, x259, x260, x261, x262, x263, x264, x265, x266, x267, x268, x269, x270, x271, x272, x273, x274, x275, x276], []⟩ wc := by
  conv => arg 2; whnf
  generalize hlnd : (linesOf T).length = ln at *
  have HLND := hidden hlnd
  clear hlnd
  obtain ⟨i3, hi3, hz3, hs3, hb3⟩ := info_and
  have HI2 := hidden hi3
  have HZ2 := hidden hz3
  have HS2 := hidden hs3
  have HBY2 := hidden hb3
  clear hi3 hz3 hs3 hb3
  go_wp2_with fail
  go_loopw [9, 20] (fun at' i' w' => ∃ (k p : Nat) (ds : List AndD) (u : Value), k ≤ N ∧ at' = .int .i64 p ∧ i' = .int .i64 k ∧ Hid (p = n0 + k) ∧ ds.length = k ∧ Hid (∀ i d, ds[i]? = some d → AndLine T (n0 + i) (2 * (1 + (ni : Int) + (nl : Int) + (i : Int))) d) ∧ Hid (w'.cell? ⟨gb, 2, none⟩ = some u) ∧ Hid (w'.ownsRow wc.heap.size 48 2 u k (ds.flatMap AndD.cells)) ∧ Hid (wc.grownBy w' (some gb)) ∧ Hid (∀ j, w'.frozen? ⟨gb, j, none⟩ = false) ∧ Hid (∀ j, j ≠ 2 → w'.cell? ⟨gb, j, none⟩ = wc.cell? ⟨gb, j, none⟩)) (fun _ i' _ => N - (intOf i').toNat)
  case atStart => exact ⟨0, n0, [], _, Nat.zero_le _, rfl, rfl, rfl, rfl, fun i d hi => by simp at hi, hq, World.ownsRow_nil _ _ _ _, grown_refl _ _, hfr, fun _ _ => rfl⟩
  case round =>
    obtain ⟨k, p, ds, u, hk, rfl, rfl, HPK, hds, HP, HU, HO, HG, HF, HJ⟩ := hrel
    have c1 : wr.cell? ⟨hb, 3, none⟩ = some (.int .i64 (N : Int)) := (gcell HG.out hbl hhg).trans hH.out
    by_cases hlt : k < N
    · have hltI : (k : Int) < (N : Int) := by omega
      have hp : p ≤ 300000 := by have := HPK.out; omega
      have R1 := hidden (row_any T hT a c wr (HL.out.grown HG.out hLg) p 3 (by decide) false)
      rw [HLND.out] at R1
      have HPre : Hid (∀ j, j < k → (∃ d, AndLine T (n0 + j) (2 * (1 + (ni : Int) + (nl : Int) + (j : Int))) d)) := fun j hj => ⟨_, HP.out j _ (List.getElem?_eq_getElem (by omega : j < ds.length))⟩
      have e3 : IntKind.i64.wrap ((k : Int) + 1) = (k : Int) + 1 := wrapI _ (by omega) (by omega)
      have e4 : IntKind.i64.wrap ((p : Int) + 1) = (p : Int) + 1 := wrapI _ (by omega) (by omega)
      have e5 : IntKind.i64.wrap (1 + (ni : Int)) = 1 + (ni : Int) := wrapI _ (by omega) (by omega)
      have e6 : IntKind.i64.wrap (1 + (ni : Int) + (nl : Int)) = 1 + (ni : Int) + (nl : Int) := wrapI _ (by omega) (by omega)
      have e7 : IntKind.i64.wrap (1 + (ni : Int) + (nl : Int) + (k : Int)) = 1 + (ni : Int) + (nl : Int) + (k : Int) := wrapI _ (by omega) (by omega)
      have e8 : IntKind.i64.wrap (2 * (1 + (ni : Int) + (nl : Int) + (k : Int))) = 2 * (1 + (ni : Int) + (nl : Int) + (k : Int)) := wrapI _ (by omega) (by omega)
      have hm1 : k + 1 ≤ maxLen := by simp only [maxLen]; omega
      have hm2 : (k + 1) * 16 ≤ 140737488355328 := by omega
      have hsr := HG.out.size
      go_wp2_with fail
      go_at_call 25
      refine R1.out.mono ?_
      rintro e w1 ⟨v, ok, rfl, hb1, hcase⟩
      have HGA : Hid (wc.grownBy w1 (some gb)) := grown_trans HG.out (gbel hb1 _)
      have BX1 := hidden (BX0.out.grown HGA.out hrl hfl hrg hfg)
      have HBW1 : Hid (Below we.heap.size we w1) := HBW0.out.trans (below_grown HGA.out HBW0.out.size (fun x hx => by have := Option.some.inj hx; omega))
      have HO1 := hidden (own_below HO.out hb1)
      have hu1 : w1.cell? ⟨gb, 2, none⟩ = some u := (hb1.cell (p := ⟨gb, 2, none⟩) (by show gb < _; omega)).trans HU.out
      have HF1 : Hid (∀ j, w1.frozen? ⟨gb, j, none⟩ = false) := fun j => (hb1.frozen (p := ⟨gb, j, none⟩) (by show gb < _; omega)).trans (HF.out j)
      have HJ1 : Hid (∀ j, j ≠ 2 → w1.cell? ⟨gb, j, none⟩ = wc.cell? ⟨gb, j, none⟩) := fun j hj => (hb1.cell (p := ⟨gb, j, none⟩) (by show gb < _; omega)).trans (HJ.out j hj)
      have hs1 := hb1.size
      have h0 : w1.cell? ⟨hb, 0, none⟩ = some (.int .i64 (ni : Int)) := (gcell HGA.out hbl hhg).trans hH0.out
      have h1 : w1.cell? ⟨hb, 1, none⟩ = some (.int .i64 (nl : Int)) := (gcell HGA.out hbl hhg).trans hH1.out
      clear hb1 R1 c1
      rcases hcase with ⟨rfl, xs, hx1, hx2, hx3⟩ | ⟨rfl, hno⟩
      · obtain ⟨o0, x, y, rfl⟩ := row_three hx3
        obtain ⟨lb, lc, rfl, hlb, hlb2, hlc, hel⟩ := row_els hx2 (by simp)
        have d0 := hel 0 o0 rfl
        have d1 := hel 1 x rfl
        have d2 := hel 2 y rfl
        have HX1 : Hid (nums T (n0 + k) = some [o0, x, y]) := by rw [← HPK.out]; exact hx1
        simp only [List.length_cons, List.length_nil, Nat.zero_add, Nat.reduceAdd]
        clear hx1 hx2 hx3 hel
        by_cases ho : o0 = 2 * (1 + (ni : Int) + (nl : Int) + (k : Int))
        · have hob : (o0 != 2 * (1 + (ni : Int) + (nl : Int) + (k : Int))) = false := by simp [ho]
          have HO0 := hidden ho
          clear ho
          by_cases hx : x < o0
          · have hxb : ¬ o0 ≤ x := by omega
            by_cases hy : y < o0
            · have hyb : ¬ o0 ≤ y := by omega
              go_wp2_with fail
              go_quiet (fail)
              generalize hDW : World.drewN w1 _ = w2
              have HDB : Hid (Below w1.heap.size w1 w2) := by rw [← hDW]; exact Below.drewN (Below.refl _ _) _
              have l0 : w2.cell? ⟨lb, 0, none⟩ = some (.int .i64 o0) := by rw [← hDW]; exact d0
              have l1 : w2.cell? ⟨lb, 1, none⟩ = some (.int .i64 x) := by rw [← hDW]; exact d1
              have l2 : w2.cell? ⟨lb, 2, none⟩ = some (.int .i64 y) := by rw [← hDW]; exact d2
              have HGA2 : Hid (wc.grownBy w2 (some gb)) := grown_trans HGA.out (gbel HDB.out _)
              have BX := hidden (BX1.out.below HDB.out (by have := HGA.out.size; omega) (by have := HGA.out.size; omega))
              have HBW : Hid (Below we.heap.size we w2) := HBW1.out.trans (HDB.out.mono HBW1.out.size)
              have HO2 := hidden (own_below HO1.out HDB.out)
              have hu2 : w2.cell? ⟨gb, 2, none⟩ = some u := (HDB.out.cell (p := ⟨gb, 2, none⟩) (by have := HGA.out.size; show gb < _; omega)).trans hu1
              have HF2 : Hid (∀ j, w2.frozen? ⟨gb, j, none⟩ = false) := fun j => (HDB.out.frozen (p := ⟨gb, j, none⟩) (by have := HGA.out.size; show gb < _; omega)).trans (HF1.out j)
              have HJ2 : Hid (∀ j, j ≠ 2 → w2.cell? ⟨gb, j, none⟩ = wc.cell? ⟨gb, j, none⟩) := fun j hj => (HDB.out.cell (p := ⟨gb, j, none⟩) (by have := HGA.out.size; show gb < _; omega)).trans (HJ1.out j hj)
              have hs2 := HDB.out.size
              clear hDW d0 d1 d2 hu1
              clear h0 h1
              have HOK : Hid (AndLine T (n0 + k) (2 * (1 + (ni : Int) + (nl : Int) + (k : Int))) (⟨x, y⟩ : AndD)) := ⟨by rw [HX1.out, HO0.out], by rw [← HO0.out]; exact hx, by rw [← HO0.out]; exact hy⟩
              have far : ∀ x, x < wc.heap.size → some x ≠ u.ownBlock := fun x hx e => by have := (HO.out.lt x e.symm).1; omega
              have hul : some lb ≠ u.ownBlock := fun e => by have := (HO.out.lt lb e.symm).2; omega
              have hgl2 : gb < w2.heap.size := by have := HGA2.out.size; omega
              have hm3 : wc.heap.size ≤ ((w2.alloc (.cells #[.int .i64 x, .int .i64 y] 48)).drew).heap.size := by have := HGA2.out.size; simp; omega
              have KP : Hid (∀ w', w2.grownBy w' u.ownBlock → w'.cell? ⟨gb, 2, none⟩ = some u) := fun w' hg => (hg.cell_far ⟨gb, 2, none⟩ hgl2 (far gb hgbl)).trans hu2
              have KL : Hid ((fun w' => w'.cell? ⟨lb, 1, none⟩ = some (.int .i64 x) ∧ w'.cell? ⟨lb, 2, none⟩ = some (.int .i64 y)) w2.drew) := ⟨l1, l2⟩
              have KT : Hid (∀ w', w2.grownBy w' u.ownBlock → (fun w' => w'.cell? ⟨lb, 1, none⟩ = some (.int .i64 x) ∧ w'.cell? ⟨lb, 2, none⟩ = some (.int .i64 y)) w') := fun w' hg => ⟨(hg.cell_far ⟨lb, 1, none⟩ (by show lb < _; omega) hul).trans l1, (hg.cell_far ⟨lb, 2, none⟩ (by show lb < _; omega) hul).trans l2⟩
              have KSS : Hid (∀ (w' : World) (xv : Value), (fun w' => w'.cell? ⟨lb, 1, none⟩ = some (.int .i64 x) ∧ w'.cell? ⟨lb, 2, none⟩ = some (.int .i64 y)) w' → (fun w' => w'.cell? ⟨lb, 1, none⟩ = some (.int .i64 x) ∧ w'.cell? ⟨lb, 2, none⟩ = some (.int .i64 y)) (w'.setCell ⟨gb, 2, none⟩ xv)) := fun w' xv hh => ⟨(World.cell?_setCell_far w' ⟨gb, 2, none⟩ ⟨lb, 1, none⟩ xv (by show gb ≠ lb; omega)).trans hh.1, (World.cell?_setCell_far w' ⟨gb, 2, none⟩ ⟨lb, 2, none⟩ xv (by show gb ≠ lb; omega)).trans hh.2⟩
              have KF : Hid (∀ w', w2.grownBy w' u.ownBlock → ∀ j, w'.frozen? ⟨gb, j, none⟩ = false) := fun w' hg j => (hg.frozen_far ⟨gb, j, none⟩ hgl2 (far gb hgbl)).trans (HF2.out j)
              have huA : (w2.alloc (.cells #[.int .i64 x, .int .i64 y] 48)).cell? ⟨gb, 2, none⟩ = some u := KP.out _ (World.grownBy_alloc _ _ _)
              go_upto_region 39 with fail
              refine wp_region_noPanic ?_
              refine wp_region_held_drew (S := (fun w' => w'.cell? ⟨lb, 1, none⟩ = some (.int .i64 x) ∧ w'.cell? ⟨lb, 2, none⟩ = some (.int .i64 y))) (by kernel_rfl) (by (first | assumption | exact KL.out | exact KT.out _ (grown_refl _ _) | exact KT.out _ (grown_ad _ _ _) | exact KT.out _ (by assumption) | exact KSS.out _ _ (by assumption))) (fun hHeld => ?_)
              refine wpAnyH_take (i := 0) (oi := _) (v := ?_) rfl (by kernel_rfl) (by kernel_rfl) (by kernel_rfl) (fun _ _ _ h => h) (Or.inl ⟨by rfl, ?_⟩) (by assumption) ?_
              rotate_left
              · (intro w0 hSw; (try dsimp only at hSw); (try simp only [List.getElem_toArray, List.getElem_cons_zero]); go_simp; try (with_reducible rfl))
              try simp only [Act.put, List.getElem_toArray, List.getElem_cons_zero, List.setIfInBounds_toArray, List.set_cons_zero, List.set_cons_succ]
              refine wpAnyH_take (i := 2) (oi := _) (v := ?_) rfl (by kernel_rfl) (by kernel_rfl) (by kernel_rfl) (fun _ _ _ h => h) (Or.inl ⟨by rfl, ?_⟩) (by assumption) ?_
              rotate_left
              · (intro w0 hSw; (try dsimp only at hSw); (try simp only [List.getElem_toArray, List.getElem_cons_zero, List.getElem_cons_succ]); go_simp; try (with_reducible rfl))
              try simp only [Act.put, List.getElem_toArray, List.getElem_cons_zero, List.getElem_cons_succ, List.setIfInBounds_toArray, List.set_cons_zero, List.set_cons_succ]
              refine wpAnyH_take (i := 3) (oi := _) (v := ?_) rfl (by kernel_rfl) (by kernel_rfl) (by kernel_rfl) (fun _ _ _ h => h) (Or.inl ⟨by rfl, ?_⟩) (by assumption) ?_
              rotate_left
              · (intro w0 hSw; (try dsimp only at hSw); (try simp only [List.getElem_toArray, List.getElem_cons_zero, List.getElem_cons_succ]); go_simp; try (with_reducible rfl))
              try simp only [Act.put, List.getElem_toArray, List.getElem_cons_zero, List.getElem_cons_succ, List.setIfInBounds_toArray, List.set_cons_zero, List.set_cons_succ]
              refine wpAnyH_take (i := 4) (oi := _) (v := ?_) rfl (by kernel_rfl) (by kernel_rfl) (by kernel_rfl) (fun _ _ _ h => h) (Or.inl ⟨by rfl, ?_⟩) (by assumption) ?_
              rotate_left
              · (intro w0 hSw; (try dsimp only at hSw); (try simp only [List.getElem_toArray, List.getElem_cons_zero, List.getElem_cons_succ]); go_simp; try (with_reducible rfl))
              try simp only [Act.put, List.getElem_toArray, List.getElem_cons_zero, List.getElem_cons_succ, List.setIfInBounds_toArray, List.set_cons_zero, List.set_cons_succ]
              refine wpAnyH_take (i := 5) (oi := _) (v := ?_) rfl (by kernel_rfl) (by kernel_rfl) (by kernel_rfl) (fun _ _ _ h => h) (Or.inl ⟨by rfl, ?_⟩) (by assumption) ?_
              rotate_left
              · (intro w0 hSw; (try dsimp only at hSw); (try simp only [List.getElem_toArray, List.getElem_cons_zero, List.getElem_cons_succ]); go_simp; try (with_reducible rfl))
              try simp only [Act.put, List.getElem_toArray, List.getElem_cons_zero, List.getElem_cons_succ, List.setIfInBounds_toArray, List.set_cons_zero, List.set_cons_succ]
              refine wpAnyH_take (i := 6) (oi := _) (v := ?_) rfl (by kernel_rfl) (by kernel_rfl) (by kernel_rfl) (fun _ _ _ h => h) (Or.inl ⟨by rfl, ?_⟩) (by assumption) ?_
              rotate_left
              · (intro w0 hSw; (try dsimp only at hSw); (try simp only [List.getElem_toArray, List.getElem_cons_zero, List.getElem_cons_succ]); go_simp; try (with_reducible rfl))
              try simp only [Act.put, List.getElem_toArray, List.getElem_cons_zero, List.getElem_cons_succ, List.setIfInBounds_toArray, List.set_cons_zero, List.set_cons_succ]
              refine wpAnyH_take (i := 7) (oi := _) (v := ?_) rfl (by kernel_rfl) (by kernel_rfl) (by kernel_rfl) (fun _ _ _ h => h) (Or.inl ⟨by rfl, ?_⟩) (by assumption) ?_
              rotate_left
              · (intro w0 hSw; (try dsimp only at hSw); (try simp only [List.getElem_toArray, List.getElem_cons_zero, List.getElem_cons_succ]); go_simp; try (with_reducible rfl))
              try simp only [Act.put, List.getElem_toArray, List.getElem_cons_zero, List.getElem_cons_succ, List.setIfInBounds_toArray, List.set_cons_zero, List.set_cons_succ]
              refine wpAnyH_take (i := 8) (oi := _) (v := ?_) rfl (by kernel_rfl) (by kernel_rfl) (by kernel_rfl) (fun _ _ _ h => h) (Or.inl ⟨by rfl, ?_⟩) (by assumption) ?_
              rotate_left
              · (intro w0 hSw; (try dsimp only at hSw); (try simp only [List.getElem_toArray, List.getElem_cons_zero, List.getElem_cons_succ]); go_simp; try (with_reducible rfl))
              try simp only [Act.put, List.getElem_toArray, List.getElem_cons_zero, List.getElem_cons_succ, List.setIfInBounds_toArray, List.set_cons_zero, List.set_cons_succ]
              refine wpAnyH_ready (rs := [1, 9]) (by kernel_rfl) (by simp) ?_
              refine AllReadyH.cons (o := _) rfl (fun K hK => ?_) ?_
              · (try simp only [List.getElem_toArray, List.getElem_cons_zero, List.getElem_cons_succ])
                go_simp
                refine hK.out _ _ (by (first | assumption | exact KL.out | exact KT.out _ (grown_refl _ _) | exact KT.out _ (grown_ad _ _ _) | exact KT.out _ (by assumption) | exact KSS.out _ _ (by assumption))) (fun hHeld1 => ?_)
                clear hK K
                (try simp only [Act.put]); (try simp only [List.setIfInBounds_toArray]); (try simp only [List.set_cons_zero, List.set_cons_succ])
                refine wpAnyH_ready (rs := [9]) (by kernel_rfl) (by simp) ?_
                refine AllReadyH.cons (o := _) rfl (fun K hK => ?_) AllReadyH.nil
                (try simp only [List.getElem_toArray, List.getElem_cons_zero, List.getElem_cons_succ])
                go_simp
                refine hK.out _ _ (by (first | assumption | exact KL.out | exact KT.out _ (grown_refl _ _) | exact KT.out _ (grown_ad _ _ _) | exact KT.out _ (by assumption) | exact KSS.out _ _ (by assumption))) (fun hHeld9 => ?_)
                clear hK K
                (try simp only [Act.put]); (try simp only [List.setIfInBounds_toArray]); (try simp only [List.set_cons_zero, List.set_cons_succ])
                refine wpAnyH_ready (rs := [10]) (by kernel_rfl) (by simp) ?_
                refine AllReadyH.cons (o := _) rfl (fun K hK => ?_) AllReadyH.nil
                refine step_append_lies _ rfl (.tmp 229) (.tmp 237) 25 rfl wc.heap.size 48 i3 _ 2 16 Tryd.underlying25 HI2.out HZ2.out HS2.out HBY2.out rfl (by decide) u k _ rfl (HO2.out.alloc _).drew ⟨w2.heap.size, 0, none⟩ 1 1 [.int .i64 x, .int .i64 y] rfl rfl (World.news_of_block (heap_new _ _)) (by simp [Value.oneCell']) (by decide) hm1 hm2 hm3 _ rfl ?_
                intro g cap w5 hown hgrow hat hlt5
                have HG5 := grown_trans (grown_ad _ _ _) hgrow
                have hc5 := KP.out w5 HG5
                have hf5 := KF.out w5 HG5
                refine hK.out _ _ (by (first | assumption | exact KL.out | exact KT.out _ (grown_refl _ _) | exact KT.out _ (grown_ad _ _ _) | exact KT.out _ (by assumption) | exact KSS.out _ _ (by assumption))) (fun hHeldp => ?_)
                clear hK K
                (try simp only [Act.put]); (try simp only [List.setIfInBounds_toArray]); (try simp only [List.set_cons_zero, List.set_cons_succ])
                refine wpAnyH_take (i := 11) (oi := _) (v := ?_) rfl (by kernel_rfl) (by kernel_rfl) (by kernel_rfl) (fun _ _ _ h => h) (Or.inl ⟨by rfl, ?_⟩) (by assumption) ?_
                rotate_left
                · (intro w0 hSw; (try dsimp only at hSw); (try simp only [List.getElem_toArray, List.getElem_cons_zero, List.getElem_cons_succ]); go_simp; try (with_reducible rfl))
                try simp only [Act.put, List.getElem_toArray, List.getElem_cons_zero, List.getElem_cons_succ, List.setIfInBounds_toArray, List.set_cons_zero, List.set_cons_succ]
                refine wpAnyH_ready (rs := [12]) (by kernel_rfl) (by simp) ?_
                refine AllReadyH.cons (o := _) rfl (fun K hK => ?_) AllReadyH.nil
                (try simp only [List.getElem_toArray, List.getElem_cons_zero, List.getElem_cons_succ])
                go_simp
                refine hK.out _ _ (by (first | assumption | exact KL.out | exact KT.out _ (grown_refl _ _) | exact KT.out _ (grown_ad _ _ _) | exact KT.out _ (by assumption) | exact KSS.out _ _ (by assumption))) (fun hHeld12 => ?_)
                clear hK K
                (try simp only [Act.put]); (try simp only [List.setIfInBounds_toArray]); (try simp only [List.set_cons_zero, List.set_cons_succ])
                refine wpAnyH_done (by kernel_rfl) ?_ _
                refine NoPanic.normal ?_
                generalize hW6 : World.setCell w5 _ _ = w6
                have HU6 : Hid (w6.cell? ⟨gb, 2, none⟩ = some (.slice (some ⟨g, 0, none⟩) (k + 1) cap)) := by rw [← hW6]; exact World.cell?_setCell_same (h := hc5) ..
                have HF6 : Hid (∀ j, w6.frozen? ⟨gb, j, none⟩ = false) := fun j => by rw [← hW6]; exact (World.frozen?_setCell _ _ _ _).trans (hf5 j)
                have hgs : w5.grownBy w6 (some gb) := by rw [← hW6]; exact gset _ _ _ _
                have hgh : g ≠ gb := fun e => by
                  rcases hat with h | h
                  · have := (HO.out.lt g h).1; omega
                  · simp at h; omega
                have HO6 : Hid (w6.ownsRow wc.heap.size 48 2 (.slice (some ⟨g, 0, none⟩) (k + 1) cap) (k + 1) ((ds ++ [(⟨x, y⟩ : AndD)]).flatMap AndD.cells)) := by
                  have := hown.kept hgs (.inr (fun e => hgh (by cases e; rfl)))
                  rw [List.flatMap_append]; exact this
                have HG6 : Hid (wc.grownBy w6 (some gb)) := grown_thru HGA2.out HG5 hgs (fun x hx => (HO.out.lt x hx).1)
                have HJ6 : Hid (∀ j, j ≠ 2 → w6.cell? ⟨gb, j, none⟩ = wc.cell? ⟨gb, j, none⟩) := fun j hj => by
                  rw [← hW6]
                  refine (World.cell?_setCell_other (h := fun e => hj (by cases e; rfl)) ..).trans ?_
                  exact (HG5.cell_far ⟨gb, j, none⟩ (by have := HGA2.out.size; show gb < _; omega) (fun e => by have := (HO.out.lt gb e.symm).1; omega)).trans (HJ2.out j hj)
                have HNX := hidden (line_next (P := fun i d => AndLine T (n0 + i) (2 * (1 + (ni : Int) + (nl : Int) + (i : Int))) d) (d := (⟨x, y⟩ : AndD)) hds HP.out HOK.out)
                clear hW6 hgs hgh hown hgrow hat hlt5 HG5 hc5 hf5 HO HG HJ HU HF KP KT KF KSS KL hu2 HP HOK BX HBW HGA HGA2 HO1 HO2 HF1 HF2 HJ1 HJ2 BX1 HBW1
                go_wp2
                go_roundw
                case measure => simp [intOf]; omega
                case rel => exact ⟨k + 1, p + 1, ds ++ [(⟨x, y⟩ : AndD)], _, by omega, by simp, by simp, (by have := HPK.out; show _ = _; omega), HNX.out.1, HNX.out.2, HU6.out, HO6.out, HG6.out, HF6.out, HJ6.out⟩
              refine AllReadyH.cons (o := _) rfl (fun K hK => ?_) AllReadyH.nil
              (try simp only [List.getElem_toArray, List.getElem_cons_zero, List.getElem_cons_succ])
              go_simp
              refine hK.out _ _ (by (first | assumption | exact KL.out | exact KT.out _ (grown_refl _ _) | exact KT.out _ (grown_ad _ _ _) | exact KT.out _ (by assumption) | exact KSS.out _ _ (by assumption))) (fun hHeld9 => ?_)
              clear hK K
              (try simp only [Act.put]); (try simp only [List.setIfInBounds_toArray]); (try simp only [List.set_cons_zero, List.set_cons_succ])
              refine wpAnyH_ready (rs := [1]) (by kernel_rfl) (by simp) ?_
              refine AllReadyH.cons (o := _) rfl (fun K hK => ?_) AllReadyH.nil
              (try simp only [List.getElem_toArray, List.getElem_cons_zero, List.getElem_cons_succ])
              go_simp
              refine hK.out _ _ (by (first | assumption | exact KL.out | exact KT.out _ (grown_refl _ _) | exact KT.out _ (grown_ad _ _ _) | exact KT.out _ (by assumption) | exact KSS.out _ _ (by assumption))) (fun hHeld1 => ?_)
              clear hK K
              (try simp only [Act.put]); (try simp only [List.setIfInBounds_toArray]); (try simp only [List.set_cons_zero, List.set_cons_succ])
              refine wpAnyH_ready (rs := [10]) (by kernel_rfl) (by simp) ?_
              refine AllReadyH.cons (o := _) rfl (fun K hK => ?_) AllReadyH.nil
              refine step_append_lies _ rfl (.tmp 229) (.tmp 237) 25 rfl wc.heap.size 48 i3 _ 2 16 Tryd.underlying25 HI2.out HZ2.out HS2.out HBY2.out rfl (by decide) u k _ rfl (HO2.out.alloc _).drew ⟨w2.heap.size, 0, none⟩ 1 1 [.int .i64 x, .int .i64 y] rfl rfl (World.news_of_block (heap_new _ _)) (by simp [Value.oneCell']) (by decide) hm1 hm2 hm3 _ rfl ?_
              intro g cap w5 hown hgrow hat hlt5
              have HG5 := grown_trans (grown_ad _ _ _) hgrow
              have hc5 := KP.out w5 HG5
              have hf5 := KF.out w5 HG5
              refine hK.out _ _ (by (first | assumption | exact KL.out | exact KT.out _ (grown_refl _ _) | exact KT.out _ (grown_ad _ _ _) | exact KT.out _ (by assumption) | exact KSS.out _ _ (by assumption))) (fun hHeldp => ?_)
              clear hK K
              (try simp only [Act.put]); (try simp only [List.setIfInBounds_toArray]); (try simp only [List.set_cons_zero, List.set_cons_succ])
              refine wpAnyH_take (i := 11) (oi := _) (v := ?_) rfl (by kernel_rfl) (by kernel_rfl) (by kernel_rfl) (fun _ _ _ h => h) (Or.inl ⟨by rfl, ?_⟩) (by assumption) ?_
              rotate_left
              · (intro w0 hSw; (try dsimp only at hSw); (try simp only [List.getElem_toArray, List.getElem_cons_zero, List.getElem_cons_succ]); go_simp; try (with_reducible rfl))
              try simp only [Act.put, List.getElem_toArray, List.getElem_cons_zero, List.getElem_cons_succ, List.setIfInBounds_toArray, List.set_cons_zero, List.set_cons_succ]
              refine wpAnyH_ready (rs := [12]) (by kernel_rfl) (by simp) ?_
              refine AllReadyH.cons (o := _) rfl (fun K hK => ?_) AllReadyH.nil
              (try simp only [List.getElem_toArray, List.getElem_cons_zero, List.getElem_cons_succ])
              go_simp
              refine hK.out _ _ (by (first | assumption | exact KL.out | exact KT.out _ (grown_refl _ _) | exact KT.out _ (grown_ad _ _ _) | exact KT.out _ (by assumption) | exact KSS.out _ _ (by assumption))) (fun hHeld12 => ?_)
              clear hK K
              (try simp only [Act.put]); (try simp only [List.setIfInBounds_toArray]); (try simp only [List.set_cons_zero, List.set_cons_succ])
              refine wpAnyH_done (by kernel_rfl) ?_ _
              refine NoPanic.normal ?_
              generalize hW6 : World.setCell w5 _ _ = w6
              have HU6 : Hid (w6.cell? ⟨gb, 2, none⟩ = some (.slice (some ⟨g, 0, none⟩) (k + 1) cap)) := by rw [← hW6]; exact World.cell?_setCell_same (h := hc5) ..
              have HF6 : Hid (∀ j, w6.frozen? ⟨gb, j, none⟩ = false) := fun j => by rw [← hW6]; exact (World.frozen?_setCell _ _ _ _).trans (hf5 j)
              have hgs : w5.grownBy w6 (some gb) := by rw [← hW6]; exact gset _ _ _ _
              have hgh : g ≠ gb := fun e => by
                rcases hat with h | h
                · have := (HO.out.lt g h).1; omega
                · simp at h; omega
              have HO6 : Hid (w6.ownsRow wc.heap.size 48 2 (.slice (some ⟨g, 0, none⟩) (k + 1) cap) (k + 1) ((ds ++ [(⟨x, y⟩ : AndD)]).flatMap AndD.cells)) := by
                have := hown.kept hgs (.inr (fun e => hgh (by cases e; rfl)))
                rw [List.flatMap_append]; exact this
              have HG6 : Hid (wc.grownBy w6 (some gb)) := grown_thru HGA2.out HG5 hgs (fun x hx => (HO.out.lt x hx).1)
              have HJ6 : Hid (∀ j, j ≠ 2 → w6.cell? ⟨gb, j, none⟩ = wc.cell? ⟨gb, j, none⟩) := fun j hj => by
                rw [← hW6]
                refine (World.cell?_setCell_other (h := fun e => hj (by cases e; rfl)) ..).trans ?_
                exact (HG5.cell_far ⟨gb, j, none⟩ (by have := HGA2.out.size; show gb < _; omega) (fun e => by have := (HO.out.lt gb e.symm).1; omega)).trans (HJ2.out j hj)
              have HNX := hidden (line_next (P := fun i d => AndLine T (n0 + i) (2 * (1 + (ni : Int) + (nl : Int) + (i : Int))) d) (d := (⟨x, y⟩ : AndD)) hds HP.out HOK.out)
              clear hW6 hgs hgh hown hgrow hat hlt5 HG5 hc5 hf5 HO HG HJ HU HF KP KT KF KSS KL hu2 HP HOK BX HBW HGA HGA2 HO1 HO2 HF1 HF2 HJ1 HJ2 BX1 HBW1
              go_wp2
              go_roundw
              case measure => simp [intOf]; omega
              case rel => exact ⟨k + 1, p + 1, ds ++ [(⟨x, y⟩ : AndD)], _, by omega, by simp, by simp, (by have := HPK.out; show _ = _; omega), HNX.out.1, HNX.out.2, HU6.out, HO6.out, HG6.out, HF6.out, HJ6.out⟩
            · have hyb : o0 ≤ y := by omega
              go_wp2_with fail
              go_quiet (fail)
              generalize hDW : World.drewN w1 _ = w2
              have HDB : Hid (Below w1.heap.size w1 w2) := by rw [← hDW]; exact Below.drewN (Below.refl _ _) _
              have l0 : w2.cell? ⟨lb, 0, none⟩ = some (.int .i64 o0) := by rw [← hDW]; exact d0
              have l1 : w2.cell? ⟨lb, 1, none⟩ = some (.int .i64 x) := by rw [← hDW]; exact d1
              have l2 : w2.cell? ⟨lb, 2, none⟩ = some (.int .i64 y) := by rw [← hDW]; exact d2
              have HGA2 : Hid (wc.grownBy w2 (some gb)) := grown_trans HGA.out (gbel HDB.out _)
              have BX := hidden (BX1.out.below HDB.out (by have := HGA.out.size; omega) (by have := HGA.out.size; omega))
              have HBW : Hid (Below we.heap.size we w2) := HBW1.out.trans (HDB.out.mono HBW1.out.size)
              have HO2 := hidden (own_below HO1.out HDB.out)
              have hu2 : w2.cell? ⟨gb, 2, none⟩ = some u := (HDB.out.cell (p := ⟨gb, 2, none⟩) (by have := HGA.out.size; show gb < _; omega)).trans hu1
              have HF2 : Hid (∀ j, w2.frozen? ⟨gb, j, none⟩ = false) := fun j => (HDB.out.frozen (p := ⟨gb, j, none⟩) (by have := HGA.out.size; show gb < _; omega)).trans (HF1.out j)
              have HJ2 : Hid (∀ j, j ≠ 2 → w2.cell? ⟨gb, j, none⟩ = wc.cell? ⟨gb, j, none⟩) := fun j hj => (HDB.out.cell (p := ⟨gb, j, none⟩) (by have := HGA.out.size; show gb < _; omega)).trans (HJ1.out j hj)
              have hs2 := HDB.out.size
              clear hDW d0 d1 d2 hu1
              have HNOT : Hid (¬ (∃ d, AndLine T (n0 + k) (2 * (1 + (ni : Int) + (nl : Int) + (k : Int))) d)) := and_not HX1.out (by have := HO0.out; omega)
              have B5 := hidden (badLine_any (p : Int) (by omega) w2)
              have c0 : w2.cell? ⟨rb, 0, none⟩ = some (.int .i64 0) := heap_cell BX.out.r
              clear c0
              go_wp2_with fail
              go_at_call 23
              refine B5.out.mono ?_
              rintro e w8 ⟨rfl, hb8⟩
              have HBX8 := hidden (BX.out.below hb8 (by have := HGA2.out.size; omega) (by have := HGA2.out.size; omega))
              have HBW8 : Hid (Below we.heap.size we w8) := HBW.out.trans (hb8.mono HBW.out.size)
              have r0 : w8.cell? ⟨rb, 0, none⟩ = some (.int .i64 0) := heap_cell HBX8.out.r
              have r1 : w8.cell? ⟨rb, 1, none⟩ = some (.slice none 0 0) := heap_cell HBX8.out.r
              have r2 : w8.cell? ⟨rb, 2, none⟩ = some (.slice none 0 0) := heap_cell HBX8.out.r
              have r3 : w8.cell? ⟨rb, 3, none⟩ = some (.slice none 0 0) := heap_cell HBX8.out.r
              have q0 : w8.cell? ⟨fb, 0, none⟩ = some (.int .i64 0) := heap_cell HBX8.out.f
              have q1 : w8.cell? ⟨fb, 1, none⟩ = some (.int .i64 0) := heap_cell HBX8.out.f
              have fr : ∀ j, w8.frozen? ⟨rb, j, none⟩ = false := fun j => heap_fz HBX8.out.r j
              have ff : ∀ j, w8.frozen? ⟨fb, j, none⟩ = false := fun j => heap_fz HBX8.out.f j
              have HTOLD := hidden (told_of ((p : Int) + 1) HBX8.out hne HBW8.out hrw hfw)
              clear hb8 B5
              go_wp2
              exact HQ.out k _ _ hlt HPre.out HNOT.out rfl rfl rfl (by rw [show ((n0 + k + 1 : Nat) : Int) = (p : Int) + 1 by have := HPK.out; omega]; exact HTOLD.out)
          · have hxb : o0 ≤ x := by omega
            go_wp2_with fail
            go_quiet (fail)
            generalize hDW : World.drewN w1 _ = w2
            have HDB : Hid (Below w1.heap.size w1 w2) := by rw [← hDW]; exact Below.drewN (Below.refl _ _) _
            have l0 : w2.cell? ⟨lb, 0, none⟩ = some (.int .i64 o0) := by rw [← hDW]; exact d0
            have l1 : w2.cell? ⟨lb, 1, none⟩ = some (.int .i64 x) := by rw [← hDW]; exact d1
            have l2 : w2.cell? ⟨lb, 2, none⟩ = some (.int .i64 y) := by rw [← hDW]; exact d2
            have HGA2 : Hid (wc.grownBy w2 (some gb)) := grown_trans HGA.out (gbel HDB.out _)
            have BX := hidden (BX1.out.below HDB.out (by have := HGA.out.size; omega) (by have := HGA.out.size; omega))
            have HBW : Hid (Below we.heap.size we w2) := HBW1.out.trans (HDB.out.mono HBW1.out.size)
            have HO2 := hidden (own_below HO1.out HDB.out)
            have hu2 : w2.cell? ⟨gb, 2, none⟩ = some u := (HDB.out.cell (p := ⟨gb, 2, none⟩) (by have := HGA.out.size; show gb < _; omega)).trans hu1
            have HF2 : Hid (∀ j, w2.frozen? ⟨gb, j, none⟩ = false) := fun j => (HDB.out.frozen (p := ⟨gb, j, none⟩) (by have := HGA.out.size; show gb < _; omega)).trans (HF1.out j)
            have HJ2 : Hid (∀ j, j ≠ 2 → w2.cell? ⟨gb, j, none⟩ = wc.cell? ⟨gb, j, none⟩) := fun j hj => (HDB.out.cell (p := ⟨gb, j, none⟩) (by have := HGA.out.size; show gb < _; omega)).trans (HJ1.out j hj)
            have hs2 := HDB.out.size
            clear hDW d0 d1 d2 hu1
            have HNOT : Hid (¬ (∃ d, AndLine T (n0 + k) (2 * (1 + (ni : Int) + (nl : Int) + (k : Int))) d)) := and_not HX1.out (by have := HO0.out; omega)
            have B5 := hidden (badLine_any (p : Int) (by omega) w2)
            have c0 : w2.cell? ⟨rb, 0, none⟩ = some (.int .i64 0) := heap_cell BX.out.r
            clear c0
            go_wp2_with fail
            go_at_call 23
            refine B5.out.mono ?_
            rintro e w8 ⟨rfl, hb8⟩
            have HBX8 := hidden (BX.out.below hb8 (by have := HGA2.out.size; omega) (by have := HGA2.out.size; omega))
            have HBW8 : Hid (Below we.heap.size we w8) := HBW.out.trans (hb8.mono HBW.out.size)
            have r0 : w8.cell? ⟨rb, 0, none⟩ = some (.int .i64 0) := heap_cell HBX8.out.r
            have r1 : w8.cell? ⟨rb, 1, none⟩ = some (.slice none 0 0) := heap_cell HBX8.out.r
            have r2 : w8.cell? ⟨rb, 2, none⟩ = some (.slice none 0 0) := heap_cell HBX8.out.r
            have r3 : w8.cell? ⟨rb, 3, none⟩ = some (.slice none 0 0) := heap_cell HBX8.out.r
            have q0 : w8.cell? ⟨fb, 0, none⟩ = some (.int .i64 0) := heap_cell HBX8.out.f
            have q1 : w8.cell? ⟨fb, 1, none⟩ = some (.int .i64 0) := heap_cell HBX8.out.f
            have fr : ∀ j, w8.frozen? ⟨rb, j, none⟩ = false := fun j => heap_fz HBX8.out.r j
            have ff : ∀ j, w8.frozen? ⟨fb, j, none⟩ = false := fun j => heap_fz HBX8.out.f j
            have HTOLD := hidden (told_of ((p : Int) + 1) HBX8.out hne HBW8.out hrw hfw)
            clear hb8 B5
            go_wp2
            exact HQ.out k _ _ hlt HPre.out HNOT.out rfl rfl rfl (by rw [show ((n0 + k + 1 : Nat) : Int) = (p : Int) + 1 by have := HPK.out; omega]; exact HTOLD.out)
        · have hob : (o0 != 2 * (1 + (ni : Int) + (nl : Int) + (k : Int))) = true := by simp [ho]
          go_wp2_with fail
          go_quiet (fail)
          generalize hDW : World.drewN w1 _ = w2
          have HDB : Hid (Below w1.heap.size w1 w2) := by rw [← hDW]; exact Below.drewN (Below.refl _ _) _
          have l0 : w2.cell? ⟨lb, 0, none⟩ = some (.int .i64 o0) := by rw [← hDW]; exact d0
          have l1 : w2.cell? ⟨lb, 1, none⟩ = some (.int .i64 x) := by rw [← hDW]; exact d1
          have l2 : w2.cell? ⟨lb, 2, none⟩ = some (.int .i64 y) := by rw [← hDW]; exact d2
          have HGA2 : Hid (wc.grownBy w2 (some gb)) := grown_trans HGA.out (gbel HDB.out _)
          have BX := hidden (BX1.out.below HDB.out (by have := HGA.out.size; omega) (by have := HGA.out.size; omega))
          have HBW : Hid (Below we.heap.size we w2) := HBW1.out.trans (HDB.out.mono HBW1.out.size)
          have HO2 := hidden (own_below HO1.out HDB.out)
          have hu2 : w2.cell? ⟨gb, 2, none⟩ = some u := (HDB.out.cell (p := ⟨gb, 2, none⟩) (by have := HGA.out.size; show gb < _; omega)).trans hu1
          have HF2 : Hid (∀ j, w2.frozen? ⟨gb, j, none⟩ = false) := fun j => (HDB.out.frozen (p := ⟨gb, j, none⟩) (by have := HGA.out.size; show gb < _; omega)).trans (HF1.out j)
          have HJ2 : Hid (∀ j, j ≠ 2 → w2.cell? ⟨gb, j, none⟩ = wc.cell? ⟨gb, j, none⟩) := fun j hj => (HDB.out.cell (p := ⟨gb, j, none⟩) (by have := HGA.out.size; show gb < _; omega)).trans (HJ1.out j hj)
          have hs2 := HDB.out.size
          clear hDW d0 d1 d2 hu1
          have HNOT : Hid (¬ (∃ d, AndLine T (n0 + k) (2 * (1 + (ni : Int) + (nl : Int) + (k : Int))) d)) := and_not HX1.out (by omega)
          have B5 := hidden (badLine_any (p : Int) (by omega) w2)
          have c0 : w2.cell? ⟨rb, 0, none⟩ = some (.int .i64 0) := heap_cell BX.out.r
          clear c0
          go_wp2_with fail
          go_at_call 23
          refine B5.out.mono ?_
          rintro e w8 ⟨rfl, hb8⟩
          have HBX8 := hidden (BX.out.below hb8 (by have := HGA2.out.size; omega) (by have := HGA2.out.size; omega))
          have HBW8 : Hid (Below we.heap.size we w8) := HBW.out.trans (hb8.mono HBW.out.size)
          have r0 : w8.cell? ⟨rb, 0, none⟩ = some (.int .i64 0) := heap_cell HBX8.out.r
          have r1 : w8.cell? ⟨rb, 1, none⟩ = some (.slice none 0 0) := heap_cell HBX8.out.r
          have r2 : w8.cell? ⟨rb, 2, none⟩ = some (.slice none 0 0) := heap_cell HBX8.out.r
          have r3 : w8.cell? ⟨rb, 3, none⟩ = some (.slice none 0 0) := heap_cell HBX8.out.r
          have q0 : w8.cell? ⟨fb, 0, none⟩ = some (.int .i64 0) := heap_cell HBX8.out.f
          have q1 : w8.cell? ⟨fb, 1, none⟩ = some (.int .i64 0) := heap_cell HBX8.out.f
          have fr : ∀ j, w8.frozen? ⟨rb, j, none⟩ = false := fun j => heap_fz HBX8.out.r j
          have ff : ∀ j, w8.frozen? ⟨fb, j, none⟩ = false := fun j => heap_fz HBX8.out.f j
          have HTOLD := hidden (told_of ((p : Int) + 1) HBX8.out hne HBW8.out hrw hfw)
          clear hb8 B5
          go_wp2
          exact HQ.out k _ _ hlt HPre.out HNOT.out rfl rfl rfl (by rw [show ((n0 + k + 1 : Nat) : Int) = (p : Int) + 1 by have := HPK.out; omega]; exact HTOLD.out)
      · have HNO := hidden hno
        clear hno
        go_wp2_with fail
        go_quiet (fail)
        generalize hDW : World.drewN w1 _ = w2
        have HDB : Hid (Below w1.heap.size w1 w2) := by rw [← hDW]; exact Below.drewN (Below.refl _ _) _
        have HGA2 : Hid (wc.grownBy w2 (some gb)) := grown_trans HGA.out (gbel HDB.out _)
        have BX := hidden (BX1.out.below HDB.out (by have := HGA.out.size; omega) (by have := HGA.out.size; omega))
        have HBW : Hid (Below we.heap.size we w2) := HBW1.out.trans (HDB.out.mono HBW1.out.size)
        have HO2 := hidden (own_below HO1.out HDB.out)
        have hu2 : w2.cell? ⟨gb, 2, none⟩ = some u := (HDB.out.cell (p := ⟨gb, 2, none⟩) (by have := HGA.out.size; show gb < _; omega)).trans hu1
        have HF2 : Hid (∀ j, w2.frozen? ⟨gb, j, none⟩ = false) := fun j => (HDB.out.frozen (p := ⟨gb, j, none⟩) (by have := HGA.out.size; show gb < _; omega)).trans (HF1.out j)
        have HJ2 : Hid (∀ j, j ≠ 2 → w2.cell? ⟨gb, j, none⟩ = wc.cell? ⟨gb, j, none⟩) := fun j hj => (HDB.out.cell (p := ⟨gb, j, none⟩) (by have := HGA.out.size; show gb < _; omega)).trans (HJ1.out j hj)
        have hs2 := HDB.out.size
        clear hDW hu1
        have HNOT : Hid (¬ (∃ d, AndLine T (n0 + k) (2 * (1 + (ni : Int) + (nl : Int) + (k : Int))) d)) := fun ⟨d, h1, _⟩ => HNO.out _ (by rw [HPK.out]; exact h1) (Or.inl rfl)
        have B5 := hidden (badLine_any (p : Int) (by omega) w2)
        have c0 : w2.cell? ⟨rb, 0, none⟩ = some (.int .i64 0) := heap_cell BX.out.r
        clear c0
        go_wp2_with fail
        go_at_call 23
        refine B5.out.mono ?_
        rintro e w8 ⟨rfl, hb8⟩
        have HBX8 := hidden (BX.out.below hb8 (by have := HGA2.out.size; omega) (by have := HGA2.out.size; omega))
        have HBW8 : Hid (Below we.heap.size we w8) := HBW.out.trans (hb8.mono HBW.out.size)
        have r0 : w8.cell? ⟨rb, 0, none⟩ = some (.int .i64 0) := heap_cell HBX8.out.r
        have r1 : w8.cell? ⟨rb, 1, none⟩ = some (.slice none 0 0) := heap_cell HBX8.out.r
        have r2 : w8.cell? ⟨rb, 2, none⟩ = some (.slice none 0 0) := heap_cell HBX8.out.r
        have r3 : w8.cell? ⟨rb, 3, none⟩ = some (.slice none 0 0) := heap_cell HBX8.out.r
        have q0 : w8.cell? ⟨fb, 0, none⟩ = some (.int .i64 0) := heap_cell HBX8.out.f
        have q1 : w8.cell? ⟨fb, 1, none⟩ = some (.int .i64 0) := heap_cell HBX8.out.f
        have fr : ∀ j, w8.frozen? ⟨rb, j, none⟩ = false := fun j => heap_fz HBX8.out.r j
        have ff : ∀ j, w8.frozen? ⟨fb, j, none⟩ = false := fun j => heap_fz HBX8.out.f j
        have HTOLD := hidden (told_of ((p : Int) + 1) HBX8.out hne HBW8.out hrw hfw)
        clear hb8 B5
        go_wp2
        exact HQ.out k _ _ hlt HPre.out HNOT.out rfl rfl rfl (by rw [show ((n0 + k + 1 : Nat) : Int) = (p : Int) + 1 by have := HPK.out; omega]; exact HTOLD.out)
    · have hkN : k = N := by omega
      subst hkN
      have hge : ¬ ((k : Int) < (k : Int)) := by omega
      have hpk := HPK.out
      subst hpk
      go_wp2
      exact HK.out _ _ _ _ _ _ _ _ _ _ _ _ _ _ _ _ _ _ _ _ _ _ _ _ _ _ _ _ _ _ _ _ _ _ _ _ _ _ _ _ _ _ _ _ _ _ _ _ _ _ _ _ _ _ _ _ _ _ _ _ _ _ _ _ _ _ _ _ ⟨ds, u, hds, HP.out, HU.out, HO.out, HG.out, HF.out, HJ.out⟩

end Go.Proofs.YtdiahnommkhkiaaDoor
