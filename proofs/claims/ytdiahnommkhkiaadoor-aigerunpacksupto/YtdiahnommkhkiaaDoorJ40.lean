import Derived.Test.YtdiahnommkhkiaaDoorJ38
namespace Go.Proofs.YtdiahnommkhkiaaDoor
open Go.RowKit

/-- a line behind the head -/
def LineB (T : List UInt8) (nl : Nat) (M : Int) (k : Nat) : Prop := if k < nl then ∃ d, LatB T (offL T k) M d else ∃ y, OutB T (offL T k) M y
theorem lineB_lat {T : List UInt8} {nl k : Nat} {M : Int} (h : k < nl) : LineB T nl M k ↔ ∃ d, LatB T (offL T k) M d := by unfold LineB; rw [if_pos h]
theorem lineB_out {T : List UInt8} {nl k : Nat} {M : Int} (h : nl ≤ k) : LineB T nl M k ↔ ∃ y, OutB T (offL T k) M y := by unfold LineB; rw [if_neg (by omega)]
theorem TwoL.lines {wc w : World} {gb B nl k : Nat} {T : List UInt8} {M : Int} {ls : List LatD} {os : List Int} {u1 u3 : Value} (h : TwoL wc w gb B nl k T M ls os u1 u3) : ∀ j, j < k → LineB T nl M j := fun j hj => by
  rcases Nat.lt_or_ge j nl with h' | h'
  · exact (lineB_lat h').2 ⟨_, h.p1 j _ (List.getElem?_eq_getElem (by rw [h.l1]; omega : j < ls.length))⟩
  · obtain ⟨d, hd⟩ := getElem_lt (by rw [h.l3]; omega : j - nl < os.length)
    have := h.p3 (j - nl) d hd
    rw [show nl + (j - nl) = j by omega] at this
    exact (lineB_out h').2 ⟨d, this⟩
theorem outB_not {T : List UInt8} {n : Nat} {m y : Int} (h : numsB T n = some [y]) (hy : ¬ y < m) : ¬ ∃ d, OutB T n m d := by
  rintro ⟨d, h1, h2⟩
  rw [h] at h1
  have : y = d := by simpa using h1
  omega
theorem latB_no {T : List UInt8} {n : Nat} {m : Int} (h : ∀ xs, numsB T n = some xs → ¬ RowLen xs 1 true) : ¬ ∃ d, LatB T n m d := by
  rintro ⟨d, h1, h2 | ⟨f, h2, h3, _⟩⟩
  · exact h _ h2.1 (Or.inl rfl)
  · exact h _ h2 (Or.inr ⟨rfl, rfl, f, rfl, by omega⟩)
theorem rowB_two {xs : List Int} (h : RowLen xs 1 true) : (∃ x, xs = [x]) ∨ ∃ x f, xs = [x, f] ∧ f < 2 := by
  rcases h with h | ⟨_, h, f, h1, h2⟩
  · match xs, h with
    | [x], _ => exact .inl ⟨x, rfl⟩
  · match xs, h with
    | [x, z], _ => exact .inr ⟨x, z, rfl, by simp at h1; omega⟩
set_option maxRecDepth 100000 in
set_option maxHeartbeats 8000000 in
theorem auLines (we wc : World) (rb fb hb gb nl no : Nat) (T : List UInt8) (M : Int) (a : Option Addr) (c : Nat) (hT : T.length ≤ 1048576) (HBT : Hid (BtAt we a c T)) (BX0 : Hid (Boxes wc rb fb)) (hne : rb ≠ fb) (HBW0 : Hid (Below we.heap.size we wc)) (hrw : we.heap.size ≤ rb) (hfw : we.heap.size ≤ fb) (hrl : rb < wc.heap.size) (hfl : fb < wc.heap.size) (hbl : hb < wc.heap.size) (hnl : nl ≤ 60000) (hno : no ≤ 60000) (hgw : we.heap.size ≤ gb) (hgbl : gb < wc.heap.size) (hhg : hb ≠ gb) (hrg : rb ≠ gb) (hfg : fb ≠ gb) (hq1 : wc.cell? ⟨gb, 1, none⟩ = some (.slice none 0 0)) (hq3 : wc.cell? ⟨gb, 3, none⟩ = some (.slice none 0 0)) (hfr : ∀ j, wc.frozen? ⟨gb, j, none⟩ = false) (hH1 : Hid (wc.cell? ⟨hb, 1, none⟩ = some (.int .i64 (nl : Int)))) (hH2 : Hid (wc.cell? ⟨hb, 2, none⟩ = some (.int .i64 (no : Int)))) (hP0 : offL T 0 ≤ T.length) (K' : Act → World → Prop) (Q0 : Exit → Act → World → Prop) (x1 x4 x6 x8 x12 x13 x14 x15 x16 x17 x18 x19 x20 x21 x22 x23 x24 x25 x26 x27 x28 x29 x30 x31 x32 x33 x34 x35 x36 x37 x38 x39 x40 x41 x42 x43 x44 x45 x46 x47 x48 x49 x50 x51 x52 x53 x54 x55 x56 x57 x58 x59 x60 x61 x62 x63 x64 x65 x66 x67 x68 x69 x70 x71 x72 x73 x74 x75 x76 x77 x78 x79 x80 x81 x82 x83 x84 x85 x86 x87 x88 x89 x90 x91 x92 x93 x94 x95 x96 x97 x98 x99 x100 x101 x102 x103 x104 x105 x106 x107 x108 x109 x110 x111 x112 x113 x114 x115 x116 x117 x118 x119 x120 x121 x122 x123 x124 x125 x126 x127 x128 x129 x130 x131 x132 x133 x134 x135 x136 x137 x138 x139 x140 x141 x142 x143 x144 x145 x146 x147 x148 x149 x150 x151 x152 x153 x154 x155 x156 x157 x158 x159 x160 x161 x162 x163 x164 x165 x166 x167 x168 x169 x170 x171 x172 x173 x174 x175 x176 x177 x178 x179 x180 x181 x182 x183 x184 x185 x186 x187 x188 x189 x190 x191 x192 x193 x194 x195 x196 x197 x198 x199 x200 x201 x202 x203 x204 x205 x206 x207 x208 x209 x210 x211 x212 x213 x214 x215 x216 x217 x218 x219 x220 x221 x222 x223 x224 x225 x226 x227 x228 x229 x230 x231 x232 x233 x234 x235 x236 x237 x238 x239 x240 x241 x242 x243 x244 x245 x246 x247 : Value)
    (HK : Hid (∀ (w' : World) (s11 s12 s13 s14 s15 s16 s62 s63 s64 s65 s66 s67 s68 s69 s70 s71 s72 s73 s74 s75 s76 s77 s78 s79 s80 s81 s82 s83 s84 s85 s86 s87 s88 s89 s90 s91 s92 s93 s94 s95 s96 s97 s98 s99 s100 s101 s102 s103 s104 s105 s106 s107 s108 s109 s110 s111 s112 s113 s114 s115 s116 s117 s118 s119 s120 s121 s122 s123 s124 s125 s126 s127 s128 s129 s130 s131 s132 s133 s134 s135 : Value), (∃ (ls : List LatD) (os : List Int) (u1 u3 : Value) (B : Nat), offL T (nl + no) ≤ T.length ∧ TwoL wc w' gb B nl (nl + no) T M ls os u1 u3) → K' ⟨#[.slice a T.length c, x1, .pointer (some ⟨rb, 0, none⟩), .pointer (some ⟨fb, 0, none⟩), x4, .int .i64 ((offL T (nl + no) : Nat) : Int), x6, .pointer (some ⟨hb, 0, none⟩), x8, .pointer (some ⟨gb, 0, none⟩), .int .i64 M, s11, s12, s13, s14, s15, s16, x17, x18, x19, x20, x21, x22, x23, x24, x25, x26, x27, x28, x29, x30, x31, x32, x33, x34, x35, x36, x37, x38, x39, x40, x41, x42, x43, x44, x45, x46, x47, x48, x49, x50, x51, x52, x53, x54, x55, x56, x57, x58, x59, x60, x61, s62, s63, s64, s65, s66, s67, s68, s69, s70, s71, s72, s73, s74, s75, s76, s77, s78, s79, s80, s81, s82, s83, s84, s85, s86, s87, s88, s89, s90, s91, s92, s93, s94, s95, s96, s97, s98, s99, s100, s101, s102, s103, s104, s105, s106, s107, s108, s109, s110, s111, s112, s113, s114, s115, s116, s117, s118, s119, s120, s121, s122, s123, s124, s125, s126, s127, s128, s129, s130, s131, s132, s133, s134, s135, x136, x137, x138, x139, x140, x141, x142, x143, x144, x145, x146, x147, x148, x149, x150, x151, x152, x153, x154, x155, x156, x157, x158, x159, x160, x161, x162, x163, x164, x165, x166, x167, x168, x169, x170, x171, x172, x173, x174, x175, x176, x177, x178, x179, x180, x181, x182, x183, x184, x185, x186, x187, x188, x189, x190, x191, x192, x193, x194, x195, x196, x197, x198, x199, x200, x201, x202, x203, x204, x205, x206, x207, x208, x209, x210, x211, x212, x213, x214, x215, x216, x217, x218, x219, x220, x221, x222, x223, x224, x225, x226, x227, x228, x229, x230, x231, x232, x233, x234, x235, x236, x237, x238, x239, x240, x241, x242, x243, x244, x245, x246, x247], []⟩ w'))
    (HQ : Hid (∀ (k : Nat) (a : Act) (w' : World), k < nl + no → (∀ j, j < k → LineB T nl M j) → (¬ LineB T nl M k) → a.defers = [] → a.tmps.getD 2 undef = .pointer (some ⟨rb, 0, none⟩) → a.tmps.getD 3 undef = .pointer (some ⟨fb, 0, none⟩) → Told we w' rb fb ((offL T k : Nat) : Int) → Q0 .ret a w')) :
    Code.wp Tryd.prog ((Tryd.f18.body.bind (blockAt 0)).getD .skip) (Exit.then K' Q0) ⟨#[.slice a T.length c, x1, .pointer (some ⟨rb, 0, none⟩), .pointer (some ⟨fb, 0, none⟩), x4, .int .i64 ((offL T 0 : Nat) : Int), x6, .pointer (some ⟨hb, 0, none⟩), x8, .pointer (some ⟨gb, 0, none⟩), .int .i64 M, .int .i64 0, x12, x13, x14, x15, x16, x17, x18, x19, x20, x21, x22, x23, x24, x25, x26, x27, x28, x29, x30, x31, x32, x33, x34, x35, x36, x37, x38, x39, x40, x41, x42, x43, x44, x45, x46, x47, x48, x49, x50, x51, x52, x53, x54, x55, x56, x57, x58, x59, x60, x61, x62, x63, x64, x65, x66, x67, x68, x69, x70, x71, x72, x73, x74, x75, x76, x77, x78, x79, x80, x81, x82, x83, x84, x85, x86, x87, x88, x89, x90, x91, x92, x93, x94, x95, x96, x97, x98, x99, x100, x101, x102, x103, x104, x105, x106, x107, x108, x109, x110, x111, x112, x113, x114, x115, x116, x117, x118, x119, x120, x121, x122, x123, x124, x125, x126, x127, x128, x129, x130, x131, x132, x133, x134, x135, x136, x137, x138, x139, x140, x141, x142, x143, x144, x145, x146, x147, x148, x149, x150, x151, x152, x153, x154, x155, x156, x157, x158, x159, x160, x161, x162, x163, x164, x165, x166, x167, x168, x169, x170, x171, x172, x173, x174, x175, x176, x177, x178, x179, x180, x181, x182, x183, x184, x185, x186, x187, x188, x189, x190, x191, x192, x193, x194, x195, x196, x197, x198, x199, x200, x201, x202, x203, x204, x205, x206, x207, x208, x209, x210, x211, x212, x213, x214, x215, x216, x217, x218, x219, x220, x221, x222, x223, x224, x225, x226, x227, x228, x229, x230, x231, x232, x233, x234, x235, x236, x237, x238, x239, x240, x241, x242, x243, x244, x245, x246, x247], []⟩ wc := by
  conv => arg 2; whnf
  obtain ⟨i2, hi2, hz2, hs2, hb2⟩ := info_lat
  have HI2 := hidden hi2
  have HZ2 := hidden hz2
  have HS2 := hidden hs2
  have HBY2 := hidden hb2
  clear hi2 hz2 hs2 hb2
  obtain ⟨i1, hi1, hz1, hs1, hb1⟩ := info_int
  have HI1 := hidden hi1
  have HZ1 := hidden hz1
  have HS1 := hidden hs1
  have HBY1 := hidden hb1
  clear hi1 hz1 hs1 hb1
  generalize htl0 : T.length = tl at *
  have HTL := hidden htl0
  clear htl0
  go_wp2_with fail
  go_loopw [5, 11] (fun p' i' w' => ∃ (k p : Nat) (ls : List LatD) (os : List Int) (u1 u3 : Value) (B : Nat), k ≤ nl + no ∧ p' = .int .i64 p ∧ i' = .int .i64 k ∧ Hid (p = offL T k) ∧ Hid (p ≤ tl) ∧ Hid (TwoL wc w' gb B nl k T M ls os u1 u3)) (fun _ i' _ => nl + no - (intOf i').toNat)
  case atStart => exact ⟨0, offL T 0, [], [], _, _, wc.heap.size, Nat.zero_le _, rfl, rfl, rfl, hP0, ⟨hq1, hq3, World.ownsRow_nil _ _ _ _, World.ownsRow_nil _ _ _ _, Nat.le_refl _, Nat.le_refl _, fun x hx => (by cases hx), grown_refl _ _, hfr, fun _ _ _ => rfl, by simp, by simp, fun i d hd => by simp at hd, fun i d hd => by simp at hd, fun _ => rfl⟩⟩
  case round =>
    obtain ⟨k, p, ls, os, u1, u3, B, hk, rfl, rfl, HPK, HPT, TW⟩ := hrel
    have c1 : wr.cell? ⟨hb, 1, none⟩ = some (.int .i64 (nl : Int)) := (gcell TW.out.gr hbl hhg).trans hH1.out
    have c2 : wr.cell? ⟨hb, 2, none⟩ = some (.int .i64 (no : Int)) := (gcell TW.out.gr hbl hhg).trans hH2.out
    have e1 : IntKind.i64.wrap ((nl : Int) + (no : Int)) = (nl : Int) + (no : Int) := wrapI _ (by omega) (by omega)
    by_cases hlt : k < nl + no
    · have hltI : (k : Int) < (nl : Int) + (no : Int) := by omega
      have HBWr : Hid (Below we.heap.size we wr) := HBW0.out.trans (below_grown TW.out.gr HBW0.out.size (fun x hx => by have := Option.some.inj hx; omega))
      have LN := hidden (line_doc T (by rw [HTL.out]; exact hT) a c p (by rw [HTL.out]; exact HPT.out) wr (HBT.out.to HBWr.out))
      rw [HTL.out] at LN
      have HPre : Hid (∀ j, j < k → LineB T nl M j) := TW.out.lines
      have HPLC : Hid (((offL T k : Nat) : Int) = (p : Int)) := by show _ = _; rw [← HPK.out]
      have e3 : IntKind.i64.wrap ((k : Int) + 1) = (k : Int) + 1 := wrapI _ (by omega) (by omega)
      have hll : ls.length ≤ 60000 := by have := TW.out.l1; omega
      have hlo : os.length ≤ 120000 := by have := TW.out.l3; omega
      by_cases hkl : k < nl
      · have hm1 : ls.length + 1 ≤ maxLen := by simp only [maxLen]; omega
        have hm2 : (ls.length + 1) * 16 ≤ 140737488355328 := by omega
        have hklI : (k : Int) < (nl : Int) := by omega
        go_wp2_with fail
        go_at_call 30
        refine LN.out.mono ?_
        rintro e w1 ⟨hcl, hb1⟩
        have TW1 := hidden (TW.out.below hb1 hgbl)
        have hs1 := TW1.out.gr.size
        clear hb1 LN c1 c2 TW
        rcases hcl with ⟨t, hl1, rfl⟩ | ⟨hl1, rfl⟩
        · have HLI := hidden hl1
          have HT10 : Hid (10 ∉ t) := (lineAt_inv hl1).1
          have htl := lineAt_len hl1
          rw [HTL.out] at htl
          have HPN : Hid (p + t.length + 1 = offL T (k + 1)) := by show _ = _; rw [offL_next, ← HPK.out, nextB_some hl1]
          have HPL : Hid (p + t.length + 1 ≤ tl) := htl
          clear hl1
          have HT : Hid (numsB T p = lineNums t) := numsB_of HLI.out
          have R1 := hidden (rowB_any t HT10.out (by omega) w1.heap.size (w1.alloc (.cells #[.string (bs t)] 9)) (by simp) (cell_new rfl) true)
          have h1c : (w1.alloc (.cells #[.string (bs t)] 9)).cell? ⟨hb, 1, none⟩ = some (.int .i64 (nl : Int)) := (World.cell?_alloc_lt _ _ _ (by have := TW1.out.gr.size; show hb < _; omega)).trans ((gcell TW1.out.gr hbl hhg).trans hH1.out)
          generalize bs t = st at *
          go_wp2_with fail
          go_at_call 25
          refine R1.out.mono ?_
          rintro e w3 ⟨v, ok, rfl, hb3, hcase⟩
          have HB13 : Hid (Below w1.heap.size w1 w3) := ((Below.refl _ _).alloc (Nat.le_refl _) _).trans (hb3.mono (by simp))
          have TW3 := hidden (TW1.out.below HB13.out hgbl)
          have HGX : Hid (wc.grownBy w3 (some gb)) := TW3.out.gr
          have HO0 := hidden (TW1.out.o1)
          have h1d : w3.cell? ⟨hb, 1, none⟩ = some (.int .i64 (nl : Int)) := (gcell TW3.out.gr hbl hhg).trans hH1.out
          have hs13 := HB13.out.size
          have hs3a : w1.heap.size + 1 ≤ w3.heap.size := by have := hb3.size; simpa using this
          clear R1 h1c
          rcases hcase with ⟨rfl, xs, hx1, hx2, hx3⟩ | ⟨rfl, hno⟩
          · rcases rowB_two hx3 with ⟨y, rfl⟩ | ⟨y, f, rfl, hf2⟩
            · clear hx3
              obtain ⟨lb, lc, rfl, hlb, hlb2, hlc, hel⟩ := row_els hx2 (by simp)
              have d0 := hel 0 y rfl
              skip
              have HX1 : Hid (numsB T p = some [y]) := by show _ = _; rw [HT.out]; exact hx1
              simp only [List.length_cons, List.length_nil, Nat.zero_add]
              clear hx1 hx2 hel
              by_cases hy : y < M
              · have hyb : ¬ M ≤ y := by omega
                have l0 := d0
                skip
                have hlb3 : w1.heap.size ≤ lb := by have : (w1.alloc (.cells #[.string st] 9)).heap.size ≤ lb := hlb; simp at this; omega
                have HOK : Hid (LatB T (offL T k) M (⟨y, false⟩ : LatD)) := by rw [← HPK.out]; exact ⟨hy, Or.inl ⟨HX1.out, rfl⟩⟩
                have HO2 := hidden TW3.out.o1
                have hu2 := TW3.out.c1
                have HF2 : Hid (∀ j, w3.frozen? ⟨gb, j, none⟩ = false) := TW3.out.fz
                have hgl2 : gb < w3.heap.size := by have := TW3.out.gr.size; omega
                have far : some gb ≠ u1.ownBlock := fun e => by have := (HO2.out.lt gb e.symm).1; have := TW3.out.hB; omega
                have hul : some lb ≠ u1.ownBlock := fun e => by have := (HO0.out.lt lb e.symm).2; omega
                have KL : Hid ((fun w' => w'.cell? ⟨lb, 0, none⟩ = some (.int .i64 y)) w3.drew) := l0
                have KT : Hid (∀ w', w3.grownBy w' u1.ownBlock → (fun w' => w'.cell? ⟨lb, 0, none⟩ = some (.int .i64 y)) w') := fun w' hg => (hg.cell_far ⟨lb, 0, none⟩ (by show lb < _; omega) hul).trans l0
                have KSS : Hid (∀ (w' : World) (xv : Value), (fun w' => w'.cell? ⟨lb, 0, none⟩ = some (.int .i64 y)) w' → (fun w' => w'.cell? ⟨lb, 0, none⟩ = some (.int .i64 y)) (w'.setCell ⟨gb, 1, none⟩ xv)) := fun w' xv hh => (World.cell?_setCell_far w' ⟨gb, 1, none⟩ ⟨lb, 0, none⟩ xv (by show gb ≠ lb; omega)).trans hh
                have hm3 : wc.heap.size ≤ ((w3.alloc (.cells #[.int .i64 y, .bool false] 47)).drew).heap.size := by have := TW3.out.gr.size; have := TW3.out.hB2; simp; omega
                have KP : Hid (∀ w', w3.grownBy w' u1.ownBlock → w'.cell? ⟨gb, 1, none⟩ = some u1) := fun w' hg => (hg.cell_far ⟨gb, 1, none⟩ hgl2 far).trans hu2
                have KF : Hid (∀ w', w3.grownBy w' u1.ownBlock → ∀ j, w'.frozen? ⟨gb, j, none⟩ = false) := fun w' hg j => (hg.frozen_far ⟨gb, j, none⟩ hgl2 far).trans (HF2.out j)
                have huA : (w3.alloc (.cells #[.int .i64 y, .bool false] 47)).cell? ⟨gb, 1, none⟩ = some u1 := KP.out _ (World.grownBy_alloc _ _ _)
                go_upto_region 15 with fail
                refine wp_region_noPanic ?_
                refine wp_region_held_drew (S := (fun w' => w'.cell? ⟨lb, 0, none⟩ = some (.int .i64 y))) (by kernel_rfl) (by (first | assumption | exact KL.out | exact KT.out _ (grown_refl _ _) | exact KT.out _ (grown_ad _ _ _) | exact KT.out _ (by assumption) | exact KSS.out _ _ (by assumption))) (fun hHeld => ?_)
                refine wpAnyH_take (i := 0) (oi := _) (v := ?_) rfl (by kernel_rfl) (by kernel_rfl) (by kernel_rfl) (fun _ _ _ h => h) (Or.inl ⟨by rfl, ?_⟩) (by assumption) ?_
                rotate_left
                · (intro w0 hSw; (try dsimp only at hSw); (try simp only [List.getElem_toArray, List.getElem_cons_zero]); go_simp; try (with_reducible rfl))
                try simp only [Act.put, List.getElem_toArray, List.getElem_cons_zero, List.setIfInBounds_toArray, List.set_cons_zero, List.set_cons_succ]
                refine wpAnyH_take (i := 2) (oi := _) (v := ?_) rfl (by kernel_rfl) (by kernel_rfl) (by kernel_rfl) (fun _ _ _ h => h) (Or.inl ⟨by rfl, ?_⟩) (by assumption) ?_
                rotate_left
                · (intro w0 hSw; (try dsimp only at hSw); (try simp only [List.getElem_toArray, List.getElem_cons_zero, List.getElem_cons_succ]); go_simp; try (with_reducible rfl))
                try simp only [Act.put, List.getElem_toArray, List.getElem_cons_zero, List.getElem_cons_succ, List.setIfInBounds_toArray, List.set_cons_zero, List.set_cons_succ]
                refine wpAnyH_take (i := 3) (oi := _) (v := ?_) rfl (by kernel_rfl) (by kernel_rfl) (by kernel_rfl) (fun _ _ _ h => h) (Or.inl ⟨by rfl, ?_⟩) (by assumption) ?_
                rotate_left
                · (intro w0 hSw; (try dsimp only at hSw); (try simp only [List.getElem_toArray, List.getElem_cons_zero, List.getElem_cons_succ]); go_simp; try (with_reducible rfl))
                try simp only [Act.put, List.getElem_toArray, List.getElem_cons_zero, List.getElem_cons_succ, List.setIfInBounds_toArray, List.set_cons_zero, List.set_cons_succ]
                refine wpAnyH_take (i := 4) (oi := _) (v := ?_) rfl (by kernel_rfl) (by kernel_rfl) (by kernel_rfl) (fun _ _ _ h => h) (Or.inl ⟨by rfl, ?_⟩) (by assumption) ?_
                rotate_left
                · (intro w0 hSw; (try dsimp only at hSw); (try simp only [List.getElem_toArray, List.getElem_cons_zero, List.getElem_cons_succ]); go_simp; try (with_reducible rfl))
                try simp only [Act.put, List.getElem_toArray, List.getElem_cons_zero, List.getElem_cons_succ, List.setIfInBounds_toArray, List.set_cons_zero, List.set_cons_succ]
                refine wpAnyH_take (i := 5) (oi := _) (v := ?_) rfl (by kernel_rfl) (by kernel_rfl) (by kernel_rfl) (fun _ _ _ h => h) (Or.inl ⟨by rfl, ?_⟩) (by assumption) ?_
                rotate_left
                · (intro w0 hSw; (try dsimp only at hSw); (try simp only [List.getElem_toArray, List.getElem_cons_zero, List.getElem_cons_succ]); go_simp; try (with_reducible rfl))
                try simp only [Act.put, List.getElem_toArray, List.getElem_cons_zero, List.getElem_cons_succ, List.setIfInBounds_toArray, List.set_cons_zero, List.set_cons_succ]
                refine wpAnyH_take (i := 6) (oi := _) (v := ?_) rfl (by kernel_rfl) (by kernel_rfl) (by kernel_rfl) (fun _ _ _ h => h) (Or.inl ⟨by rfl, ?_⟩) (by assumption) ?_
                rotate_left
                · (intro w0 hSw; (try dsimp only at hSw); (try simp only [List.getElem_toArray, List.getElem_cons_zero, List.getElem_cons_succ]); go_simp; try (with_reducible rfl))
                try simp only [Act.put, List.getElem_toArray, List.getElem_cons_zero, List.getElem_cons_succ, List.setIfInBounds_toArray, List.set_cons_zero, List.set_cons_succ]
                refine wpAnyH_take (i := 7) (oi := _) (v := ?_) rfl (by kernel_rfl) (by kernel_rfl) (by kernel_rfl) (fun _ _ _ h => h) (Or.inl ⟨by rfl, ?_⟩) (by assumption) ?_
                rotate_left
                · (intro w0 hSw; (try dsimp only at hSw); (try simp only [List.getElem_toArray, List.getElem_cons_zero, List.getElem_cons_succ]); go_simp; try (with_reducible rfl))
                try simp only [Act.put, List.getElem_toArray, List.getElem_cons_zero, List.getElem_cons_succ, List.setIfInBounds_toArray, List.set_cons_zero, List.set_cons_succ]
                refine wpAnyH_take (i := 8) (oi := _) (v := ?_) rfl (by kernel_rfl) (by kernel_rfl) (by kernel_rfl) (fun _ _ _ h => h) (Or.inl ⟨by rfl, ?_⟩) (by assumption) ?_
                rotate_left
                · (intro w0 hSw; (try dsimp only at hSw); (try simp only [List.getElem_toArray, List.getElem_cons_zero, List.getElem_cons_succ]); go_simp; try (with_reducible rfl))
                try simp only [Act.put, List.getElem_toArray, List.getElem_cons_zero, List.getElem_cons_succ, List.setIfInBounds_toArray, List.set_cons_zero, List.set_cons_succ]
                refine wpAnyH_take (i := 9) (oi := _) (v := undef) rfl (by kernel_rfl) (by kernel_rfl) (by kernel_rfl) (fun _ _ _ h => h) (Or.inr ⟨by rfl, rfl⟩) (by assumption) ?_
                try simp only [Act.put, List.getElem_toArray, List.getElem_cons_zero, List.getElem_cons_succ, List.setIfInBounds_toArray, List.set_cons_zero, List.set_cons_succ]
                refine wpAnyH_take (i := 10) (oi := _) (v := undef) rfl (by kernel_rfl) (by kernel_rfl) (by kernel_rfl) (fun _ _ _ h => h) (Or.inr ⟨by rfl, rfl⟩) (by assumption) ?_
                try simp only [Act.put, List.getElem_toArray, List.getElem_cons_zero, List.getElem_cons_succ, List.setIfInBounds_toArray, List.set_cons_zero, List.set_cons_succ]
                refine wpAnyH_take (i := 11) (oi := _) (v := undef) rfl (by kernel_rfl) (by kernel_rfl) (by kernel_rfl) (fun _ _ _ h => h) (Or.inr ⟨by rfl, rfl⟩) (by assumption) ?_
                try simp only [Act.put, List.getElem_toArray, List.getElem_cons_zero, List.getElem_cons_succ, List.setIfInBounds_toArray, List.set_cons_zero, List.set_cons_succ]
                refine wpAnyH_take (i := 12) (oi := _) (v := undef) rfl (by kernel_rfl) (by kernel_rfl) (by kernel_rfl) (fun _ _ _ h => h) (Or.inr ⟨by rfl, rfl⟩) (by assumption) ?_
                try simp only [Act.put, List.getElem_toArray, List.getElem_cons_zero, List.getElem_cons_succ, List.setIfInBounds_toArray, List.set_cons_zero, List.set_cons_succ]
                refine wpAnyH_take (i := 13) (oi := _) (v := ?_) rfl (by kernel_rfl) (by kernel_rfl) (by kernel_rfl) (fun _ _ _ h => h) (Or.inl ⟨by rfl, ?_⟩) (by assumption) ?_
                rotate_left
                · (intro w0 hSw; (try dsimp only at hSw); (try simp only [List.getElem_toArray, List.getElem_cons_zero, List.getElem_cons_succ]); go_simp; try (with_reducible rfl))
                try simp only [Act.put, List.getElem_toArray, List.getElem_cons_zero, List.getElem_cons_succ, List.setIfInBounds_toArray, List.set_cons_zero, List.set_cons_succ]
                refine wpAnyH_take (i := 14) (oi := _) (v := ?_) rfl (by kernel_rfl) (by kernel_rfl) (by kernel_rfl) (fun _ _ _ h => h) (Or.inl ⟨by rfl, ?_⟩) (by assumption) ?_
                rotate_left
                · (intro w0 hSw; (try dsimp only at hSw); (try simp only [List.getElem_toArray, List.getElem_cons_zero, List.getElem_cons_succ]); go_simp; try (with_reducible rfl))
                try simp only [Act.put, List.getElem_toArray, List.getElem_cons_zero, List.getElem_cons_succ, List.setIfInBounds_toArray, List.set_cons_zero, List.set_cons_succ]
                refine wpAnyH_ready (rs := [1, 15]) (by kernel_rfl) (by simp) ?_
                refine AllReadyH.cons (o := _) rfl (fun K hK => ?_) ?_
                · (try simp only [List.getElem_toArray, List.getElem_cons_zero, List.getElem_cons_succ])
                  go_simp
                  refine hK.out _ _ (by (first | assumption | exact KL.out | exact KT.out _ (grown_refl _ _) | exact KT.out _ (grown_ad _ _ _) | exact KT.out _ (by assumption) | exact KSS.out _ _ (by assumption))) (fun hHeld1 => ?_)
                  clear hK K
                  (try simp only [Act.put]); (try simp only [List.setIfInBounds_toArray]); (try simp only [List.set_cons_zero, List.set_cons_succ])
                  refine wpAnyH_ready (rs := [15]) (by kernel_rfl) (by simp) ?_
                  refine AllReadyH.cons (o := _) rfl (fun K hK => ?_) AllReadyH.nil
                  (try simp only [List.getElem_toArray, List.getElem_cons_zero, List.getElem_cons_succ])
                  go_simp
                  refine hK.out _ _ (by (first | assumption | exact KL.out | exact KT.out _ (grown_refl _ _) | exact KT.out _ (grown_ad _ _ _) | exact KT.out _ (by assumption) | exact KSS.out _ _ (by assumption))) (fun hHeld15 => ?_)
                  clear hK K
                  (try simp only [Act.put]); (try simp only [List.setIfInBounds_toArray]); (try simp only [List.set_cons_zero, List.set_cons_succ])
                  refine wpAnyH_ready (rs := [16]) (by kernel_rfl) (by simp) ?_
                  refine AllReadyH.cons (o := _) rfl (fun K hK => ?_) AllReadyH.nil
                  refine step_append_lies _ rfl (.tmp 110) (.tmp 124) 24 rfl wc.heap.size 47 i2 _ 2 16 Tryd.underlying24 HI2.out HZ2.out HS2.out HBY2.out rfl (by decide) u1 ls.length _ rfl (HO2.out.alloc _).drew ⟨w3.heap.size, 0, none⟩ 1 1 [.int .i64 y, .bool false] rfl rfl (World.news_of_block (heap_new _ _)) (by simp [Value.oneCell']) (by decide) hm1 hm2 hm3 _ rfl ?_
                  intro g cap w5 hown hgrow hat hlt5
                  have HG5 := grown_trans (grown_ad _ _ _) hgrow
                  have hc5 := KP.out w5 HG5
                  have hf5 := KF.out w5 HG5
                  refine hK.out _ _ (by (first | assumption | exact KL.out | exact KT.out _ (grown_refl _ _) | exact KT.out _ (grown_ad _ _ _) | exact KT.out _ (by assumption) | exact KSS.out _ _ (by assumption))) (fun hHeldp => ?_)
                  clear hK K
                  (try simp only [Act.put]); (try simp only [List.setIfInBounds_toArray]); (try simp only [List.set_cons_zero, List.set_cons_succ])
                  refine wpAnyH_take (i := 17) (oi := _) (v := ?_) rfl (by kernel_rfl) (by kernel_rfl) (by kernel_rfl) (fun _ _ _ h => h) (Or.inl ⟨by rfl, ?_⟩) (by assumption) ?_
                  rotate_left
                  · (intro w0 hSw; (try dsimp only at hSw); (try simp only [List.getElem_toArray, List.getElem_cons_zero, List.getElem_cons_succ]); go_simp; try (with_reducible rfl))
                  try simp only [Act.put, List.getElem_toArray, List.getElem_cons_zero, List.getElem_cons_succ, List.setIfInBounds_toArray, List.set_cons_zero, List.set_cons_succ]
                  refine wpAnyH_ready (rs := [18]) (by kernel_rfl) (by simp) ?_
                  refine AllReadyH.cons (o := _) rfl (fun K hK => ?_) AllReadyH.nil
                  (try simp only [List.getElem_toArray, List.getElem_cons_zero, List.getElem_cons_succ])
                  go_simp
                  refine hK.out _ _ (by (first | assumption | exact KL.out | exact KT.out _ (grown_refl _ _) | exact KT.out _ (grown_ad _ _ _) | exact KT.out _ (by assumption) | exact KSS.out _ _ (by assumption))) (fun hHeld18 => ?_)
                  clear hK K
                  (try simp only [Act.put]); (try simp only [List.setIfInBounds_toArray]); (try simp only [List.set_cons_zero, List.set_cons_succ])
                  refine wpAnyH_done (by kernel_rfl) ?_ _
                  refine NoPanic.normal ?_
                  generalize hW6 : World.setCell w5 _ _ = w6
                  have hgc : wc.heap.size ≤ g := by
                    rcases hat with h | h
                    · exact (HO2.out.lt g h).1
                    · have := TW3.out.gr.size; simp at h; omega
                  obtain ⟨B', tw6⟩ := TW3.out.lat hgbl hkl (⟨y, false⟩ : LatD) HOK.out HG5 hown hgc hlt5 hW6.symm
                  have TW6 := hidden tw6
                  clear tw6 hW6 hgc hown hgrow hat hlt5 HG5 hc5 hf5 KP KF hu2 huA HF2 HO2 HOK TW3
                  try clear KT KSS KL
                  go_wp2
                  go_roundw
                  case measure => simp [intOf]; omega
                  case rel => exact ⟨k + 1, p + t.length + 1, _, _, _, _, _, by omega, by simp, by simp, HPN.out, HPL.out, TW6.out⟩
                refine AllReadyH.cons (o := _) rfl (fun K hK => ?_) AllReadyH.nil
                (try simp only [List.getElem_toArray, List.getElem_cons_zero, List.getElem_cons_succ])
                go_simp
                refine hK.out _ _ (by (first | assumption | exact KL.out | exact KT.out _ (grown_refl _ _) | exact KT.out _ (grown_ad _ _ _) | exact KT.out _ (by assumption) | exact KSS.out _ _ (by assumption))) (fun hHeld15 => ?_)
                clear hK K
                (try simp only [Act.put]); (try simp only [List.setIfInBounds_toArray]); (try simp only [List.set_cons_zero, List.set_cons_succ])
                refine wpAnyH_ready (rs := [1]) (by kernel_rfl) (by simp) ?_
                refine AllReadyH.cons (o := _) rfl (fun K hK => ?_) AllReadyH.nil
                (try simp only [List.getElem_toArray, List.getElem_cons_zero, List.getElem_cons_succ])
                go_simp
                refine hK.out _ _ (by (first | assumption | exact KL.out | exact KT.out _ (grown_refl _ _) | exact KT.out _ (grown_ad _ _ _) | exact KT.out _ (by assumption) | exact KSS.out _ _ (by assumption))) (fun hHeld1 => ?_)
                clear hK K
                (try simp only [Act.put]); (try simp only [List.setIfInBounds_toArray]); (try simp only [List.set_cons_zero, List.set_cons_succ])
                refine wpAnyH_ready (rs := [16]) (by kernel_rfl) (by simp) ?_
                refine AllReadyH.cons (o := _) rfl (fun K hK => ?_) AllReadyH.nil
                refine step_append_lies _ rfl (.tmp 110) (.tmp 124) 24 rfl wc.heap.size 47 i2 _ 2 16 Tryd.underlying24 HI2.out HZ2.out HS2.out HBY2.out rfl (by decide) u1 ls.length _ rfl (HO2.out.alloc _).drew ⟨w3.heap.size, 0, none⟩ 1 1 [.int .i64 y, .bool false] rfl rfl (World.news_of_block (heap_new _ _)) (by simp [Value.oneCell']) (by decide) hm1 hm2 hm3 _ rfl ?_
                intro g cap w5 hown hgrow hat hlt5
                have HG5 := grown_trans (grown_ad _ _ _) hgrow
                have hc5 := KP.out w5 HG5
                have hf5 := KF.out w5 HG5
                refine hK.out _ _ (by (first | assumption | exact KL.out | exact KT.out _ (grown_refl _ _) | exact KT.out _ (grown_ad _ _ _) | exact KT.out _ (by assumption) | exact KSS.out _ _ (by assumption))) (fun hHeldp => ?_)
                clear hK K
                (try simp only [Act.put]); (try simp only [List.setIfInBounds_toArray]); (try simp only [List.set_cons_zero, List.set_cons_succ])
                refine wpAnyH_take (i := 17) (oi := _) (v := ?_) rfl (by kernel_rfl) (by kernel_rfl) (by kernel_rfl) (fun _ _ _ h => h) (Or.inl ⟨by rfl, ?_⟩) (by assumption) ?_
                rotate_left
                · (intro w0 hSw; (try dsimp only at hSw); (try simp only [List.getElem_toArray, List.getElem_cons_zero, List.getElem_cons_succ]); go_simp; try (with_reducible rfl))
                try simp only [Act.put, List.getElem_toArray, List.getElem_cons_zero, List.getElem_cons_succ, List.setIfInBounds_toArray, List.set_cons_zero, List.set_cons_succ]
                refine wpAnyH_ready (rs := [18]) (by kernel_rfl) (by simp) ?_
                refine AllReadyH.cons (o := _) rfl (fun K hK => ?_) AllReadyH.nil
                (try simp only [List.getElem_toArray, List.getElem_cons_zero, List.getElem_cons_succ])
                go_simp
                refine hK.out _ _ (by (first | assumption | exact KL.out | exact KT.out _ (grown_refl _ _) | exact KT.out _ (grown_ad _ _ _) | exact KT.out _ (by assumption) | exact KSS.out _ _ (by assumption))) (fun hHeld18 => ?_)
                clear hK K
                (try simp only [Act.put]); (try simp only [List.setIfInBounds_toArray]); (try simp only [List.set_cons_zero, List.set_cons_succ])
                refine wpAnyH_done (by kernel_rfl) ?_ _
                refine NoPanic.normal ?_
                generalize hW6 : World.setCell w5 _ _ = w6
                have hgc : wc.heap.size ≤ g := by
                  rcases hat with h | h
                  · exact (HO2.out.lt g h).1
                  · have := TW3.out.gr.size; simp at h; omega
                obtain ⟨B', tw6⟩ := TW3.out.lat hgbl hkl (⟨y, false⟩ : LatD) HOK.out HG5 hown hgc hlt5 hW6.symm
                have TW6 := hidden tw6
                clear tw6 hW6 hgc hown hgrow hat hlt5 HG5 hc5 hf5 KP KF hu2 huA HF2 HO2 HOK TW3
                try clear KT KSS KL
                go_wp2
                go_roundw
                case measure => simp [intOf]; omega
                case rel => exact ⟨k + 1, p + t.length + 1, _, _, _, _, _, by omega, by simp, by simp, HPN.out, HPL.out, TW6.out⟩
              · have hyb : M ≤ y := by omega
                have HNOT : Hid (¬ LineB T nl M k) := fun hh => by have h2 := (lineB_lat hkl).1 hh; rw [← HPK.out] at h2; exact (latB_second HX1.out hy) h2
                have BX := hidden (BX0.out.grown HGX.out hrl hfl hrg hfg)
                have HBW : Hid (Below we.heap.size we w3) := HBW0.out.trans (below_grown HGX.out HBW0.out.size (fun x hx => by have := Option.some.inj hx; omega))
                have hsX := HGX.out.size
                have B5 := hidden (badByte_any (p : Int) w3)
                go_wp2_with fail
                go_at_call 31
                refine B5.out.mono ?_
                rintro e w8 ⟨rfl, hb8⟩
                have HBX8 := hidden (BX.out.below hb8 (by omega) (by omega))
                have HBW8 : Hid (Below we.heap.size we w8) := HBW.out.trans (hb8.mono HBW.out.size)
                have r0 : w8.cell? ⟨rb, 0, none⟩ = some (.int .i64 0) := heap_cell HBX8.out.r
                have r1 : w8.cell? ⟨rb, 1, none⟩ = some (.slice none 0 0) := heap_cell HBX8.out.r
                have r2 : w8.cell? ⟨rb, 2, none⟩ = some (.slice none 0 0) := heap_cell HBX8.out.r
                have r3 : w8.cell? ⟨rb, 3, none⟩ = some (.slice none 0 0) := heap_cell HBX8.out.r
                have q0 : w8.cell? ⟨fb, 0, none⟩ = some (.int .i64 0) := heap_cell HBX8.out.f
                have q1 : w8.cell? ⟨fb, 1, none⟩ = some (.int .i64 0) := heap_cell HBX8.out.f
                have fr : ∀ j, w8.frozen? ⟨rb, j, none⟩ = false := fun j => heap_fz HBX8.out.r j
                have ff : ∀ j, w8.frozen? ⟨fb, j, none⟩ = false := fun j => heap_fz HBX8.out.f j
                have HTOLD := hidden (told_of (p : Int) HBX8.out hne HBW8.out hrw hfw)
                clear hb8 B5
                go_wp2
                exact HQ.out k _ _ hlt HPre.out HNOT.out rfl rfl rfl (by rw [HPLC.out]; exact HTOLD.out)
            · clear hx3
              obtain ⟨lb, lc, rfl, hlb, hlb2, hlc, hel⟩ := row_els hx2 (by simp)
              by_cases hf1 : f = 1
              · have hfb : (f == 1) = true := by simp [hf1]
                have HF01 : Hid (true = decide (f = 1)) := by show _ = _; simp [hf1]
                clear hf1
                have d0 := hel 0 y rfl
                have d1 := hel 1 f rfl
                have HX1 : Hid (numsB T p = some [y, f]) := by show _ = _; rw [HT.out]; exact hx1
                simp only [List.length_cons, List.length_nil, Nat.zero_add, Nat.reduceAdd]
                clear hx1 hx2 hel
                by_cases hy : y < M
                · have hyb : ¬ M ≤ y := by omega
                  have l0 := d0
                  have l1 := d1
                  have hlb3 : w1.heap.size ≤ lb := by have : (w1.alloc (.cells #[.string st] 9)).heap.size ≤ lb := hlb; simp at this; omega
                  have HOK : Hid (LatB T (offL T k) M (⟨y, true⟩ : LatD)) := by rw [← HPK.out]; exact ⟨hy, Or.inr ⟨f, HX1.out, by omega, HF01.out⟩⟩
                  have HO2 := hidden TW3.out.o1
                  have hu2 := TW3.out.c1
                  have HF2 : Hid (∀ j, w3.frozen? ⟨gb, j, none⟩ = false) := TW3.out.fz
                  have hgl2 : gb < w3.heap.size := by have := TW3.out.gr.size; omega
                  have far : some gb ≠ u1.ownBlock := fun e => by have := (HO2.out.lt gb e.symm).1; have := TW3.out.hB; omega
                  have hul : some lb ≠ u1.ownBlock := fun e => by have := (HO0.out.lt lb e.symm).2; omega
                  have KL : Hid ((fun w' => w'.cell? ⟨lb, 0, none⟩ = some (.int .i64 y) ∧ w'.cell? ⟨lb, 1, none⟩ = some (.int .i64 f)) w3.drew) := ⟨l0, l1⟩
                  have KT : Hid (∀ w', w3.grownBy w' u1.ownBlock → (fun w' => w'.cell? ⟨lb, 0, none⟩ = some (.int .i64 y) ∧ w'.cell? ⟨lb, 1, none⟩ = some (.int .i64 f)) w') := fun w' hg => ⟨(hg.cell_far ⟨lb, 0, none⟩ (by show lb < _; omega) hul).trans l0, (hg.cell_far ⟨lb, 1, none⟩ (by show lb < _; omega) hul).trans l1⟩
                  have KSS : Hid (∀ (w' : World) (xv : Value), (fun w' => w'.cell? ⟨lb, 0, none⟩ = some (.int .i64 y) ∧ w'.cell? ⟨lb, 1, none⟩ = some (.int .i64 f)) w' → (fun w' => w'.cell? ⟨lb, 0, none⟩ = some (.int .i64 y) ∧ w'.cell? ⟨lb, 1, none⟩ = some (.int .i64 f)) (w'.setCell ⟨gb, 1, none⟩ xv)) := fun w' xv hh => ⟨(World.cell?_setCell_far w' ⟨gb, 1, none⟩ ⟨lb, 0, none⟩ xv (by show gb ≠ lb; omega)).trans hh.1, (World.cell?_setCell_far w' ⟨gb, 1, none⟩ ⟨lb, 1, none⟩ xv (by show gb ≠ lb; omega)).trans hh.2⟩
                  have hm3 : wc.heap.size ≤ ((w3.alloc (.cells #[.int .i64 y, .bool true] 47)).drew).heap.size := by have := TW3.out.gr.size; have := TW3.out.hB2; simp; omega
                  have KP : Hid (∀ w', w3.grownBy w' u1.ownBlock → w'.cell? ⟨gb, 1, none⟩ = some u1) := fun w' hg => (hg.cell_far ⟨gb, 1, none⟩ hgl2 far).trans hu2
                  have KF : Hid (∀ w', w3.grownBy w' u1.ownBlock → ∀ j, w'.frozen? ⟨gb, j, none⟩ = false) := fun w' hg j => (hg.frozen_far ⟨gb, j, none⟩ hgl2 far).trans (HF2.out j)
                  have huA : (w3.alloc (.cells #[.int .i64 y, .bool true] 47)).cell? ⟨gb, 1, none⟩ = some u1 := KP.out _ (World.grownBy_alloc _ _ _)
                  go_upto_region 15 with fail
                  refine wp_region_noPanic ?_
                  refine wp_region_held_drew (S := (fun w' => w'.cell? ⟨lb, 0, none⟩ = some (.int .i64 y) ∧ w'.cell? ⟨lb, 1, none⟩ = some (.int .i64 f))) (by kernel_rfl) (by (first | assumption | exact KL.out | exact KT.out _ (grown_refl _ _) | exact KT.out _ (grown_ad _ _ _) | exact KT.out _ (by assumption) | exact KSS.out _ _ (by assumption))) (fun hHeld => ?_)
                  refine wpAnyH_take (i := 0) (oi := _) (v := ?_) rfl (by kernel_rfl) (by kernel_rfl) (by kernel_rfl) (fun _ _ _ h => h) (Or.inl ⟨by rfl, ?_⟩) (by assumption) ?_
                  rotate_left
                  · (intro w0 hSw; (try dsimp only at hSw); (try simp only [List.getElem_toArray, List.getElem_cons_zero]); go_simp; try (with_reducible rfl))
                  try simp only [Act.put, List.getElem_toArray, List.getElem_cons_zero, List.setIfInBounds_toArray, List.set_cons_zero, List.set_cons_succ]
                  refine wpAnyH_take (i := 2) (oi := _) (v := ?_) rfl (by kernel_rfl) (by kernel_rfl) (by kernel_rfl) (fun _ _ _ h => h) (Or.inl ⟨by rfl, ?_⟩) (by assumption) ?_
                  rotate_left
                  · (intro w0 hSw; (try dsimp only at hSw); (try simp only [List.getElem_toArray, List.getElem_cons_zero, List.getElem_cons_succ]); go_simp; try (with_reducible rfl))
                  try simp only [Act.put, List.getElem_toArray, List.getElem_cons_zero, List.getElem_cons_succ, List.setIfInBounds_toArray, List.set_cons_zero, List.set_cons_succ]
                  refine wpAnyH_take (i := 3) (oi := _) (v := ?_) rfl (by kernel_rfl) (by kernel_rfl) (by kernel_rfl) (fun _ _ _ h => h) (Or.inl ⟨by rfl, ?_⟩) (by assumption) ?_
                  rotate_left
                  · (intro w0 hSw; (try dsimp only at hSw); (try simp only [List.getElem_toArray, List.getElem_cons_zero, List.getElem_cons_succ]); go_simp; try (with_reducible rfl))
                  try simp only [Act.put, List.getElem_toArray, List.getElem_cons_zero, List.getElem_cons_succ, List.setIfInBounds_toArray, List.set_cons_zero, List.set_cons_succ]
                  refine wpAnyH_take (i := 4) (oi := _) (v := ?_) rfl (by kernel_rfl) (by kernel_rfl) (by kernel_rfl) (fun _ _ _ h => h) (Or.inl ⟨by rfl, ?_⟩) (by assumption) ?_
                  rotate_left
                  · (intro w0 hSw; (try dsimp only at hSw); (try simp only [List.getElem_toArray, List.getElem_cons_zero, List.getElem_cons_succ]); go_simp; try (with_reducible rfl))
                  try simp only [Act.put, List.getElem_toArray, List.getElem_cons_zero, List.getElem_cons_succ, List.setIfInBounds_toArray, List.set_cons_zero, List.set_cons_succ]
                  refine wpAnyH_take (i := 5) (oi := _) (v := ?_) rfl (by kernel_rfl) (by kernel_rfl) (by kernel_rfl) (fun _ _ _ h => h) (Or.inl ⟨by rfl, ?_⟩) (by assumption) ?_
                  rotate_left
                  · (intro w0 hSw; (try dsimp only at hSw); (try simp only [List.getElem_toArray, List.getElem_cons_zero, List.getElem_cons_succ]); go_simp; try (with_reducible rfl))
                  try simp only [Act.put, List.getElem_toArray, List.getElem_cons_zero, List.getElem_cons_succ, List.setIfInBounds_toArray, List.set_cons_zero, List.set_cons_succ]
                  refine wpAnyH_take (i := 6) (oi := _) (v := ?_) rfl (by kernel_rfl) (by kernel_rfl) (by kernel_rfl) (fun _ _ _ h => h) (Or.inl ⟨by rfl, ?_⟩) (by assumption) ?_
                  rotate_left
                  · (intro w0 hSw; (try dsimp only at hSw); (try simp only [List.getElem_toArray, List.getElem_cons_zero, List.getElem_cons_succ]); go_simp; try (with_reducible rfl))
                  try simp only [Act.put, List.getElem_toArray, List.getElem_cons_zero, List.getElem_cons_succ, List.setIfInBounds_toArray, List.set_cons_zero, List.set_cons_succ]
                  refine wpAnyH_take (i := 7) (oi := _) (v := ?_) rfl (by kernel_rfl) (by kernel_rfl) (by kernel_rfl) (fun _ _ _ h => h) (Or.inl ⟨by rfl, ?_⟩) (by assumption) ?_
                  rotate_left
                  · (intro w0 hSw; (try dsimp only at hSw); (try simp only [List.getElem_toArray, List.getElem_cons_zero, List.getElem_cons_succ]); go_simp; try (with_reducible rfl))
                  try simp only [Act.put, List.getElem_toArray, List.getElem_cons_zero, List.getElem_cons_succ, List.setIfInBounds_toArray, List.set_cons_zero, List.set_cons_succ]
                  refine wpAnyH_take (i := 8) (oi := _) (v := ?_) rfl (by kernel_rfl) (by kernel_rfl) (by kernel_rfl) (fun _ _ _ h => h) (Or.inl ⟨by rfl, ?_⟩) (by assumption) ?_
                  rotate_left
                  · (intro w0 hSw; (try dsimp only at hSw); (try simp only [List.getElem_toArray, List.getElem_cons_zero, List.getElem_cons_succ]); go_simp; try (with_reducible rfl))
                  try simp only [Act.put, List.getElem_toArray, List.getElem_cons_zero, List.getElem_cons_succ, List.setIfInBounds_toArray, List.set_cons_zero, List.set_cons_succ]
                  refine wpAnyH_take (i := 9) (oi := _) (v := ?_) rfl (by kernel_rfl) (by kernel_rfl) (by kernel_rfl) (fun _ _ _ h => h) (Or.inl ⟨by rfl, ?_⟩) (by assumption) ?_
                  rotate_left
                  · (intro w0 hSw; (try dsimp only at hSw); (try simp only [List.getElem_toArray, List.getElem_cons_zero, List.getElem_cons_succ]); go_simp; try (with_reducible rfl))
                  try simp only [Act.put, List.getElem_toArray, List.getElem_cons_zero, List.getElem_cons_succ, List.setIfInBounds_toArray, List.set_cons_zero, List.set_cons_succ]
                  refine wpAnyH_take (i := 10) (oi := _) (v := ?_) rfl (by kernel_rfl) (by kernel_rfl) (by kernel_rfl) (fun _ _ _ h => h) (Or.inl ⟨by rfl, ?_⟩) (by assumption) ?_
                  rotate_left
                  · (intro w0 hSw; (try dsimp only at hSw); (try simp only [List.getElem_toArray, List.getElem_cons_zero, List.getElem_cons_succ]); go_simp; try (with_reducible rfl))
                  try simp only [Act.put, List.getElem_toArray, List.getElem_cons_zero, List.getElem_cons_succ, List.setIfInBounds_toArray, List.set_cons_zero, List.set_cons_succ]
                  refine wpAnyH_take (i := 11) (oi := _) (v := ?_) rfl (by kernel_rfl) (by kernel_rfl) (by kernel_rfl) (fun _ _ _ h => h) (Or.inl ⟨by rfl, ?_⟩) (by assumption) ?_
                  rotate_left
                  · (intro w0 hSw; (try dsimp only at hSw); (try simp only [List.getElem_toArray, List.getElem_cons_zero, List.getElem_cons_succ]); go_simp; try (with_reducible rfl))
                  try simp only [Act.put, List.getElem_toArray, List.getElem_cons_zero, List.getElem_cons_succ, List.setIfInBounds_toArray, List.set_cons_zero, List.set_cons_succ]
                  refine wpAnyH_take (i := 12) (oi := _) (v := ?_) rfl (by kernel_rfl) (by kernel_rfl) (by kernel_rfl) (fun _ _ _ h => h) (Or.inl ⟨by rfl, ?_⟩) (by assumption) ?_
                  rotate_left
                  · (intro w0 hSw; (try dsimp only at hSw); (try simp only [List.getElem_toArray, List.getElem_cons_zero, List.getElem_cons_succ]); go_simp; try (with_reducible rfl))
                  try simp only [Act.put, List.getElem_toArray, List.getElem_cons_zero, List.getElem_cons_succ, List.setIfInBounds_toArray, List.set_cons_zero, List.set_cons_succ]
                  refine wpAnyH_take (i := 13) (oi := _) (v := ?_) rfl (by kernel_rfl) (by kernel_rfl) (by kernel_rfl) (fun _ _ _ h => h) (Or.inl ⟨by rfl, ?_⟩) (by assumption) ?_
                  rotate_left
                  · (intro w0 hSw; (try dsimp only at hSw); (try simp only [List.getElem_toArray, List.getElem_cons_zero, List.getElem_cons_succ]); go_simp; try (with_reducible rfl))
                  try simp only [Act.put, List.getElem_toArray, List.getElem_cons_zero, List.getElem_cons_succ, List.setIfInBounds_toArray, List.set_cons_zero, List.set_cons_succ]
                  refine wpAnyH_take (i := 14) (oi := _) (v := ?_) rfl (by kernel_rfl) (by kernel_rfl) (by kernel_rfl) (fun _ _ _ h => h) (Or.inl ⟨by rfl, ?_⟩) (by assumption) ?_
                  rotate_left
                  · (intro w0 hSw; (try dsimp only at hSw); (try simp only [List.getElem_toArray, List.getElem_cons_zero, List.getElem_cons_succ]); go_simp; try (with_reducible rfl))
                  try simp only [Act.put, List.getElem_toArray, List.getElem_cons_zero, List.getElem_cons_succ, List.setIfInBounds_toArray, List.set_cons_zero, List.set_cons_succ]
                  refine wpAnyH_ready (rs := [1, 15]) (by kernel_rfl) (by simp) ?_
                  refine AllReadyH.cons (o := _) rfl (fun K hK => ?_) ?_
                  · (try simp only [List.getElem_toArray, List.getElem_cons_zero, List.getElem_cons_succ])
                    go_simp
                    refine hK.out _ _ (by (first | assumption | exact KL.out | exact KT.out _ (grown_refl _ _) | exact KT.out _ (grown_ad _ _ _) | exact KT.out _ (by assumption) | exact KSS.out _ _ (by assumption))) (fun hHeld1 => ?_)
                    clear hK K
                    (try simp only [Act.put]); (try simp only [List.setIfInBounds_toArray]); (try simp only [List.set_cons_zero, List.set_cons_succ])
                    refine wpAnyH_ready (rs := [15]) (by kernel_rfl) (by simp) ?_
                    refine AllReadyH.cons (o := _) rfl (fun K hK => ?_) AllReadyH.nil
                    (try simp only [List.getElem_toArray, List.getElem_cons_zero, List.getElem_cons_succ])
                    go_simp
                    refine hK.out _ _ (by (first | assumption | exact KL.out | exact KT.out _ (grown_refl _ _) | exact KT.out _ (grown_ad _ _ _) | exact KT.out _ (by assumption) | exact KSS.out _ _ (by assumption))) (fun hHeld15 => ?_)
                    clear hK K
                    (try simp only [Act.put]); (try simp only [List.setIfInBounds_toArray]); (try simp only [List.set_cons_zero, List.set_cons_succ])
                    refine wpAnyH_ready (rs := [16]) (by kernel_rfl) (by simp) ?_
                    refine AllReadyH.cons (o := _) rfl (fun K hK => ?_) AllReadyH.nil
                    refine step_append_lies _ rfl (.tmp 110) (.tmp 124) 24 rfl wc.heap.size 47 i2 _ 2 16 Tryd.underlying24 HI2.out HZ2.out HS2.out HBY2.out rfl (by decide) u1 ls.length _ rfl (HO2.out.alloc _).drew ⟨w3.heap.size, 0, none⟩ 1 1 [.int .i64 y, .bool true] rfl rfl (World.news_of_block (heap_new _ _)) (by simp [Value.oneCell']) (by decide) hm1 hm2 hm3 _ rfl ?_
                    intro g cap w5 hown hgrow hat hlt5
                    have HG5 := grown_trans (grown_ad _ _ _) hgrow
                    have hc5 := KP.out w5 HG5
                    have hf5 := KF.out w5 HG5
                    refine hK.out _ _ (by (first | assumption | exact KL.out | exact KT.out _ (grown_refl _ _) | exact KT.out _ (grown_ad _ _ _) | exact KT.out _ (by assumption) | exact KSS.out _ _ (by assumption))) (fun hHeldp => ?_)
                    clear hK K
                    (try simp only [Act.put]); (try simp only [List.setIfInBounds_toArray]); (try simp only [List.set_cons_zero, List.set_cons_succ])
                    refine wpAnyH_take (i := 17) (oi := _) (v := ?_) rfl (by kernel_rfl) (by kernel_rfl) (by kernel_rfl) (fun _ _ _ h => h) (Or.inl ⟨by rfl, ?_⟩) (by assumption) ?_
                    rotate_left
                    · (intro w0 hSw; (try dsimp only at hSw); (try simp only [List.getElem_toArray, List.getElem_cons_zero, List.getElem_cons_succ]); go_simp; try (with_reducible rfl))
                    try simp only [Act.put, List.getElem_toArray, List.getElem_cons_zero, List.getElem_cons_succ, List.setIfInBounds_toArray, List.set_cons_zero, List.set_cons_succ]
                    refine wpAnyH_ready (rs := [18]) (by kernel_rfl) (by simp) ?_
                    refine AllReadyH.cons (o := _) rfl (fun K hK => ?_) AllReadyH.nil
                    (try simp only [List.getElem_toArray, List.getElem_cons_zero, List.getElem_cons_succ])
                    go_simp
                    refine hK.out _ _ (by (first | assumption | exact KL.out | exact KT.out _ (grown_refl _ _) | exact KT.out _ (grown_ad _ _ _) | exact KT.out _ (by assumption) | exact KSS.out _ _ (by assumption))) (fun hHeld18 => ?_)
                    clear hK K
                    (try simp only [Act.put]); (try simp only [List.setIfInBounds_toArray]); (try simp only [List.set_cons_zero, List.set_cons_succ])
                    refine wpAnyH_done (by kernel_rfl) ?_ _
                    refine NoPanic.normal ?_
                    generalize hW6 : World.setCell w5 _ _ = w6
                    have hgc : wc.heap.size ≤ g := by
                      rcases hat with h | h
                      · exact (HO2.out.lt g h).1
                      · have := TW3.out.gr.size; simp at h; omega
                    obtain ⟨B', tw6⟩ := TW3.out.lat hgbl hkl (⟨y, true⟩ : LatD) HOK.out HG5 hown hgc hlt5 hW6.symm
                    have TW6 := hidden tw6
                    clear tw6 hW6 hgc hown hgrow hat hlt5 HG5 hc5 hf5 KP KF hu2 huA HF2 HO2 HOK TW3
                    try clear KT KSS KL
                    go_wp2
                    go_roundw
                    case measure => simp [intOf]; omega
                    case rel => exact ⟨k + 1, p + t.length + 1, _, _, _, _, _, by omega, by simp, by simp, HPN.out, HPL.out, TW6.out⟩
                  refine AllReadyH.cons (o := _) rfl (fun K hK => ?_) AllReadyH.nil
                  (try simp only [List.getElem_toArray, List.getElem_cons_zero, List.getElem_cons_succ])
                  go_simp
                  refine hK.out _ _ (by (first | assumption | exact KL.out | exact KT.out _ (grown_refl _ _) | exact KT.out _ (grown_ad _ _ _) | exact KT.out _ (by assumption) | exact KSS.out _ _ (by assumption))) (fun hHeld15 => ?_)
                  clear hK K
                  (try simp only [Act.put]); (try simp only [List.setIfInBounds_toArray]); (try simp only [List.set_cons_zero, List.set_cons_succ])
                  refine wpAnyH_ready (rs := [1]) (by kernel_rfl) (by simp) ?_
                  refine AllReadyH.cons (o := _) rfl (fun K hK => ?_) AllReadyH.nil
                  (try simp only [List.getElem_toArray, List.getElem_cons_zero, List.getElem_cons_succ])
                  go_simp
                  refine hK.out _ _ (by (first | assumption | exact KL.out | exact KT.out _ (grown_refl _ _) | exact KT.out _ (grown_ad _ _ _) | exact KT.out _ (by assumption) | exact KSS.out _ _ (by assumption))) (fun hHeld1 => ?_)
                  clear hK K
                  (try simp only [Act.put]); (try simp only [List.setIfInBounds_toArray]); (try simp only [List.set_cons_zero, List.set_cons_succ])
                  refine wpAnyH_ready (rs := [16]) (by kernel_rfl) (by simp) ?_
                  refine AllReadyH.cons (o := _) rfl (fun K hK => ?_) AllReadyH.nil
                  refine step_append_lies _ rfl (.tmp 110) (.tmp 124) 24 rfl wc.heap.size 47 i2 _ 2 16 Tryd.underlying24 HI2.out HZ2.out HS2.out HBY2.out rfl (by decide) u1 ls.length _ rfl (HO2.out.alloc _).drew ⟨w3.heap.size, 0, none⟩ 1 1 [.int .i64 y, .bool true] rfl rfl (World.news_of_block (heap_new _ _)) (by simp [Value.oneCell']) (by decide) hm1 hm2 hm3 _ rfl ?_
                  intro g cap w5 hown hgrow hat hlt5
                  have HG5 := grown_trans (grown_ad _ _ _) hgrow
                  have hc5 := KP.out w5 HG5
                  have hf5 := KF.out w5 HG5
                  refine hK.out _ _ (by (first | assumption | exact KL.out | exact KT.out _ (grown_refl _ _) | exact KT.out _ (grown_ad _ _ _) | exact KT.out _ (by assumption) | exact KSS.out _ _ (by assumption))) (fun hHeldp => ?_)
                  clear hK K
                  (try simp only [Act.put]); (try simp only [List.setIfInBounds_toArray]); (try simp only [List.set_cons_zero, List.set_cons_succ])
                  refine wpAnyH_take (i := 17) (oi := _) (v := ?_) rfl (by kernel_rfl) (by kernel_rfl) (by kernel_rfl) (fun _ _ _ h => h) (Or.inl ⟨by rfl, ?_⟩) (by assumption) ?_
                  rotate_left
                  · (intro w0 hSw; (try dsimp only at hSw); (try simp only [List.getElem_toArray, List.getElem_cons_zero, List.getElem_cons_succ]); go_simp; try (with_reducible rfl))
                  try simp only [Act.put, List.getElem_toArray, List.getElem_cons_zero, List.getElem_cons_succ, List.setIfInBounds_toArray, List.set_cons_zero, List.set_cons_succ]
                  refine wpAnyH_ready (rs := [18]) (by kernel_rfl) (by simp) ?_
                  refine AllReadyH.cons (o := _) rfl (fun K hK => ?_) AllReadyH.nil
                  (try simp only [List.getElem_toArray, List.getElem_cons_zero, List.getElem_cons_succ])
                  go_simp
                  refine hK.out _ _ (by (first | assumption | exact KL.out | exact KT.out _ (grown_refl _ _) | exact KT.out _ (grown_ad _ _ _) | exact KT.out _ (by assumption) | exact KSS.out _ _ (by assumption))) (fun hHeld18 => ?_)
                  clear hK K
                  (try simp only [Act.put]); (try simp only [List.setIfInBounds_toArray]); (try simp only [List.set_cons_zero, List.set_cons_succ])
                  refine wpAnyH_done (by kernel_rfl) ?_ _
                  refine NoPanic.normal ?_
                  generalize hW6 : World.setCell w5 _ _ = w6
                  have hgc : wc.heap.size ≤ g := by
                    rcases hat with h | h
                    · exact (HO2.out.lt g h).1
                    · have := TW3.out.gr.size; simp at h; omega
                  obtain ⟨B', tw6⟩ := TW3.out.lat hgbl hkl (⟨y, true⟩ : LatD) HOK.out HG5 hown hgc hlt5 hW6.symm
                  have TW6 := hidden tw6
                  clear tw6 hW6 hgc hown hgrow hat hlt5 HG5 hc5 hf5 KP KF hu2 huA HF2 HO2 HOK TW3
                  try clear KT KSS KL
                  go_wp2
                  go_roundw
                  case measure => simp [intOf]; omega
                  case rel => exact ⟨k + 1, p + t.length + 1, _, _, _, _, _, by omega, by simp, by simp, HPN.out, HPL.out, TW6.out⟩
                · have hyb : M ≤ y := by omega
                  have HNOT : Hid (¬ LineB T nl M k) := fun hh => by have h2 := (lineB_lat hkl).1 hh; rw [← HPK.out] at h2; exact (latB_second HX1.out hy) h2
                  have BX := hidden (BX0.out.grown HGX.out hrl hfl hrg hfg)
                  have HBW : Hid (Below we.heap.size we w3) := HBW0.out.trans (below_grown HGX.out HBW0.out.size (fun x hx => by have := Option.some.inj hx; omega))
                  have hsX := HGX.out.size
                  have B5 := hidden (badByte_any (p : Int) w3)
                  go_wp2_with fail
                  go_at_call 31
                  refine B5.out.mono ?_
                  rintro e w8 ⟨rfl, hb8⟩
                  have HBX8 := hidden (BX.out.below hb8 (by omega) (by omega))
                  have HBW8 : Hid (Below we.heap.size we w8) := HBW.out.trans (hb8.mono HBW.out.size)
                  have r0 : w8.cell? ⟨rb, 0, none⟩ = some (.int .i64 0) := heap_cell HBX8.out.r
                  have r1 : w8.cell? ⟨rb, 1, none⟩ = some (.slice none 0 0) := heap_cell HBX8.out.r
                  have r2 : w8.cell? ⟨rb, 2, none⟩ = some (.slice none 0 0) := heap_cell HBX8.out.r
                  have r3 : w8.cell? ⟨rb, 3, none⟩ = some (.slice none 0 0) := heap_cell HBX8.out.r
                  have q0 : w8.cell? ⟨fb, 0, none⟩ = some (.int .i64 0) := heap_cell HBX8.out.f
                  have q1 : w8.cell? ⟨fb, 1, none⟩ = some (.int .i64 0) := heap_cell HBX8.out.f
                  have fr : ∀ j, w8.frozen? ⟨rb, j, none⟩ = false := fun j => heap_fz HBX8.out.r j
                  have ff : ∀ j, w8.frozen? ⟨fb, j, none⟩ = false := fun j => heap_fz HBX8.out.f j
                  have HTOLD := hidden (told_of (p : Int) HBX8.out hne HBW8.out hrw hfw)
                  clear hb8 B5
                  go_wp2
                  exact HQ.out k _ _ hlt HPre.out HNOT.out rfl rfl rfl (by rw [HPLC.out]; exact HTOLD.out)
              · have hfb : (f == 1) = false := by simp [hf1]
                have HF01 : Hid (false = decide (f = 1)) := by show _ = _; simp [hf1]
                clear hf1
                have d0 := hel 0 y rfl
                have d1 := hel 1 f rfl
                have HX1 : Hid (numsB T p = some [y, f]) := by show _ = _; rw [HT.out]; exact hx1
                simp only [List.length_cons, List.length_nil, Nat.zero_add, Nat.reduceAdd]
                clear hx1 hx2 hel
                by_cases hy : y < M
                · have hyb : ¬ M ≤ y := by omega
                  have l0 := d0
                  have l1 := d1
                  have hlb3 : w1.heap.size ≤ lb := by have : (w1.alloc (.cells #[.string st] 9)).heap.size ≤ lb := hlb; simp at this; omega
                  have HOK : Hid (LatB T (offL T k) M (⟨y, false⟩ : LatD)) := by rw [← HPK.out]; exact ⟨hy, Or.inr ⟨f, HX1.out, by omega, HF01.out⟩⟩
                  have HO2 := hidden TW3.out.o1
                  have hu2 := TW3.out.c1
                  have HF2 : Hid (∀ j, w3.frozen? ⟨gb, j, none⟩ = false) := TW3.out.fz
                  have hgl2 : gb < w3.heap.size := by have := TW3.out.gr.size; omega
                  have far : some gb ≠ u1.ownBlock := fun e => by have := (HO2.out.lt gb e.symm).1; have := TW3.out.hB; omega
                  have hul : some lb ≠ u1.ownBlock := fun e => by have := (HO0.out.lt lb e.symm).2; omega
                  have KL : Hid ((fun w' => w'.cell? ⟨lb, 0, none⟩ = some (.int .i64 y) ∧ w'.cell? ⟨lb, 1, none⟩ = some (.int .i64 f)) w3.drew) := ⟨l0, l1⟩
                  have KT : Hid (∀ w', w3.grownBy w' u1.ownBlock → (fun w' => w'.cell? ⟨lb, 0, none⟩ = some (.int .i64 y) ∧ w'.cell? ⟨lb, 1, none⟩ = some (.int .i64 f)) w') := fun w' hg => ⟨(hg.cell_far ⟨lb, 0, none⟩ (by show lb < _; omega) hul).trans l0, (hg.cell_far ⟨lb, 1, none⟩ (by show lb < _; omega) hul).trans l1⟩
                  have KSS : Hid (∀ (w' : World) (xv : Value), (fun w' => w'.cell? ⟨lb, 0, none⟩ = some (.int .i64 y) ∧ w'.cell? ⟨lb, 1, none⟩ = some (.int .i64 f)) w' → (fun w' => w'.cell? ⟨lb, 0, none⟩ = some (.int .i64 y) ∧ w'.cell? ⟨lb, 1, none⟩ = some (.int .i64 f)) (w'.setCell ⟨gb, 1, none⟩ xv)) := fun w' xv hh => ⟨(World.cell?_setCell_far w' ⟨gb, 1, none⟩ ⟨lb, 0, none⟩ xv (by show gb ≠ lb; omega)).trans hh.1, (World.cell?_setCell_far w' ⟨gb, 1, none⟩ ⟨lb, 1, none⟩ xv (by show gb ≠ lb; omega)).trans hh.2⟩
                  have hm3 : wc.heap.size ≤ ((w3.alloc (.cells #[.int .i64 y, .bool false] 47)).drew).heap.size := by have := TW3.out.gr.size; have := TW3.out.hB2; simp; omega
                  have KP : Hid (∀ w', w3.grownBy w' u1.ownBlock → w'.cell? ⟨gb, 1, none⟩ = some u1) := fun w' hg => (hg.cell_far ⟨gb, 1, none⟩ hgl2 far).trans hu2
                  have KF : Hid (∀ w', w3.grownBy w' u1.ownBlock → ∀ j, w'.frozen? ⟨gb, j, none⟩ = false) := fun w' hg j => (hg.frozen_far ⟨gb, j, none⟩ hgl2 far).trans (HF2.out j)
                  have huA : (w3.alloc (.cells #[.int .i64 y, .bool false] 47)).cell? ⟨gb, 1, none⟩ = some u1 := KP.out _ (World.grownBy_alloc _ _ _)
                  go_upto_region 15 with fail
                  refine wp_region_noPanic ?_
                  refine wp_region_held_drew (S := (fun w' => w'.cell? ⟨lb, 0, none⟩ = some (.int .i64 y) ∧ w'.cell? ⟨lb, 1, none⟩ = some (.int .i64 f))) (by kernel_rfl) (by (first | assumption | exact KL.out | exact KT.out _ (grown_refl _ _) | exact KT.out _ (grown_ad _ _ _) | exact KT.out _ (by assumption) | exact KSS.out _ _ (by assumption))) (fun hHeld => ?_)
                  refine wpAnyH_take (i := 0) (oi := _) (v := ?_) rfl (by kernel_rfl) (by kernel_rfl) (by kernel_rfl) (fun _ _ _ h => h) (Or.inl ⟨by rfl, ?_⟩) (by assumption) ?_
                  rotate_left
                  · (intro w0 hSw; (try dsimp only at hSw); (try simp only [List.getElem_toArray, List.getElem_cons_zero]); go_simp; try (with_reducible rfl))
                  try simp only [Act.put, List.getElem_toArray, List.getElem_cons_zero, List.setIfInBounds_toArray, List.set_cons_zero, List.set_cons_succ]
                  refine wpAnyH_take (i := 2) (oi := _) (v := ?_) rfl (by kernel_rfl) (by kernel_rfl) (by kernel_rfl) (fun _ _ _ h => h) (Or.inl ⟨by rfl, ?_⟩) (by assumption) ?_
                  rotate_left
                  · (intro w0 hSw; (try dsimp only at hSw); (try simp only [List.getElem_toArray, List.getElem_cons_zero, List.getElem_cons_succ]); go_simp; try (with_reducible rfl))
                  try simp only [Act.put, List.getElem_toArray, List.getElem_cons_zero, List.getElem_cons_succ, List.setIfInBounds_toArray, List.set_cons_zero, List.set_cons_succ]
                  refine wpAnyH_take (i := 3) (oi := _) (v := ?_) rfl (by kernel_rfl) (by kernel_rfl) (by kernel_rfl) (fun _ _ _ h => h) (Or.inl ⟨by rfl, ?_⟩) (by assumption) ?_
                  rotate_left
                  · (intro w0 hSw; (try dsimp only at hSw); (try simp only [List.getElem_toArray, List.getElem_cons_zero, List.getElem_cons_succ]); go_simp; try (with_reducible rfl))
                  try simp only [Act.put, List.getElem_toArray, List.getElem_cons_zero, List.getElem_cons_succ, List.setIfInBounds_toArray, List.set_cons_zero, List.set_cons_succ]
                  refine wpAnyH_take (i := 4) (oi := _) (v := ?_) rfl (by kernel_rfl) (by kernel_rfl) (by kernel_rfl) (fun _ _ _ h => h) (Or.inl ⟨by rfl, ?_⟩) (by assumption) ?_
                  rotate_left
                  · (intro w0 hSw; (try dsimp only at hSw); (try simp only [List.getElem_toArray, List.getElem_cons_zero, List.getElem_cons_succ]); go_simp; try (with_reducible rfl))
                  try simp only [Act.put, List.getElem_toArray, List.getElem_cons_zero, List.getElem_cons_succ, List.setIfInBounds_toArray, List.set_cons_zero, List.set_cons_succ]
                  refine wpAnyH_take (i := 5) (oi := _) (v := ?_) rfl (by kernel_rfl) (by kernel_rfl) (by kernel_rfl) (fun _ _ _ h => h) (Or.inl ⟨by rfl, ?_⟩) (by assumption) ?_
                  rotate_left
                  · (intro w0 hSw; (try dsimp only at hSw); (try simp only [List.getElem_toArray, List.getElem_cons_zero, List.getElem_cons_succ]); go_simp; try (with_reducible rfl))
                  try simp only [Act.put, List.getElem_toArray, List.getElem_cons_zero, List.getElem_cons_succ, List.setIfInBounds_toArray, List.set_cons_zero, List.set_cons_succ]
                  refine wpAnyH_take (i := 6) (oi := _) (v := ?_) rfl (by kernel_rfl) (by kernel_rfl) (by kernel_rfl) (fun _ _ _ h => h) (Or.inl ⟨by rfl, ?_⟩) (by assumption) ?_
                  rotate_left
                  · (intro w0 hSw; (try dsimp only at hSw); (try simp only [List.getElem_toArray, List.getElem_cons_zero, List.getElem_cons_succ]); go_simp; try (with_reducible rfl))
                  try simp only [Act.put, List.getElem_toArray, List.getElem_cons_zero, List.getElem_cons_succ, List.setIfInBounds_toArray, List.set_cons_zero, List.set_cons_succ]
                  refine wpAnyH_take (i := 7) (oi := _) (v := ?_) rfl (by kernel_rfl) (by kernel_rfl) (by kernel_rfl) (fun _ _ _ h => h) (Or.inl ⟨by rfl, ?_⟩) (by assumption) ?_
                  rotate_left
                  · (intro w0 hSw; (try dsimp only at hSw); (try simp only [List.getElem_toArray, List.getElem_cons_zero, List.getElem_cons_succ]); go_simp; try (with_reducible rfl))
                  try simp only [Act.put, List.getElem_toArray, List.getElem_cons_zero, List.getElem_cons_succ, List.setIfInBounds_toArray, List.set_cons_zero, List.set_cons_succ]
                  refine wpAnyH_take (i := 8) (oi := _) (v := ?_) rfl (by kernel_rfl) (by kernel_rfl) (by kernel_rfl) (fun _ _ _ h => h) (Or.inl ⟨by rfl, ?_⟩) (by assumption) ?_
                  rotate_left
                  · (intro w0 hSw; (try dsimp only at hSw); (try simp only [List.getElem_toArray, List.getElem_cons_zero, List.getElem_cons_succ]); go_simp; try (with_reducible rfl))
                  try simp only [Act.put, List.getElem_toArray, List.getElem_cons_zero, List.getElem_cons_succ, List.setIfInBounds_toArray, List.set_cons_zero, List.set_cons_succ]
                  refine wpAnyH_take (i := 9) (oi := _) (v := ?_) rfl (by kernel_rfl) (by kernel_rfl) (by kernel_rfl) (fun _ _ _ h => h) (Or.inl ⟨by rfl, ?_⟩) (by assumption) ?_
                  rotate_left
                  · (intro w0 hSw; (try dsimp only at hSw); (try simp only [List.getElem_toArray, List.getElem_cons_zero, List.getElem_cons_succ]); go_simp; try (with_reducible rfl))
                  try simp only [Act.put, List.getElem_toArray, List.getElem_cons_zero, List.getElem_cons_succ, List.setIfInBounds_toArray, List.set_cons_zero, List.set_cons_succ]
                  refine wpAnyH_take (i := 10) (oi := _) (v := ?_) rfl (by kernel_rfl) (by kernel_rfl) (by kernel_rfl) (fun _ _ _ h => h) (Or.inl ⟨by rfl, ?_⟩) (by assumption) ?_
                  rotate_left
                  · (intro w0 hSw; (try dsimp only at hSw); (try simp only [List.getElem_toArray, List.getElem_cons_zero, List.getElem_cons_succ]); go_simp; try (with_reducible rfl))
                  try simp only [Act.put, List.getElem_toArray, List.getElem_cons_zero, List.getElem_cons_succ, List.setIfInBounds_toArray, List.set_cons_zero, List.set_cons_succ]
                  refine wpAnyH_take (i := 11) (oi := _) (v := ?_) rfl (by kernel_rfl) (by kernel_rfl) (by kernel_rfl) (fun _ _ _ h => h) (Or.inl ⟨by rfl, ?_⟩) (by assumption) ?_
                  rotate_left
                  · (intro w0 hSw; (try dsimp only at hSw); (try simp only [List.getElem_toArray, List.getElem_cons_zero, List.getElem_cons_succ]); go_simp; try (with_reducible rfl))
                  try simp only [Act.put, List.getElem_toArray, List.getElem_cons_zero, List.getElem_cons_succ, List.setIfInBounds_toArray, List.set_cons_zero, List.set_cons_succ]
                  refine wpAnyH_take (i := 12) (oi := _) (v := ?_) rfl (by kernel_rfl) (by kernel_rfl) (by kernel_rfl) (fun _ _ _ h => h) (Or.inl ⟨by rfl, ?_⟩) (by assumption) ?_
                  rotate_left
                  · (intro w0 hSw; (try dsimp only at hSw); (try simp only [List.getElem_toArray, List.getElem_cons_zero, List.getElem_cons_succ]); go_simp; try (with_reducible rfl))
                  try simp only [Act.put, List.getElem_toArray, List.getElem_cons_zero, List.getElem_cons_succ, List.setIfInBounds_toArray, List.set_cons_zero, List.set_cons_succ]
                  refine wpAnyH_take (i := 13) (oi := _) (v := ?_) rfl (by kernel_rfl) (by kernel_rfl) (by kernel_rfl) (fun _ _ _ h => h) (Or.inl ⟨by rfl, ?_⟩) (by assumption) ?_
                  rotate_left
                  · (intro w0 hSw; (try dsimp only at hSw); (try simp only [List.getElem_toArray, List.getElem_cons_zero, List.getElem_cons_succ]); go_simp; try (with_reducible rfl))
                  try simp only [Act.put, List.getElem_toArray, List.getElem_cons_zero, List.getElem_cons_succ, List.setIfInBounds_toArray, List.set_cons_zero, List.set_cons_succ]
                  refine wpAnyH_take (i := 14) (oi := _) (v := ?_) rfl (by kernel_rfl) (by kernel_rfl) (by kernel_rfl) (fun _ _ _ h => h) (Or.inl ⟨by rfl, ?_⟩) (by assumption) ?_
                  rotate_left
                  · (intro w0 hSw; (try dsimp only at hSw); (try simp only [List.getElem_toArray, List.getElem_cons_zero, List.getElem_cons_succ]); go_simp; try (with_reducible rfl))
                  try simp only [Act.put, List.getElem_toArray, List.getElem_cons_zero, List.getElem_cons_succ, List.setIfInBounds_toArray, List.set_cons_zero, List.set_cons_succ]
                  refine wpAnyH_ready (rs := [1, 15]) (by kernel_rfl) (by simp) ?_
                  refine AllReadyH.cons (o := _) rfl (fun K hK => ?_) ?_
                  · (try simp only [List.getElem_toArray, List.getElem_cons_zero, List.getElem_cons_succ])
                    go_simp
                    refine hK.out _ _ (by (first | assumption | exact KL.out | exact KT.out _ (grown_refl _ _) | exact KT.out _ (grown_ad _ _ _) | exact KT.out _ (by assumption) | exact KSS.out _ _ (by assumption))) (fun hHeld1 => ?_)
                    clear hK K
                    (try simp only [Act.put]); (try simp only [List.setIfInBounds_toArray]); (try simp only [List.set_cons_zero, List.set_cons_succ])
                    refine wpAnyH_ready (rs := [15]) (by kernel_rfl) (by simp) ?_
                    refine AllReadyH.cons (o := _) rfl (fun K hK => ?_) AllReadyH.nil
                    (try simp only [List.getElem_toArray, List.getElem_cons_zero, List.getElem_cons_succ])
                    go_simp
                    refine hK.out _ _ (by (first | assumption | exact KL.out | exact KT.out _ (grown_refl _ _) | exact KT.out _ (grown_ad _ _ _) | exact KT.out _ (by assumption) | exact KSS.out _ _ (by assumption))) (fun hHeld15 => ?_)
                    clear hK K
                    (try simp only [Act.put]); (try simp only [List.setIfInBounds_toArray]); (try simp only [List.set_cons_zero, List.set_cons_succ])
                    refine wpAnyH_ready (rs := [16]) (by kernel_rfl) (by simp) ?_
                    refine AllReadyH.cons (o := _) rfl (fun K hK => ?_) AllReadyH.nil
                    refine step_append_lies _ rfl (.tmp 110) (.tmp 124) 24 rfl wc.heap.size 47 i2 _ 2 16 Tryd.underlying24 HI2.out HZ2.out HS2.out HBY2.out rfl (by decide) u1 ls.length _ rfl (HO2.out.alloc _).drew ⟨w3.heap.size, 0, none⟩ 1 1 [.int .i64 y, .bool false] rfl rfl (World.news_of_block (heap_new _ _)) (by simp [Value.oneCell']) (by decide) hm1 hm2 hm3 _ rfl ?_
                    intro g cap w5 hown hgrow hat hlt5
                    have HG5 := grown_trans (grown_ad _ _ _) hgrow
                    have hc5 := KP.out w5 HG5
                    have hf5 := KF.out w5 HG5
                    refine hK.out _ _ (by (first | assumption | exact KL.out | exact KT.out _ (grown_refl _ _) | exact KT.out _ (grown_ad _ _ _) | exact KT.out _ (by assumption) | exact KSS.out _ _ (by assumption))) (fun hHeldp => ?_)
                    clear hK K
                    (try simp only [Act.put]); (try simp only [List.setIfInBounds_toArray]); (try simp only [List.set_cons_zero, List.set_cons_succ])
                    refine wpAnyH_take (i := 17) (oi := _) (v := ?_) rfl (by kernel_rfl) (by kernel_rfl) (by kernel_rfl) (fun _ _ _ h => h) (Or.inl ⟨by rfl, ?_⟩) (by assumption) ?_
                    rotate_left
                    · (intro w0 hSw; (try dsimp only at hSw); (try simp only [List.getElem_toArray, List.getElem_cons_zero, List.getElem_cons_succ]); go_simp; try (with_reducible rfl))
                    try simp only [Act.put, List.getElem_toArray, List.getElem_cons_zero, List.getElem_cons_succ, List.setIfInBounds_toArray, List.set_cons_zero, List.set_cons_succ]
                    refine wpAnyH_ready (rs := [18]) (by kernel_rfl) (by simp) ?_
                    refine AllReadyH.cons (o := _) rfl (fun K hK => ?_) AllReadyH.nil
                    (try simp only [List.getElem_toArray, List.getElem_cons_zero, List.getElem_cons_succ])
                    go_simp
                    refine hK.out _ _ (by (first | assumption | exact KL.out | exact KT.out _ (grown_refl _ _) | exact KT.out _ (grown_ad _ _ _) | exact KT.out _ (by assumption) | exact KSS.out _ _ (by assumption))) (fun hHeld18 => ?_)
                    clear hK K
                    (try simp only [Act.put]); (try simp only [List.setIfInBounds_toArray]); (try simp only [List.set_cons_zero, List.set_cons_succ])
                    refine wpAnyH_done (by kernel_rfl) ?_ _
                    refine NoPanic.normal ?_
                    generalize hW6 : World.setCell w5 _ _ = w6
                    have hgc : wc.heap.size ≤ g := by
                      rcases hat with h | h
                      · exact (HO2.out.lt g h).1
                      · have := TW3.out.gr.size; simp at h; omega
                    obtain ⟨B', tw6⟩ := TW3.out.lat hgbl hkl (⟨y, false⟩ : LatD) HOK.out HG5 hown hgc hlt5 hW6.symm
                    have TW6 := hidden tw6
                    clear tw6 hW6 hgc hown hgrow hat hlt5 HG5 hc5 hf5 KP KF hu2 huA HF2 HO2 HOK TW3
                    try clear KT KSS KL
                    go_wp2
                    go_roundw
                    case measure => simp [intOf]; omega
                    case rel => exact ⟨k + 1, p + t.length + 1, _, _, _, _, _, by omega, by simp, by simp, HPN.out, HPL.out, TW6.out⟩
                  refine AllReadyH.cons (o := _) rfl (fun K hK => ?_) AllReadyH.nil
                  (try simp only [List.getElem_toArray, List.getElem_cons_zero, List.getElem_cons_succ])
                  go_simp
                  refine hK.out _ _ (by (first | assumption | exact KL.out | exact KT.out _ (grown_refl _ _) | exact KT.out _ (grown_ad _ _ _) | exact KT.out _ (by assumption) | exact KSS.out _ _ (by assumption))) (fun hHeld15 => ?_)
                  clear hK K
                  (try simp only [Act.put]); (try simp only [List.setIfInBounds_toArray]); (try simp only [List.set_cons_zero, List.set_cons_succ])
                  refine wpAnyH_ready (rs := [1]) (by kernel_rfl) (by simp) ?_
                  refine AllReadyH.cons (o := _) rfl (fun K hK => ?_) AllReadyH.nil
                  (try simp only [List.getElem_toArray, List.getElem_cons_zero, List.getElem_cons_succ])
                  go_simp
                  refine hK.out _ _ (by (first | assumption | exact KL.out | exact KT.out _ (grown_refl _ _) | exact KT.out _ (grown_ad _ _ _) | exact KT.out _ (by assumption) | exact KSS.out _ _ (by assumption))) (fun hHeld1 => ?_)
                  clear hK K
                  (try simp only [Act.put]); (try simp only [List.setIfInBounds_toArray]); (try simp only [List.set_cons_zero, List.set_cons_succ])
                  refine wpAnyH_ready (rs := [16]) (by kernel_rfl) (by simp) ?_
                  refine AllReadyH.cons (o := _) rfl (fun K hK => ?_) AllReadyH.nil
                  refine step_append_lies _ rfl (.tmp 110) (.tmp 124) 24 rfl wc.heap.size 47 i2 _ 2 16 Tryd.underlying24 HI2.out HZ2.out HS2.out HBY2.out rfl (by decide) u1 ls.length _ rfl (HO2.out.alloc _).drew ⟨w3.heap.size, 0, none⟩ 1 1 [.int .i64 y, .bool false] rfl rfl (World.news_of_block (heap_new _ _)) (by simp [Value.oneCell']) (by decide) hm1 hm2 hm3 _ rfl ?_
                  intro g cap w5 hown hgrow hat hlt5
                  have HG5 := grown_trans (grown_ad _ _ _) hgrow
                  have hc5 := KP.out w5 HG5
                  have hf5 := KF.out w5 HG5
                  refine hK.out _ _ (by (first | assumption | exact KL.out | exact KT.out _ (grown_refl _ _) | exact KT.out _ (grown_ad _ _ _) | exact KT.out _ (by assumption) | exact KSS.out _ _ (by assumption))) (fun hHeldp => ?_)
                  clear hK K
                  (try simp only [Act.put]); (try simp only [List.setIfInBounds_toArray]); (try simp only [List.set_cons_zero, List.set_cons_succ])
                  refine wpAnyH_take (i := 17) (oi := _) (v := ?_) rfl (by kernel_rfl) (by kernel_rfl) (by kernel_rfl) (fun _ _ _ h => h) (Or.inl ⟨by rfl, ?_⟩) (by assumption) ?_
                  rotate_left
                  · (intro w0 hSw; (try dsimp only at hSw); (try simp only [List.getElem_toArray, List.getElem_cons_zero, List.getElem_cons_succ]); go_simp; try (with_reducible rfl))
                  try simp only [Act.put, List.getElem_toArray, List.getElem_cons_zero, List.getElem_cons_succ, List.setIfInBounds_toArray, List.set_cons_zero, List.set_cons_succ]
                  refine wpAnyH_ready (rs := [18]) (by kernel_rfl) (by simp) ?_
                  refine AllReadyH.cons (o := _) rfl (fun K hK => ?_) AllReadyH.nil
                  (try simp only [List.getElem_toArray, List.getElem_cons_zero, List.getElem_cons_succ])
                  go_simp
                  refine hK.out _ _ (by (first | assumption | exact KL.out | exact KT.out _ (grown_refl _ _) | exact KT.out _ (grown_ad _ _ _) | exact KT.out _ (by assumption) | exact KSS.out _ _ (by assumption))) (fun hHeld18 => ?_)
                  clear hK K
                  (try simp only [Act.put]); (try simp only [List.setIfInBounds_toArray]); (try simp only [List.set_cons_zero, List.set_cons_succ])
                  refine wpAnyH_done (by kernel_rfl) ?_ _
                  refine NoPanic.normal ?_
                  generalize hW6 : World.setCell w5 _ _ = w6
                  have hgc : wc.heap.size ≤ g := by
                    rcases hat with h | h
                    · exact (HO2.out.lt g h).1
                    · have := TW3.out.gr.size; simp at h; omega
                  obtain ⟨B', tw6⟩ := TW3.out.lat hgbl hkl (⟨y, false⟩ : LatD) HOK.out HG5 hown hgc hlt5 hW6.symm
                  have TW6 := hidden tw6
                  clear tw6 hW6 hgc hown hgrow hat hlt5 HG5 hc5 hf5 KP KF hu2 huA HF2 HO2 HOK TW3
                  try clear KT KSS KL
                  go_wp2
                  go_roundw
                  case measure => simp [intOf]; omega
                  case rel => exact ⟨k + 1, p + t.length + 1, _, _, _, _, _, by omega, by simp, by simp, HPN.out, HPL.out, TW6.out⟩
                · have hyb : M ≤ y := by omega
                  have HNOT : Hid (¬ LineB T nl M k) := fun hh => by have h2 := (lineB_lat hkl).1 hh; rw [← HPK.out] at h2; exact (latB_second HX1.out hy) h2
                  have BX := hidden (BX0.out.grown HGX.out hrl hfl hrg hfg)
                  have HBW : Hid (Below we.heap.size we w3) := HBW0.out.trans (below_grown HGX.out HBW0.out.size (fun x hx => by have := Option.some.inj hx; omega))
                  have hsX := HGX.out.size
                  have B5 := hidden (badByte_any (p : Int) w3)
                  go_wp2_with fail
                  go_at_call 31
                  refine B5.out.mono ?_
                  rintro e w8 ⟨rfl, hb8⟩
                  have HBX8 := hidden (BX.out.below hb8 (by omega) (by omega))
                  have HBW8 : Hid (Below we.heap.size we w8) := HBW.out.trans (hb8.mono HBW.out.size)
                  have r0 : w8.cell? ⟨rb, 0, none⟩ = some (.int .i64 0) := heap_cell HBX8.out.r
                  have r1 : w8.cell? ⟨rb, 1, none⟩ = some (.slice none 0 0) := heap_cell HBX8.out.r
                  have r2 : w8.cell? ⟨rb, 2, none⟩ = some (.slice none 0 0) := heap_cell HBX8.out.r
                  have r3 : w8.cell? ⟨rb, 3, none⟩ = some (.slice none 0 0) := heap_cell HBX8.out.r
                  have q0 : w8.cell? ⟨fb, 0, none⟩ = some (.int .i64 0) := heap_cell HBX8.out.f
                  have q1 : w8.cell? ⟨fb, 1, none⟩ = some (.int .i64 0) := heap_cell HBX8.out.f
                  have fr : ∀ j, w8.frozen? ⟨rb, j, none⟩ = false := fun j => heap_fz HBX8.out.r j
                  have ff : ∀ j, w8.frozen? ⟨fb, j, none⟩ = false := fun j => heap_fz HBX8.out.f j
                  have HTOLD := hidden (told_of (p : Int) HBX8.out hne HBW8.out hrw hfw)
                  clear hb8 B5
                  go_wp2
                  exact HQ.out k _ _ hlt HPre.out HNOT.out rfl rfl rfl (by rw [HPLC.out]; exact HTOLD.out)
          · have HNO : Hid (∀ xs, numsB T p = some xs → ¬ RowLen xs 1 true) := by rw [HT.out]; exact hno
            clear hno
            have HNOT : Hid (¬ LineB T nl M k) := fun hh => by have h2 := (lineB_lat hkl).1 hh; rw [← HPK.out] at h2; exact latB_no HNO.out h2
            have BX := hidden (BX0.out.grown HGX.out hrl hfl hrg hfg)
            have HBW : Hid (Below we.heap.size we w3) := HBW0.out.trans (below_grown HGX.out HBW0.out.size (fun x hx => by have := Option.some.inj hx; omega))
            have hsX := HGX.out.size
            have B5 := hidden (badByte_any (p : Int) w3)
            go_wp2_with fail
            go_at_call 31
            refine B5.out.mono ?_
            rintro e w8 ⟨rfl, hb8⟩
            have HBX8 := hidden (BX.out.below hb8 (by omega) (by omega))
            have HBW8 : Hid (Below we.heap.size we w8) := HBW.out.trans (hb8.mono HBW.out.size)
            have r0 : w8.cell? ⟨rb, 0, none⟩ = some (.int .i64 0) := heap_cell HBX8.out.r
            have r1 : w8.cell? ⟨rb, 1, none⟩ = some (.slice none 0 0) := heap_cell HBX8.out.r
            have r2 : w8.cell? ⟨rb, 2, none⟩ = some (.slice none 0 0) := heap_cell HBX8.out.r
            have r3 : w8.cell? ⟨rb, 3, none⟩ = some (.slice none 0 0) := heap_cell HBX8.out.r
            have q0 : w8.cell? ⟨fb, 0, none⟩ = some (.int .i64 0) := heap_cell HBX8.out.f
            have q1 : w8.cell? ⟨fb, 1, none⟩ = some (.int .i64 0) := heap_cell HBX8.out.f
            have fr : ∀ j, w8.frozen? ⟨rb, j, none⟩ = false := fun j => heap_fz HBX8.out.r j
            have ff : ∀ j, w8.frozen? ⟨fb, j, none⟩ = false := fun j => heap_fz HBX8.out.f j
            have HTOLD := hidden (told_of (p : Int) HBX8.out hne HBW8.out hrw hfw)
            clear hb8 B5
            go_wp2
            exact HQ.out k _ _ hlt HPre.out HNOT.out rfl rfl rfl (by rw [HPLC.out]; exact HTOLD.out)
        · have HLI := hidden hl1
          clear hl1
          have R1 := hidden (rowB_any [] (by simp) (by simp) w1.heap.size (w1.alloc (.cells #[.string (bs [])] 9)) (by simp) (cell_new rfl) true)
          have h1c : (w1.alloc (.cells #[.string (bs [])] 9)).cell? ⟨hb, 1, none⟩ = some (.int .i64 (nl : Int)) := (World.cell?_alloc_lt _ _ _ (by have := TW1.out.gr.size; show hb < _; omega)).trans ((gcell TW1.out.gr hbl hhg).trans hH1.out)
          generalize bs [] = st at *
          go_wp2_with fail
          go_at_call 25
          refine R1.out.mono ?_
          rintro e w3 ⟨v, ok, rfl, hb3, hcase⟩
          have HB13 : Hid (Below w1.heap.size w1 w3) := ((Below.refl _ _).alloc (Nat.le_refl _) _).trans (hb3.mono (by simp))
          have HGX : Hid (wc.grownBy w3 (some gb)) := (TW1.out.below HB13.out hgbl).gr
          clear R1 h1c hcase hb3
          have HNOT : Hid (¬ LineB T nl M k) := fun hh => by have h2 := (lineB_lat hkl).1 hh; rw [← HPK.out] at h2; exact (latB_no (by rw [numsB_none HLI.out]; intro xs h; cases h)) h2
          have BX := hidden (BX0.out.grown HGX.out hrl hfl hrg hfg)
          have HBW : Hid (Below we.heap.size we w3) := HBW0.out.trans (below_grown HGX.out HBW0.out.size (fun x hx => by have := Option.some.inj hx; omega))
          have hsX := HGX.out.size
          have B5 := hidden (badByte_any (p : Int) w3)
          go_wp2_with fail
          go_at_call 31
          refine B5.out.mono ?_
          rintro e w8 ⟨rfl, hb8⟩
          have HBX8 := hidden (BX.out.below hb8 (by omega) (by omega))
          have HBW8 : Hid (Below we.heap.size we w8) := HBW.out.trans (hb8.mono HBW.out.size)
          have r0 : w8.cell? ⟨rb, 0, none⟩ = some (.int .i64 0) := heap_cell HBX8.out.r
          have r1 : w8.cell? ⟨rb, 1, none⟩ = some (.slice none 0 0) := heap_cell HBX8.out.r
          have r2 : w8.cell? ⟨rb, 2, none⟩ = some (.slice none 0 0) := heap_cell HBX8.out.r
          have r3 : w8.cell? ⟨rb, 3, none⟩ = some (.slice none 0 0) := heap_cell HBX8.out.r
          have q0 : w8.cell? ⟨fb, 0, none⟩ = some (.int .i64 0) := heap_cell HBX8.out.f
          have q1 : w8.cell? ⟨fb, 1, none⟩ = some (.int .i64 0) := heap_cell HBX8.out.f
          have fr : ∀ j, w8.frozen? ⟨rb, j, none⟩ = false := fun j => heap_fz HBX8.out.r j
          have ff : ∀ j, w8.frozen? ⟨fb, j, none⟩ = false := fun j => heap_fz HBX8.out.f j
          have HTOLD := hidden (told_of (p : Int) HBX8.out hne HBW8.out hrw hfw)
          clear hb8 B5
          go_wp2
          exact HQ.out k _ _ hlt HPre.out HNOT.out rfl rfl rfl (by rw [HPLC.out]; exact HTOLD.out)
      · have hkn := hkl
        replace hkl : nl ≤ k := by omega
        have hm1 : os.length + 1 ≤ maxLen := by simp only [maxLen]; omega
        have hm2 : (os.length + 1) * 8 ≤ 140737488355328 := by omega
        have hklI : ¬ ((k : Int) < (nl : Int)) := by omega
        go_wp2_with fail
        go_at_call 30
        refine LN.out.mono ?_
        rintro e w1 ⟨hcl, hb1⟩
        have TW1 := hidden (TW.out.below hb1 hgbl)
        have hs1 := TW1.out.gr.size
        clear hb1 LN c1 c2 TW
        rcases hcl with ⟨t, hl1, rfl⟩ | ⟨hl1, rfl⟩
        · have HLI := hidden hl1
          have HT10 : Hid (10 ∉ t) := (lineAt_inv hl1).1
          have htl := lineAt_len hl1
          rw [HTL.out] at htl
          have HPN : Hid (p + t.length + 1 = offL T (k + 1)) := by show _ = _; rw [offL_next, ← HPK.out, nextB_some hl1]
          have HPL : Hid (p + t.length + 1 ≤ tl) := htl
          clear hl1
          have HT : Hid (numsB T p = lineNums t) := numsB_of HLI.out
          have R1 := hidden (rowB_any t HT10.out (by omega) w1.heap.size (w1.alloc (.cells #[.string (bs t)] 9)) (by simp) (cell_new rfl) false)
          have h1c : (w1.alloc (.cells #[.string (bs t)] 9)).cell? ⟨hb, 1, none⟩ = some (.int .i64 (nl : Int)) := (World.cell?_alloc_lt _ _ _ (by have := TW1.out.gr.size; show hb < _; omega)).trans ((gcell TW1.out.gr hbl hhg).trans hH1.out)
          generalize bs t = st at *
          go_wp2_with fail
          go_at_call 25
          refine R1.out.mono ?_
          rintro e w3 ⟨v, ok, rfl, hb3, hcase⟩
          have HB13 : Hid (Below w1.heap.size w1 w3) := ((Below.refl _ _).alloc (Nat.le_refl _) _).trans (hb3.mono (by simp))
          have TW3 := hidden (TW1.out.below HB13.out hgbl)
          have HGX : Hid (wc.grownBy w3 (some gb)) := TW3.out.gr
          have HO0 := hidden (TW1.out.o3)
          have h1d : w3.cell? ⟨hb, 1, none⟩ = some (.int .i64 (nl : Int)) := (gcell TW3.out.gr hbl hhg).trans hH1.out
          have hs13 := HB13.out.size
          have hs3a : w1.heap.size + 1 ≤ w3.heap.size := by have := hb3.size; simpa using this
          clear R1 h1c
          rcases hcase with ⟨rfl, xs, hx1, hx2, hx3⟩ | ⟨rfl, hno⟩
          · obtain ⟨y, rfl⟩ := row_one hx3
            clear hx3
            obtain ⟨lb, lc, rfl, hlb, hlb2, hlc, hel⟩ := row_els hx2 (by simp)
            have d0 := hel 0 y rfl
            have HX1 : Hid (numsB T p = some [y]) := by show _ = _; rw [HT.out]; exact hx1
            simp only [List.length_cons, List.length_nil, Nat.zero_add]
            clear hx1 hx2 hel
            by_cases hy : y < M
            · have hyb : ¬ M ≤ y := by omega
              have l0 := d0
              have hlb3 : w1.heap.size ≤ lb := by have : (w1.alloc (.cells #[.string st] 9)).heap.size ≤ lb := hlb; simp at this; omega
              have HOK : Hid (OutB T (offL T k) M y) := by rw [← HPK.out]; exact ⟨HX1.out, hy⟩
              have HO2 := hidden TW3.out.o3
              have hu2 := TW3.out.c3
              have HF2 : Hid (∀ j, w3.frozen? ⟨gb, j, none⟩ = false) := TW3.out.fz
              have hgl2 : gb < w3.heap.size := by have := TW3.out.gr.size; omega
              have far : some gb ≠ u3.ownBlock := fun e => by have := (HO2.out.lt gb e.symm).1; have := TW3.out.hB; omega
              have hul : some lb ≠ u3.ownBlock := fun e => by have := (HO0.out.lt lb e.symm).2; omega
              have KL : Hid ((fun w' => w'.cell? ⟨lb, 0, none⟩ = some (.int .i64 y)) w3.drew) := l0
              have KT : Hid (∀ w', w3.grownBy w' u3.ownBlock → (fun w' => w'.cell? ⟨lb, 0, none⟩ = some (.int .i64 y)) w') := fun w' hg => (hg.cell_far ⟨lb, 0, none⟩ (by show lb < _; omega) hul).trans l0
              have KSS : Hid (∀ (w' : World) (xv : Value), (fun w' => w'.cell? ⟨lb, 0, none⟩ = some (.int .i64 y)) w' → (fun w' => w'.cell? ⟨lb, 0, none⟩ = some (.int .i64 y)) (w'.setCell ⟨gb, 3, none⟩ xv)) := fun w' xv hh => (World.cell?_setCell_far w' ⟨gb, 3, none⟩ ⟨lb, 0, none⟩ xv (by show gb ≠ lb; omega)).trans hh
              have hm3 : B ≤ ((w3.alloc (.cells #[.int .i64 y] 3)).drew).heap.size := by have := TW3.out.gr.size; have := TW3.out.hB2; simp; omega
              have KP : Hid (∀ w', w3.grownBy w' u3.ownBlock → w'.cell? ⟨gb, 3, none⟩ = some u3) := fun w' hg => (hg.cell_far ⟨gb, 3, none⟩ hgl2 far).trans hu2
              have KF : Hid (∀ w', w3.grownBy w' u3.ownBlock → ∀ j, w'.frozen? ⟨gb, j, none⟩ = false) := fun w' hg j => (hg.frozen_far ⟨gb, j, none⟩ hgl2 far).trans (HF2.out j)
              have huA : (w3.alloc (.cells #[.int .i64 y] 3)).cell? ⟨gb, 3, none⟩ = some u3 := KP.out _ (World.grownBy_alloc _ _ _)
              go_upto_region 16 with fail
              refine wp_region_noPanic ?_
              refine wp_region_held_drew (S := (fun w' => w'.cell? ⟨lb, 0, none⟩ = some (.int .i64 y))) (by kernel_rfl) (by (first | assumption | exact KL.out | exact KT.out _ (grown_refl _ _) | exact KT.out _ (grown_ad _ _ _) | exact KT.out _ (by assumption) | exact KSS.out _ _ (by assumption))) (fun hHeld => ?_)
              refine wpAnyH_take (i := 0) (oi := _) (v := ?_) rfl (by kernel_rfl) (by kernel_rfl) (by kernel_rfl) (fun _ _ _ h => h) (Or.inl ⟨by rfl, ?_⟩) (by assumption) ?_
              rotate_left
              · (intro w0 hSw; (try dsimp only at hSw); (try simp only [List.getElem_toArray, List.getElem_cons_zero]); go_simp; try (with_reducible rfl))
              try simp only [Act.put, List.getElem_toArray, List.getElem_cons_zero, List.setIfInBounds_toArray, List.set_cons_zero, List.set_cons_succ]
              refine wpAnyH_take (i := 2) (oi := _) (v := ?_) rfl (by kernel_rfl) (by kernel_rfl) (by kernel_rfl) (fun _ _ _ h => h) (Or.inl ⟨by rfl, ?_⟩) (by assumption) ?_
              rotate_left
              · (intro w0 hSw; (try dsimp only at hSw); (try simp only [List.getElem_toArray, List.getElem_cons_zero, List.getElem_cons_succ]); go_simp; try (with_reducible rfl))
              try simp only [Act.put, List.getElem_toArray, List.getElem_cons_zero, List.getElem_cons_succ, List.setIfInBounds_toArray, List.set_cons_zero, List.set_cons_succ]
              refine wpAnyH_take (i := 3) (oi := _) (v := ?_) rfl (by kernel_rfl) (by kernel_rfl) (by kernel_rfl) (fun _ _ _ h => h) (Or.inl ⟨by rfl, ?_⟩) (by assumption) ?_
              rotate_left
              · (intro w0 hSw; (try dsimp only at hSw); (try simp only [List.getElem_toArray, List.getElem_cons_zero, List.getElem_cons_succ]); go_simp; try (with_reducible rfl))
              try simp only [Act.put, List.getElem_toArray, List.getElem_cons_zero, List.getElem_cons_succ, List.setIfInBounds_toArray, List.set_cons_zero, List.set_cons_succ]
              refine wpAnyH_take (i := 4) (oi := _) (v := ?_) rfl (by kernel_rfl) (by kernel_rfl) (by kernel_rfl) (fun _ _ _ h => h) (Or.inl ⟨by rfl, ?_⟩) (by assumption) ?_
              rotate_left
              · (intro w0 hSw; (try dsimp only at hSw); (try simp only [List.getElem_toArray, List.getElem_cons_zero, List.getElem_cons_succ]); go_simp; try (with_reducible rfl))
              try simp only [Act.put, List.getElem_toArray, List.getElem_cons_zero, List.getElem_cons_succ, List.setIfInBounds_toArray, List.set_cons_zero, List.set_cons_succ]
              refine wpAnyH_ready (rs := [1, 5]) (by kernel_rfl) (by simp) ?_
              refine AllReadyH.cons (o := _) rfl (fun K hK => ?_) ?_
              · (try simp only [List.getElem_toArray, List.getElem_cons_zero, List.getElem_cons_succ])
                go_simp
                refine hK.out _ _ (by (first | assumption | exact KL.out | exact KT.out _ (grown_refl _ _) | exact KT.out _ (grown_ad _ _ _) | exact KT.out _ (by assumption) | exact KSS.out _ _ (by assumption))) (fun hHeld1 => ?_)
                clear hK K
                (try simp only [Act.put]); (try simp only [List.setIfInBounds_toArray]); (try simp only [List.set_cons_zero, List.set_cons_succ])
                refine wpAnyH_ready (rs := [5]) (by kernel_rfl) (by simp) ?_
                refine AllReadyH.cons (o := _) rfl (fun K hK => ?_) AllReadyH.nil
                (try simp only [List.getElem_toArray, List.getElem_cons_zero, List.getElem_cons_succ])
                go_simp
                refine hK.out _ _ (by (first | assumption | exact KL.out | exact KT.out _ (grown_refl _ _) | exact KT.out _ (grown_ad _ _ _) | exact KT.out _ (by assumption) | exact KSS.out _ _ (by assumption))) (fun hHeld5 => ?_)
                clear hK K
                (try simp only [Act.put]); (try simp only [List.setIfInBounds_toArray]); (try simp only [List.set_cons_zero, List.set_cons_succ])
                refine wpAnyH_ready (rs := [6]) (by kernel_rfl) (by simp) ?_
                refine AllReadyH.cons (o := _) rfl (fun K hK => ?_) AllReadyH.nil
                refine step_append_lies _ rfl (.tmp 128) (.tmp 132) 26 rfl B 3 i1 _ 1 8 Tryd.underlying26 HI1.out HZ1.out HS1.out HBY1.out rfl (by decide) u3 os.length _ rfl (HO2.out.alloc _).drew ⟨w3.heap.size, 0, none⟩ 1 1 [.int .i64 y] rfl rfl (World.news_of_block (heap_new _ _)) (by simp [Value.oneCell']) (by decide) hm1 hm2 hm3 _ rfl ?_
                intro g cap w5 hown hgrow hat hlt5
                have HG5 := grown_trans (grown_ad _ _ _) hgrow
                have hc5 := KP.out w5 HG5
                have hf5 := KF.out w5 HG5
                refine hK.out _ _ (by (first | assumption | exact KL.out | exact KT.out _ (grown_refl _ _) | exact KT.out _ (grown_ad _ _ _) | exact KT.out _ (by assumption) | exact KSS.out _ _ (by assumption))) (fun hHeldp => ?_)
                clear hK K
                (try simp only [Act.put]); (try simp only [List.setIfInBounds_toArray]); (try simp only [List.set_cons_zero, List.set_cons_succ])
                refine wpAnyH_take (i := 7) (oi := _) (v := ?_) rfl (by kernel_rfl) (by kernel_rfl) (by kernel_rfl) (fun _ _ _ h => h) (Or.inl ⟨by rfl, ?_⟩) (by assumption) ?_
                rotate_left
                · (intro w0 hSw; (try dsimp only at hSw); (try simp only [List.getElem_toArray, List.getElem_cons_zero, List.getElem_cons_succ]); go_simp; try (with_reducible rfl))
                try simp only [Act.put, List.getElem_toArray, List.getElem_cons_zero, List.getElem_cons_succ, List.setIfInBounds_toArray, List.set_cons_zero, List.set_cons_succ]
                refine wpAnyH_ready (rs := [8]) (by kernel_rfl) (by simp) ?_
                refine AllReadyH.cons (o := _) rfl (fun K hK => ?_) AllReadyH.nil
                (try simp only [List.getElem_toArray, List.getElem_cons_zero, List.getElem_cons_succ])
                go_simp
                refine hK.out _ _ (by (first | assumption | exact KL.out | exact KT.out _ (grown_refl _ _) | exact KT.out _ (grown_ad _ _ _) | exact KT.out _ (by assumption) | exact KSS.out _ _ (by assumption))) (fun hHeld8 => ?_)
                clear hK K
                (try simp only [Act.put]); (try simp only [List.setIfInBounds_toArray]); (try simp only [List.set_cons_zero, List.set_cons_succ])
                refine wpAnyH_done (by kernel_rfl) ?_ _
                refine NoPanic.normal ?_
                generalize hW6 : World.setCell w5 _ _ = w6
                have hgc : B ≤ g := by
                  rcases hat with h | h
                  · exact (HO2.out.lt g h).1
                  · have := TW3.out.hB2; simp at h; omega
                obtain ⟨B', tw6⟩ := TW3.out.out hgbl hkl y HOK.out HG5 hown hgc hW6.symm
                have TW6 := hidden tw6
                clear tw6 hW6 hgc hown hgrow hat hlt5 HG5 hc5 hf5 KP KF hu2 huA HF2 HO2 HOK TW3
                try clear KT KSS KL
                go_wp2
                go_roundw
                case measure => simp [intOf]; omega
                case rel => exact ⟨k + 1, p + t.length + 1, _, _, _, _, _, by omega, by simp, by simp, HPN.out, HPL.out, TW6.out⟩
              refine AllReadyH.cons (o := _) rfl (fun K hK => ?_) AllReadyH.nil
              (try simp only [List.getElem_toArray, List.getElem_cons_zero, List.getElem_cons_succ])
              go_simp
              refine hK.out _ _ (by (first | assumption | exact KL.out | exact KT.out _ (grown_refl _ _) | exact KT.out _ (grown_ad _ _ _) | exact KT.out _ (by assumption) | exact KSS.out _ _ (by assumption))) (fun hHeld5 => ?_)
              clear hK K
              (try simp only [Act.put]); (try simp only [List.setIfInBounds_toArray]); (try simp only [List.set_cons_zero, List.set_cons_succ])
              refine wpAnyH_ready (rs := [1]) (by kernel_rfl) (by simp) ?_
              refine AllReadyH.cons (o := _) rfl (fun K hK => ?_) AllReadyH.nil
              (try simp only [List.getElem_toArray, List.getElem_cons_zero, List.getElem_cons_succ])
              go_simp
              refine hK.out _ _ (by (first | assumption | exact KL.out | exact KT.out _ (grown_refl _ _) | exact KT.out _ (grown_ad _ _ _) | exact KT.out _ (by assumption) | exact KSS.out _ _ (by assumption))) (fun hHeld1 => ?_)
              clear hK K
              (try simp only [Act.put]); (try simp only [List.setIfInBounds_toArray]); (try simp only [List.set_cons_zero, List.set_cons_succ])
              refine wpAnyH_ready (rs := [6]) (by kernel_rfl) (by simp) ?_
              refine AllReadyH.cons (o := _) rfl (fun K hK => ?_) AllReadyH.nil
              refine step_append_lies _ rfl (.tmp 128) (.tmp 132) 26 rfl B 3 i1 _ 1 8 Tryd.underlying26 HI1.out HZ1.out HS1.out HBY1.out rfl (by decide) u3 os.length _ rfl (HO2.out.alloc _).drew ⟨w3.heap.size, 0, none⟩ 1 1 [.int .i64 y] rfl rfl (World.news_of_block (heap_new _ _)) (by simp [Value.oneCell']) (by decide) hm1 hm2 hm3 _ rfl ?_
              intro g cap w5 hown hgrow hat hlt5
              have HG5 := grown_trans (grown_ad _ _ _) hgrow
              have hc5 := KP.out w5 HG5
              have hf5 := KF.out w5 HG5
              refine hK.out _ _ (by (first | assumption | exact KL.out | exact KT.out _ (grown_refl _ _) | exact KT.out _ (grown_ad _ _ _) | exact KT.out _ (by assumption) | exact KSS.out _ _ (by assumption))) (fun hHeldp => ?_)
              clear hK K
              (try simp only [Act.put]); (try simp only [List.setIfInBounds_toArray]); (try simp only [List.set_cons_zero, List.set_cons_succ])
              refine wpAnyH_take (i := 7) (oi := _) (v := ?_) rfl (by kernel_rfl) (by kernel_rfl) (by kernel_rfl) (fun _ _ _ h => h) (Or.inl ⟨by rfl, ?_⟩) (by assumption) ?_
              rotate_left
              · (intro w0 hSw; (try dsimp only at hSw); (try simp only [List.getElem_toArray, List.getElem_cons_zero, List.getElem_cons_succ]); go_simp; try (with_reducible rfl))
              try simp only [Act.put, List.getElem_toArray, List.getElem_cons_zero, List.getElem_cons_succ, List.setIfInBounds_toArray, List.set_cons_zero, List.set_cons_succ]
              refine wpAnyH_ready (rs := [8]) (by kernel_rfl) (by simp) ?_
              refine AllReadyH.cons (o := _) rfl (fun K hK => ?_) AllReadyH.nil
              (try simp only [List.getElem_toArray, List.getElem_cons_zero, List.getElem_cons_succ])
              go_simp
              refine hK.out _ _ (by (first | assumption | exact KL.out | exact KT.out _ (grown_refl _ _) | exact KT.out _ (grown_ad _ _ _) | exact KT.out _ (by assumption) | exact KSS.out _ _ (by assumption))) (fun hHeld8 => ?_)
              clear hK K
              (try simp only [Act.put]); (try simp only [List.setIfInBounds_toArray]); (try simp only [List.set_cons_zero, List.set_cons_succ])
              refine wpAnyH_done (by kernel_rfl) ?_ _
              refine NoPanic.normal ?_
              generalize hW6 : World.setCell w5 _ _ = w6
              have hgc : B ≤ g := by
                rcases hat with h | h
                · exact (HO2.out.lt g h).1
                · have := TW3.out.hB2; simp at h; omega
              obtain ⟨B', tw6⟩ := TW3.out.out hgbl hkl y HOK.out HG5 hown hgc hW6.symm
              have TW6 := hidden tw6
              clear tw6 hW6 hgc hown hgrow hat hlt5 HG5 hc5 hf5 KP KF hu2 huA HF2 HO2 HOK TW3
              try clear KT KSS KL
              go_wp2
              go_roundw
              case measure => simp [intOf]; omega
              case rel => exact ⟨k + 1, p + t.length + 1, _, _, _, _, _, by omega, by simp, by simp, HPN.out, HPL.out, TW6.out⟩
            · have hyb : M ≤ y := by omega
              have HNOT : Hid (¬ LineB T nl M k) := fun hh => by have h2 := (lineB_out hkl).1 hh; rw [← HPK.out] at h2; exact (outB_not HX1.out hy) h2
              have BX := hidden (BX0.out.grown HGX.out hrl hfl hrg hfg)
              have HBW : Hid (Below we.heap.size we w3) := HBW0.out.trans (below_grown HGX.out HBW0.out.size (fun x hx => by have := Option.some.inj hx; omega))
              have hsX := HGX.out.size
              have B5 := hidden (badByte_any (p : Int) w3)
              go_wp2_with fail
              go_at_call 31
              refine B5.out.mono ?_
              rintro e w8 ⟨rfl, hb8⟩
              have HBX8 := hidden (BX.out.below hb8 (by omega) (by omega))
              have HBW8 : Hid (Below we.heap.size we w8) := HBW.out.trans (hb8.mono HBW.out.size)
              have r0 : w8.cell? ⟨rb, 0, none⟩ = some (.int .i64 0) := heap_cell HBX8.out.r
              have r1 : w8.cell? ⟨rb, 1, none⟩ = some (.slice none 0 0) := heap_cell HBX8.out.r
              have r2 : w8.cell? ⟨rb, 2, none⟩ = some (.slice none 0 0) := heap_cell HBX8.out.r
              have r3 : w8.cell? ⟨rb, 3, none⟩ = some (.slice none 0 0) := heap_cell HBX8.out.r
              have q0 : w8.cell? ⟨fb, 0, none⟩ = some (.int .i64 0) := heap_cell HBX8.out.f
              have q1 : w8.cell? ⟨fb, 1, none⟩ = some (.int .i64 0) := heap_cell HBX8.out.f
              have fr : ∀ j, w8.frozen? ⟨rb, j, none⟩ = false := fun j => heap_fz HBX8.out.r j
              have ff : ∀ j, w8.frozen? ⟨fb, j, none⟩ = false := fun j => heap_fz HBX8.out.f j
              have HTOLD := hidden (told_of (p : Int) HBX8.out hne HBW8.out hrw hfw)
              clear hb8 B5
              go_wp2
              exact HQ.out k _ _ hlt HPre.out HNOT.out rfl rfl rfl (by rw [HPLC.out]; exact HTOLD.out)
          · have HNO : Hid (∀ xs, numsB T p = some xs → ¬ RowLen xs 1 false) := by rw [HT.out]; exact hno
            clear hno
            have HNOT : Hid (¬ LineB T nl M k) := fun hh => by have h2 := (lineB_out hkl).1 hh; rw [← HPK.out] at h2; exact (fun ⟨d, h1, _⟩ => HNO.out _ h1 (Or.inl rfl)) h2
            have BX := hidden (BX0.out.grown HGX.out hrl hfl hrg hfg)
            have HBW : Hid (Below we.heap.size we w3) := HBW0.out.trans (below_grown HGX.out HBW0.out.size (fun x hx => by have := Option.some.inj hx; omega))
            have hsX := HGX.out.size
            have B5 := hidden (badByte_any (p : Int) w3)
            go_wp2_with fail
            go_at_call 31
            refine B5.out.mono ?_
            rintro e w8 ⟨rfl, hb8⟩
            have HBX8 := hidden (BX.out.below hb8 (by omega) (by omega))
            have HBW8 : Hid (Below we.heap.size we w8) := HBW.out.trans (hb8.mono HBW.out.size)
            have r0 : w8.cell? ⟨rb, 0, none⟩ = some (.int .i64 0) := heap_cell HBX8.out.r
            have r1 : w8.cell? ⟨rb, 1, none⟩ = some (.slice none 0 0) := heap_cell HBX8.out.r
            have r2 : w8.cell? ⟨rb, 2, none⟩ = some (.slice none 0 0) := heap_cell HBX8.out.r
            have r3 : w8.cell? ⟨rb, 3, none⟩ = some (.slice none 0 0) := heap_cell HBX8.out.r
            have q0 : w8.cell? ⟨fb, 0, none⟩ = some (.int .i64 0) := heap_cell HBX8.out.f
            have q1 : w8.cell? ⟨fb, 1, none⟩ = some (.int .i64 0) := heap_cell HBX8.out.f
            have fr : ∀ j, w8.frozen? ⟨rb, j, none⟩ = false := fun j => heap_fz HBX8.out.r j
            have ff : ∀ j, w8.frozen? ⟨fb, j, none⟩ = false := fun j => heap_fz HBX8.out.f j
            have HTOLD := hidden (told_of (p : Int) HBX8.out hne HBW8.out hrw hfw)
            clear hb8 B5
            go_wp2
            exact HQ.out k _ _ hlt HPre.out HNOT.out rfl rfl rfl (by rw [HPLC.out]; exact HTOLD.out)
        · have HLI := hidden hl1
          clear hl1
          have R1 := hidden (rowB_any [] (by simp) (by simp) w1.heap.size (w1.alloc (.cells #[.string (bs [])] 9)) (by simp) (cell_new rfl) false)
          have h1c : (w1.alloc (.cells #[.string (bs [])] 9)).cell? ⟨hb, 1, none⟩ = some (.int .i64 (nl : Int)) := (World.cell?_alloc_lt _ _ _ (by have := TW1.out.gr.size; show hb < _; omega)).trans ((gcell TW1.out.gr hbl hhg).trans hH1.out)
          generalize bs [] = st at *
          go_wp2_with fail
          go_at_call 25
          refine R1.out.mono ?_
          rintro e w3 ⟨v, ok, rfl, hb3, hcase⟩
          have HB13 : Hid (Below w1.heap.size w1 w3) := ((Below.refl _ _).alloc (Nat.le_refl _) _).trans (hb3.mono (by simp))
          have HGX : Hid (wc.grownBy w3 (some gb)) := (TW1.out.below HB13.out hgbl).gr
          clear R1 h1c hcase hb3
          have HNOT : Hid (¬ LineB T nl M k) := fun hh => by have h2 := (lineB_out hkl).1 hh; rw [← HPK.out] at h2; exact (fun ⟨d, h1, _⟩ => by rw [numsB_none HLI.out] at h1; cases h1) h2
          have BX := hidden (BX0.out.grown HGX.out hrl hfl hrg hfg)
          have HBW : Hid (Below we.heap.size we w3) := HBW0.out.trans (below_grown HGX.out HBW0.out.size (fun x hx => by have := Option.some.inj hx; omega))
          have hsX := HGX.out.size
          have B5 := hidden (badByte_any (p : Int) w3)
          go_wp2_with fail
          go_at_call 31
          refine B5.out.mono ?_
          rintro e w8 ⟨rfl, hb8⟩
          have HBX8 := hidden (BX.out.below hb8 (by omega) (by omega))
          have HBW8 : Hid (Below we.heap.size we w8) := HBW.out.trans (hb8.mono HBW.out.size)
          have r0 : w8.cell? ⟨rb, 0, none⟩ = some (.int .i64 0) := heap_cell HBX8.out.r
          have r1 : w8.cell? ⟨rb, 1, none⟩ = some (.slice none 0 0) := heap_cell HBX8.out.r
          have r2 : w8.cell? ⟨rb, 2, none⟩ = some (.slice none 0 0) := heap_cell HBX8.out.r
          have r3 : w8.cell? ⟨rb, 3, none⟩ = some (.slice none 0 0) := heap_cell HBX8.out.r
          have q0 : w8.cell? ⟨fb, 0, none⟩ = some (.int .i64 0) := heap_cell HBX8.out.f
          have q1 : w8.cell? ⟨fb, 1, none⟩ = some (.int .i64 0) := heap_cell HBX8.out.f
          have fr : ∀ j, w8.frozen? ⟨rb, j, none⟩ = false := fun j => heap_fz HBX8.out.r j
          have ff : ∀ j, w8.frozen? ⟨fb, j, none⟩ = false := fun j => heap_fz HBX8.out.f j
          have HTOLD := hidden (told_of (p : Int) HBX8.out hne HBW8.out hrw hfw)
          clear hb8 B5
          go_wp2
          exact HQ.out k _ _ hlt HPre.out HNOT.out rfl rfl rfl (by rw [HPLC.out]; exact HTOLD.out)
    · have hkN : k = nl + no := by omega
      subst hkN
      have hge : ¬ ((((nl + no : Nat) : Int)) < (nl : Int) + (no : Int)) := by omega
      have hpk := HPK.out
      subst hpk
      go_wp2
      exact HK.out _ _ _ _ _ _ _ _ _ _ _ _ _ _ _ _ _ _ _ _ _ _ _ _ _ _ _ _ _ _ _ _ _ _ _ _ _ _ _ _ _ _ _ _ _ _ _ _ _ _ _ _ _ _ _ _ _ _ _ _ _ _ _ _ _ _ _ _ _ _ _ _ _ _ _ _ _ _ _ _ _ ⟨ls, os, u1, u3, B, HPT.out, TW.out⟩


end Go.Proofs.YtdiahnommkhkiaaDoor
