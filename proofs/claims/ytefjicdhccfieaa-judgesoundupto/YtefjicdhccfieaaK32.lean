import Derived.Test.YtefjicdhccfieaaK01
import Derived.Test.YtefjicdhccfieaaK31
set_option maxRecDepth 100000
set_option maxHeartbeats 16000000
namespace Go.Proofs.Ytefjicdhccfieaa
open Go.RowKit
def WIN (F : List (List Int)) (L A : Int → Prop) (b B : Nat) (w : World) (bb : Nat) (st : St) (sl : Site → Slot) (wb ci t l kept i : Nat) (w' : World) : Prop :=
 ∃ st' sl' o' c', WkM B w' bb st' sl' wb ci o' ∧ Wk F L A b st' t l kept i ∧ st'.cls[ci]? = some c' ∧ o' ∈ c'.l ∧ (o' ∈ st'.trail ∨ ∀ m, m ∈ c'.l → m ≠ o' → oppN m ∈ st'.trail) ∧ sl' (.wl t l) = sl (.wl t l) ∧ WnR st st' ∧ st'.W = st.W ∧ Below B w w'
def WIX (F : List (List Int)) (L A : Int → Prop) (b B : Nat) (w : World) (bb : Nat) (st : St) (sl : Site → Slot) (t l kept i : Nat) (w' : World) : Prop :=
 ∃ st' sl', Rows' B w' bb (fields sl' st') sl' ∧ Link sl' st' ∧ Wk F L A b st' t l kept (i + 1) ∧ sl' (.wl t l) = sl (.wl t l) ∧ WnR st st' ∧ st'.W t l = st.W t l ∧ Below B w w'
theorem wake_swapped {F : List (List Int)} {L A : Int → Prop} {b B : Nat} {w w' : World} {bb : Nat} {st : St} {sl : Site → Slot} {wb ci o t l kept i : Nat} (M : WkM B w bb st sl wb ci o) (hW : Wk F L A b st t l kept i) {c : BC} (hc : st.cls[ci]? = some c) (hwt : wt c l) (lb lcap a0 a1 : Nat) (hlv : (sl (.lits ci)).v = .slice (some ⟨lb, 0, none⟩) (sl (.lits ci)).n lcap) (h0 : c.l[0]? = some a0) (h1 : c.l[1]? = some a1)
  (hsw : (a0 ≠ l ∧ w' = w) ∨ (a0 = l ∧ ∃ wd, Below w.heap.size w wd ∧ w' = (wd.setCell ⟨lb, 0, none⟩ (.int .i32 (a1 : Int))).setCell ⟨lb, 1, none⟩ (.int .i32 (l : Int)))) :
  ∃ st1 sl1 c1, WkM B w' bb st1 sl1 wb ci o ∧ Wk F L A b st1 t l kept i ∧ st1.cls[ci]? = some c1 ∧ c1.l[1]? = some l ∧ c1.tier = c.tier ∧ st1.W = st.W ∧ sl1 (.wl t l) = sl (.wl t l) ∧ sl1 .clauses = sl .clauses ∧ WnR st st1 ∧ st1.trail = st.trail ∧ st1.held = st.held ∧ st1.cls.length = st.cls.length ∧ Below B w w' := by
 rcases hsw with ⟨h2, rfl⟩ | ⟨rfl, wd, hb, rfl⟩
 ·refine ⟨st, sl, c, M, hW, hc, ?_, rfl, rfl, rfl, rfl, WnR.refl _, rfl, rfl, rfl, Below.refl _ _⟩
  rcases hwt with h3 | h3
  ·rw [h0] at h3; cases h3; exact absurd rfl h2
  ·exact h3
 ·have M1 := M.rest hb
  obtain ⟨M2, B2⟩ := M1.swap hc hlv h0 h1
  refine ⟨_, _, _, M2, hW.swap hc, mod_same hc, ?_, rfl, rfl, setS_other _ _ (by intro e; cases e), setS_other _ _ (by intro e; cases e), WnR.list _ _ _, rfl, rfl, by simp [St.listAt], (hb.mono M.R.size).trans B2⟩
  have hl1 : 1 < c.l.length := (List.getElem?_eq_some_iff.1 h1).1
  show (swp c.l 0 1)[1]? = _
  rw [swp_get _ (by omega) hl1]
  exact h0
theorem wakeIf (F : List (List Int)) (L A : Int → Prop) (b B : Nat) (w : World) (bb : Nat) (st : St) (sl : Site → Slot) (wb ci o t l kept i : Nat) (M : WkM B w bb st sl wb ci o) (hW : Wk F L A b st t l kept i) (he : (st.W t l)[i]? = some (ci, o)) (c : BC) (hc : st.cls[ci]? = some c) (ht : c.tier = t) (hncl : st.cls.length ≤ 67108864) (K' : Act → World → Prop) (Q0 : Exit → Act → World → Prop) (x3 x4 x5 x6 x7 x8 x9 x11 x12 x13 x14 x15 x16 x17 x18 x19 x20 x21 x22 x23 x24 x25 x26 x27 x28 x29 x30 x31 x32 x33 x34 x35 x36 x37 x38 x39 x40 x41 x42 x43 x44 x45 x46 x47 x48 x49 x50 x51 x52 x53 x54 x55 x56 x57 x58 x59 x60 x61 x62 x63 x64 x65 x66 x67 x68 x69 x70 x71 x72 x73 x74 x75 x76 x77 x78 x79 x80 x81 x82 x83 x84 x85 x86 x87 x88 x89 x90 x91 x92 x93 x94 x95 x96 x97 x98 x99 x100 x101 x102 x103 x104 x105 x106 x107 x108 x109 x110 x111 x112 x113 x114 x115 x116 x117 x118 x119 x120 x121 x122 x123 x124 x125 x126 x127 x128 x129 x130 x131 x132 x133 x134 x135 x136 x137 x138 x139 x140 x141 x142 x143 x144 x145 x146 x147 x148 x149 x150 x151 x152 x153 x154 x155 x156 x157 x158 x159 x160 x161 x162 x163 x164 x165 x166 x167 x168 x169 x170 x171 x172 x173 x174 x175 x176 x177 x178 x179 x180 x181 x182 x183 x184 x185 x186 x187 x188 x189 x190 x191 x192 x193 x194 x195 x196 x197 x198 x199 x200 x201 x202 x203 x204 x205 x206 x207 x208 x209 x210 x211 x212 x213 x214 x215 x216 x217 : Value)
  (HK : Hid (∀ (w' : World) (s11 s42 s43 s44 s45 s46 s47 s48 s49 s50 s51 s52 s53 s54 s55 s56 s57 s58 s59 s60 s61 s62 s63 s64 s65 s66 s67 s68 s69 s70 s71 s72 s73 s74 s75 s76 s77 s78 s79 s80 s81 s82 s83 s84 s85 s86 s87 s88 s89 s90 s91 s92 s93 s94 s95 s96 s97 s98 s99 s100 s101 s102 s103 s104 s105 s106 s107 s108 s109 s110 s111 s112 s113 s114 s115 s116 s117 s118 s119 s120 s121 s122 s123 s124 s125 s126 s127 s128 s129 s130 s131 s132 s133 s134 s135 s136 s137 s138 s139 s140 s141 s142 s143 s144 s145 s146 s147 s148 s149 s150 s151 s152 s153 s154 s155 s156 s157 s158 : Value), WIN F L A b B w bb st sl wb ci t l kept i w' → K' ⟨#[.pointer (some ⟨bb, 0, none⟩), .int .i32 (l : Int), .int .i64 (t : Int), x3, x4, x5, x6, x7, x8, x9, .pointer (some ⟨wb, 0, none⟩), s11, x12, x13, x14, x15, x16, x17, x18, x19, x20, x21, x22, x23, x24, x25, x26, x27, x28, x29, x30, x31, x32, x33, x34, x35, x36, x37, x38, x39, x40, x41, s42, s43, s44, s45, s46, s47, s48, s49, s50, s51, s52, s53, s54, s55, s56, s57, s58, s59, s60, s61, s62, s63, s64, s65, s66, s67, s68, s69, s70, s71, s72, s73, s74, s75, s76, s77, s78, s79, s80, s81, s82, s83, s84, s85, s86, s87, s88, s89, s90, s91, s92, s93, s94, s95, s96, s97, s98, s99, s100, s101, s102, s103, s104, s105, s106, s107, s108, s109, s110, s111, s112, s113, s114, s115, s116, s117, s118, s119, s120, s121, s122, s123, s124, s125, s126, s127, s128, s129, s130, s131, s132, s133, s134, s135, s136, s137, s138, s139, s140, s141, s142, s143, s144, s145, s146, s147, s148, s149, s150, s151, s152, s153, s154, s155, s156, s157, s158, x159, x160, x161, x162, x163, x164, x165, x166, x167, x168, x169, x170, x171, x172, x173, x174, x175, x176, x177, x178, x179, x180, x181, x182, x183, x184, x185, x186, x187, x188, x189, x190, x191, x192, x193, x194, x195, x196, x197, x198, x199, x200, x201, x202, x203, x204, x205, x206, x207, x208, x209, x210, x211, x212, x213, x214, x215, x216, x217], []⟩ w'))
  (HQ : Hid (∀ (w' : World) (s11 s42 s43 s44 s45 s46 s47 s48 s49 s50 s51 s52 s53 s54 s55 s56 s57 s58 s59 s60 s61 s62 s63 s64 s65 s66 s67 s68 s69 s70 s71 s72 s73 s74 s75 s76 s77 s78 s79 s80 s81 s82 s83 s84 s85 s86 s87 s88 s89 s90 s91 s92 s93 s94 s95 s96 s97 s98 s99 s100 s101 s102 s103 s104 s105 s106 s107 s108 s109 s110 s111 s112 s113 s114 s115 s116 s117 s118 s119 s120 s121 s122 s123 s124 s125 s126 s127 s128 s129 s130 s131 s132 s133 s134 s135 s136 s137 s138 s139 s140 s141 s142 s143 s144 s145 s146 s147 s148 s149 s150 s151 s152 s153 s154 s155 s156 s157 s158 : Value), WIX F L A b B w bb st sl t l kept i w' → Q0 (.exit 1) ⟨#[.pointer (some ⟨bb, 0, none⟩), .int .i32 (l : Int), .int .i64 (t : Int), x3, x4, x5, x6, x7, x8, x9, .pointer (some ⟨wb, 0, none⟩), s11, x12, x13, x14, x15, x16, x17, x18, x19, x20, x21, x22, x23, x24, x25, x26, x27, x28, x29, x30, x31, x32, x33, x34, x35, x36, x37, x38, x39, x40, x41, s42, s43, s44, s45, s46, s47, s48, s49, s50, s51, s52, s53, s54, s55, s56, s57, s58, s59, s60, s61, s62, s63, s64, s65, s66, s67, s68, s69, s70, s71, s72, s73, s74, s75, s76, s77, s78, s79, s80, s81, s82, s83, s84, s85, s86, s87, s88, s89, s90, s91, s92, s93, s94, s95, s96, s97, s98, s99, s100, s101, s102, s103, s104, s105, s106, s107, s108, s109, s110, s111, s112, s113, s114, s115, s116, s117, s118, s119, s120, s121, s122, s123, s124, s125, s126, s127, s128, s129, s130, s131, s132, s133, s134, s135, s136, s137, s138, s139, s140, s141, s142, s143, s144, s145, s146, s147, s148, s149, s150, s151, s152, s153, s154, s155, s156, s157, s158, x159, x160, x161, x162, x163, x164, x165, x166, x167, x168, x169, x170, x171, x172, x173, x174, x175, x176, x177, x178, x179, x180, x181, x182, x183, x184, x185, x186, x187, x188, x189, x190, x191, x192, x193, x194, x195, x196, x197, x198, x199, x200, x201, x202, x203, x204, x205, x206, x207, x208, x209, x210, x211, x212, x213, x214, x215, x216, x217], []⟩ w')):
  Code.wp Try.prog ((Try.f72.body.bind (seqAt 7)).getD .skip) (Exit.then K' Q0) ⟨#[.pointer (some ⟨bb, 0, none⟩), .int .i32 (l : Int), .int .i64 (t : Int), x3, x4, x5, x6, x7, x8, x9, .pointer (some ⟨wb, 0, none⟩), x11, x12, x13, x14, x15, x16, x17, x18, x19, x20, x21, x22, x23, x24, x25, x26, x27, x28, x29, x30, x31, x32, x33, x34, x35, x36, x37, x38, x39, x40, x41, x42, x43, x44, x45, x46, x47, x48, x49, x50, x51, x52, x53, x54, x55, x56, x57, x58, x59, x60, x61, x62, x63, x64, x65, x66, x67, x68, x69, x70, x71, x72, x73, x74, x75, x76, x77, x78, x79, x80, x81, x82, x83, x84, x85, x86, x87, x88, x89, x90, x91, x92, x93, x94, x95, x96, x97, x98, x99, x100, x101, x102, x103, x104, x105, x106, x107, x108, x109, x110, x111, x112, x113, x114, x115, x116, x117, x118, x119, x120, x121, x122, x123, x124, x125, x126, x127, x128, x129, x130, x131, x132, x133, x134, x135, x136, x137, x138, x139, x140, x141, x142, x143, x144, x145, x146, x147, x148, x149, x150, x151, x152, x153, x154, x155, x156, x157, x158, x159, x160, x161, x162, x163, x164, x165, x166, x167, x168, x169, x170, x171, x172, x173, x174, x175, x176, x177, x178, x179, x180, x181, x182, x183, x184, x185, x186, x187, x188, x189, x190, x191, x192, x193, x194, x195, x196, x197, x198, x199, x200, x201, x202, x203, x204, x205, x206, x207, x208, x209, x210, x211, x212, x213, x214, x215, x216, x217], []⟩ w := by
 conv => arg 2; whnf
 have hd := hW.co.hd
 have HHD := hidden hd
 obtain ⟨q1, q2, q3, q4, q5, q6⟩ := hW.co.wd.two ci c hc
 obtain ⟨c2, hc2, hoc, hwt', _⟩ := hW.entry he
 rw [hc] at hc2
 cases hc2
 have hwt := hwt' ht
 have htt := hW.tt
 have hoV : o < 2 * st.V := q3 o hoc
 have hV := M.L.hV
 have hV0 : 0 < st.V := by omega
 obtain ⟨hb, hcp, f3, hcell⟩ := M.heldC hV0
 obtain ⟨N, HN⟩ : ∃ N, Hid (N = 2 * st.V) := ⟨_, rfl⟩
 rw [← HN.out] at f3
 have co := hcell o hoV
 obtain ⟨y, HYV⟩ : ∃ y, Hid (y = st.held.getD o 0) := ⟨_, rfl⟩
 rw [← HYV.out] at co
 have b1 := M.c1
 have hoI : (o : Int) < (N : Int) := by have := HN.out; omega
 have KB : Hid ((fun w' => w'.cell? ⟨bb, 3, none⟩ = some (.slice (some ⟨hb, 0, none⟩) N hcp) ∧ w'.cell? ⟨wb, 1, none⟩ = some (.int .i32 (o : Int)) ∧ w'.cell? ⟨hb, o, none⟩ = some (.int .i8 y)) w) := ⟨f3, b1, co⟩
 have HM := hidden M
 have HHE := hidden he
 have HHC := hidden hc
 clear hcell hd hwt' he
 refine wp_seq_k (fun K1 hK1 => ?_)
 have HK1 := hidden hK1
 clear hK1
 refine wp_region_noPanic ?_
 refine wp_region_held_drew (S := (fun w' => w'.cell? ⟨bb, 3, none⟩ = some (.slice (some ⟨hb, 0, none⟩) N hcp) ∧ w'.cell? ⟨wb, 1, none⟩ = some (.int .i32 (o : Int)) ∧ w'.cell? ⟨hb, o, none⟩ = some (.int .i8 y))) (by kernel_rfl) (by first | assumption | exact KB.out) (fun hHeld => ?_)
 refine tk 0 ?_
 refine tk 1 ?_
 refine tk 2 ?_
 refine tk 3 ?_
 refine tk 4 ?_
 refine tk 5 ?_
 refine tk 6 ?_
 refine tk 7 ?_
 refine tk 8 ?_
 refine wpAnyH_done (by kernel_rfl) ?_ _
 refine NoPanic.normal ?_
 refine HK1.out _ _ ?_
 clear HK1 K1 KB f3 co b1
 by_cases hy : 0 < y
 ·have HP : Hid (WIN F L A b B w bb st sl wb ci t l kept i w.drew) := ⟨st, sl, o, c, HM.out.rest (Below.drew (Below.refl _ _)), hW, HHC.out, hoc, .inl ((HHD.out.pos hoV).1 (by rw [← HYV.out]; exact hy)), rfl, WnR.refl _, rfl, Below.drew (Below.refl _ _)⟩
  go_wp2
  exact HK.out _ _ _ _ _ _ _ _ _ _ _ _ _ _ _ _ _ _ _ _ _ _ _ _ _ _ _ _ _ _ _ _ _ _ _ _ _ _ _ _ _ _ _ _ _ _ _ _ _ _ _ _ _ _ _ _ _ _ _ _ _ _ _ _ _ _ _ _ _ _ _ _ _ _ _ _ _ _ _ _ _ _ _ _ _ _ _ _ _ _ _ _ _ _ _ _ _ _ _ _ _ _ _ _ _ _ _ _ _ _ _ _ _ _ _ _ _ _ _ HP.out
 ·have hyl : y ≤ 0 := by omega
  refine wp_cond (t := true) (by simp [go_sem, hyl]) ?_
  rw [if_pos rfl]
  refine wp_seq_k (fun K2 hK2 => ?_)
  have HK2 := hidden hK2
  clear hK2
  obtain ⟨w1, HW1⟩ : ∃ w1, Hid (w1 = w.drew) := ⟨_, rfl⟩
  have M1 : WkM B w1 bb st sl wb ci o := by rw [HW1.out]; exact HM.out.rest (Below.drew (Below.refl _ _))
  have HB1 : Hid (Below B w w1) := by rw [HW1.out]; exact Below.drew (Below.refl _ _)
  rw [← HW1.out]
  obtain ⟨cb, ccap, lb, lcap, hcv, hlv, hcB, hlB, hlc, hlw, hlbb, hcw, f0, fl, fn, ft, hz, hlcell⟩ := M1.clause HHC.out (by omega)
  obtain ⟨cn, HCN⟩ : ∃ n, Hid (n = st.cls.length) := ⟨_, rfl⟩
  obtain ⟨ln, HLN⟩ : ∃ n, Hid (n = c.l.length) := ⟨_, rfl⟩
  rw [← HCN.out] at f0
  rw [← HLN.out] at fl
  obtain ⟨a0, ha0⟩ := getElem_lt (show 0 < c.l.length by omega)
  obtain ⟨a1, ha1⟩ := getElem_lt (show 1 < c.l.length by omega)
  have c0 := hlcell 0 a0 ha0
  have c1 := hlcell 1 a1 ha1
  have b0 := M1.c0
  have hil : ci < st.cls.length := (List.getElem?_eq_some_iff.1 HHC.out).1
  have hcI : (ci : Int) < (cn : Int) := by have := HCN.out; omega
  have KB : Hid ((fun w' => w'.cell? ⟨bb, 0, none⟩ = some (.slice (some ⟨cb, 0, none⟩) cn ccap) ∧ w'.cell? ⟨wb, 0, none⟩ = some (.int .i32 (ci : Int))) w1) := ⟨f0, b0⟩
  have HM1 := hidden M1
  clear hlcell fn ft
  refine wp_region_noPanic ?_
  refine wp_region_held_drew (S := (fun w' => w'.cell? ⟨bb, 0, none⟩ = some (.slice (some ⟨cb, 0, none⟩) cn ccap) ∧ w'.cell? ⟨wb, 0, none⟩ = some (.int .i32 (ci : Int)))) (by kernel_rfl) (by first | assumption | exact KB.out) (fun hHeld => ?_)
  refine tk 0 ?_
  refine tk 1 ?_
  refine tk 2 ?_
  refine tk 3 ?_
  refine tk 4 ?_
  refine tk 5 ?_
  refine tk 6 ?_
  refine tk 7 ?_
  refine wpAnyH_done (by kernel_rfl) ?_ _
  refine NoPanic.normal ?_
  refine HK2.out _ _ ?_
  clear HK2 K2 KB f0 b0
  refine wp_seq_k (fun K3 hK3 => ?_)
  have HK3 := hidden hK3
  clear hK3
  refine wakeSwap w1.drew cb lb ci ln lcap a0 a1 l fl c0 c1 hz hlc (by have := HLN.out; omega) _ _ _ _ _ _ _ _ _ _ _ _ _ _ _ _ _ _ _ _ _ _ _ _ _ _ _ _ _ _ _ _ _ _ _ _ _ _ _ _ _ _ _ _ _ _ _ _ _ _ _ _ _ _ _ _ _ _ _ _ _ _ _ _ _ _ _ _ _ _ _ _ _ _ _ _ _ _ _ _ _ _ _ _ _ _ _ _ _ _ _ _ _ _ _ _ _ _ _ _ _ _ _ _ _ _ _ _ _ _ _ _ _ _ _ _ _ _ _ _ _ _ _ _ _ _ _ _ _ _ _ _ _ _ _ _ _ _ _ _ _ _ _ _ _ _ _ _ _ _ _ _ _ _ _ _ _ _ _ _ _ _ _ _ _ _ _ _ _ _ _ _ _ _ _ _ _ _ _ _ _ _ _ _ _ _ _ _ _ _ _ _ _ _ _ _ _ _ _ _ _ _ _ _ _ _ _ _ _ _ _ _ _ _ _ _ _ _ (hidden ?_)
  intro w3 s58 s59 s60 s61 s62 s63 s64 s65 s66 s67 s68 s69 s70 s71 s72 s73 s74 s75 s76 s77 s78 s79 s80 s81 s82 hsw
  refine HK3.out _ _ ?_
  clear HK3 K3
  obtain ⟨st1, sl1, d1, M2, hW1, hc1', hl1', htc, hWW1, hSW1, hSC1, hWN1, htr1, hhd1, hcl1, hB3⟩ := wake_swapped (HM1.out.rest (Below.drew (Below.refl _ _))) hW HHC.out hwt lb lcap a0 a1 hlv ha0 ha1 hsw
  have HWN1 := hidden hWN1
  have HWW1 := hidden hWW1
  have HSW1 := hidden hSW1
  have HB13 : Hid (Below B w w3) := (Below.drew HB1.out).trans hB3
  have HCV1 : Hid ((sl1 .clauses).v = .slice (some ⟨cb, 0, none⟩) (sl1 .clauses).n ccap) := by rw [hSC1]; exact hcv
  replace HHE : Hid ((st1.W t l)[i]? = some (ci, o)) := by rw [hWW1]; exact HHE.out
  have HTR1 := hidden htr1
  have HHD1 := hidden hhd1
  have ht1 : d1.tier = t := htc.trans ht
  have HC1 := hidden hc1'
  have HL1 := hidden hl1'
  clear hc1' hl1'
  clear hsw hWN1 hWW1 hSW1 hB3 hSC1 htr1 hhd1 c0 c1 fl hz hcv hlv ha0 ha1 HM1 htc
  obtain ⟨r1, r2, r3, r4, r5, r6⟩ := hW1.co.wd.two ci d1 HC1.out
  obtain ⟨p, hp0''⟩ := getElem_lt (show 0 < d1.l.length by omega)
  have HP0 := hidden hp0''
  clear hp0''
  have hp0 : p ∈ d1.l := List.mem_of_getElem? HP0.out
  have hpV : p < 2 * st.V := by have := r3 p hp0; rw [HWN1.out.V] at this; exact this
  obtain ⟨hb2, hcp2, f3, hcell⟩ := M2.heldC (by rw [HWN1.out.V]; exact hV0)
  rw [HWN1.out.V] at f3 hcell
  rw [← HN.out] at f3
  obtain ⟨cb2, ccap2, lb2, lcap2, e1, -, -, -, -, hlw2, -, -, -, fl, -, -, -, hlcell⟩ := M2.clause HC1.out (by omega)
  have ecb : cb2 = cb := by rw [HCV1.out] at e1; cases e1; rfl
  subst ecb
  have cp := hlcell 0 p HP0.out
  obtain ⟨z, HZV⟩ : ∃ y, Hid (y = st1.held.getD p 0) := ⟨_, rfl⟩
  have ch := hcell p hpV
  rw [← HZV.out] at ch
  have b1 := M2.c1
  have zb := M2.fz 1
  have hpI : (p : Int) < (N : Int) := by have := HN.out; omega
  obtain ⟨ln2, HLN2⟩ : ∃ n, Hid (n = d1.l.length) := ⟨_, rfl⟩
  rw [← HLN2.out] at fl
  have hln2 : 0 < ln2 := by have := HLN2.out; omega
  have HOT := hidden (M2.other p)
  clear hcell hlcell e1
  go_upto_region 12 with fail
  generalize hW4 : World.setCell w3 _ _ = w4
  rw [hW4] at HOT
  have HM2 := hidden HOT.out.1
  have HB24 : Hid (Below B w w4) := HB13.out.trans HOT.out.2
  obtain ⟨hb3, hcp3, g3, hcell⟩ := HM2.out.heldC (by rw [HWN1.out.V]; exact hV0)
  rw [HWN1.out.V] at g3 hcell
  rw [← HN.out] at g3
  have gh := hcell p hpV
  rw [← HZV.out] at gh
  have g1 := HM2.out.c1
  clear hcell hW4 HOT cp ch b1 zb fl f3 hb2 hcp2 HM M2
  obtain ⟨hb, hcp, HHBE⟩ : ∃ h h2, Hid (h = hb3 ∧ h2 = hcp3) := ⟨_, _, rfl, rfl⟩
  have KB : Hid ((fun w' => w'.cell? ⟨bb, 3, none⟩ = some (.slice (some ⟨hb3, 0, none⟩) N hcp3) ∧ w'.cell? ⟨wb, 1, none⟩ = some (.int .i32 (p : Int)) ∧ w'.cell? ⟨hb3, p, none⟩ = some (.int .i8 z)) w4) := ⟨g3, g1, gh⟩
  by_cases hz : 0 < z
  ·have HP : Hid (WIN F L A b B w bb st sl wb ci t l kept i w4.drew) := ⟨st1, sl1, p, d1, HM2.out.rest (Below.drew (Below.refl _ _)), hW1, HC1.out, hp0, .inl ((hW1.co.hd.pos (r3 p hp0)).1 (by rw [← HZV.out]; exact hz)), HSW1.out, HWN1.out, HWW1.out, Below.drew HB24.out⟩
   have hzI : ¬ (z ≤ 0) := by omega
   refine wp_region_noPanic ?_
   refine wp_region_held_drew (S := (fun w' => w'.cell? ⟨bb, 3, none⟩ = some (.slice (some ⟨hb3, 0, none⟩) N hcp3) ∧ w'.cell? ⟨wb, 1, none⟩ = some (.int .i32 (p : Int)) ∧ w'.cell? ⟨hb3, p, none⟩ = some (.int .i8 z))) (by kernel_rfl) (by first | assumption | exact KB.out) (fun hHeld => ?_)
   refine tk 0 ?_
   refine tk 1 ?_
   refine tk 2 ?_
   refine tk 3 ?_
   refine tk 4 ?_
   refine tk 5 ?_
   refine tk 6 ?_
   refine tk 7 ?_
   refine tk 8 ?_
   refine tk 9 ?_
   refine tu 10 ?_
   refine tu 11 ?_
   refine tu 12 ?_
   refine tk 13 ?_
   refine wpAnyH_done (by kernel_rfl) ?_ _
   refine NoPanic.normal ?_
   clear KB g3 g1 gh
   go_wp2
   exact HK.out _ _ _ _ _ _ _ _ _ _ _ _ _ _ _ _ _ _ _ _ _ _ _ _ _ _ _ _ _ _ _ _ _ _ _ _ _ _ _ _ _ _ _ _ _ _ _ _ _ _ _ _ _ _ _ _ _ _ _ _ _ _ _ _ _ _ _ _ _ _ _ _ _ _ _ _ _ _ _ _ _ _ _ _ _ _ _ _ _ _ _ _ _ _ _ _ _ _ _ _ _ _ _ _ _ _ _ _ _ _ _ _ _ _ _ _ _ _ _ HP.out
  ·have hzI : z ≤ 0 := by omega
   obtain ⟨c1, HC1E⟩ : ∃ c1, Hid (c1 = d1) := ⟨_, rfl⟩
   rw [← HC1E.out] at HC1 HL1 ht1 hp0 r1 r2 r3 r4 r5 r6 HP0
   have FN : Hid (∀ w', Below w4.heap.size w4 w' → Calls Try.prog 79 #[.pointer (some ⟨bb, 0, none⟩), .pointer (some ⟨cb2, ci * 4, none⟩)] w' fun e w'' => FnPost B w' bb st1 sl1 ci c1 e w'') := fun w' hb' => findNext_any B w' bb st1 sl1 (HM2.out.rest hb').R HM2.out.L cb2 ccap HCV1.out ci c1 HC1.out r5 r6 (by have := hW1.co.wd.clen HC1.out; rw [HWN1.out.V] at this; omega) r3 (by rw [HWN1.out.V]; exact hV0)
   have KD : Hid ((fun w' => w'.cell? ⟨bb, 3, none⟩ = some (.slice (some ⟨hb3, 0, none⟩) N hcp3) ∧ w'.cell? ⟨wb, 1, none⟩ = some (.int .i32 (p : Int)) ∧ w'.cell? ⟨hb3, p, none⟩ = some (.int .i8 z)) w4.drew) := ⟨g3, g1, gh⟩
   have hbC : hb3 ≠ cb2 := fun e => by
    obtain ⟨hb', hc', hv', _, _, _, _, _⟩ := HM2.out.R.form .held (by rw [HM2.out.L.held.1, HWN1.out.V]; omega)
    have e3 : some hb' = some hb3 := by
     have := HM2.out.R.field 3
     rw [show (fields sl1 st1)[3]? = some (sl1 .held).v from rfl, hv', g3] at this
     cases this; rfl
    have := HM2.out.R.sep .held .clauses hb3 (by rw [hv']; exact e3) (by rw [HCV1.out, e]; rfl)
    cases this
   have hbbC : bb ≠ cb2 := fun e => HM2.out.R.nb .clauses (by rw [HCV1.out, e]; rfl)
   have KG : Hid (∀ w', w4.drew.grownBy w' (sl1 .clauses).v.ownBlock → (fun w' => w'.cell? ⟨bb, 3, none⟩ = some (.slice (some ⟨hb3, 0, none⟩) N hcp3) ∧ w'.cell? ⟨wb, 1, none⟩ = some (.int .i32 (p : Int)) ∧ w'.cell? ⟨hb3, p, none⟩ = some (.int .i8 z)) w') := fun w' hg => by
    rw [HCV1.out] at hg
    exact ⟨hg.cell KD.out.1 (fun e => hbbC (Option.some.inj e)), hg.cell KD.out.2.1 (fun e => hcw (Option.some.inj e).symm), hg.cell KD.out.2.2 (fun e => hbC (Option.some.inj e))⟩
   have KBl : Hid (∀ w', Below w4.drew.heap.size w4.drew w' → (fun w' => w'.cell? ⟨bb, 3, none⟩ = some (.slice (some ⟨hb3, 0, none⟩) N hcp3) ∧ w'.cell? ⟨wb, 1, none⟩ = some (.int .i32 (p : Int)) ∧ w'.cell? ⟨hb3, p, none⟩ = some (.int .i8 z)) w') := fun w' hb' => KG.out w' (gbel hb' _)
   refine wp_region_noPanic ?_
   refine wp_region_held_drew (S := (fun w' => w'.cell? ⟨bb, 3, none⟩ = some (.slice (some ⟨hb3, 0, none⟩) N hcp3) ∧ w'.cell? ⟨wb, 1, none⟩ = some (.int .i32 (p : Int)) ∧ w'.cell? ⟨hb3, p, none⟩ = some (.int .i8 z))) (by kernel_rfl) (by first | assumption | exact KB.out) (fun hHeld => ?_)
   refine tk 0 ?_
   refine tk 1 ?_
   refine tk 2 ?_
   refine tk 3 ?_
   refine tk 4 ?_
   refine tk 5 ?_
   refine tk 6 ?_
   refine tk 7 ?_
   refine tk 8 ?_
   refine tk 9 ?_
   refine tk 10 ?_
   refine tk 11 ?_
   refine wpAnyH_ready (rs := [12]) (by kernel_rfl) (by simp) ?_
   refine AllReadyH.cons (o := _) rfl (fun K hK => ?_) AllReadyH.nil
   (try simp only [gA, gB, gC])
   go_simp
   go_at_call 79
   refine (FN.out _ (by first | exact Below.drew (Below.refl _ _) | exact Below.refl _ _)).mono ?_
   rintro e w9 hfn
   rcases hfn with ⟨k, x, hk2, hkx, hpx, rfl, R9, B9, G9⟩ | ⟨rfl, hall, R9, B9⟩
   ·have HR9 := hidden R9
    have HG9 := hidden G9
    have HB49 : Hid (Below w4.heap.size w4 w4.drew) := Below.drew (Below.refl _ _)
    have HB29 : Hid (Below B w w9) := (Below.drew HB24.out).trans B9
    have HKX := hidden hkx
    clear R9 B9 hkx
    go_wp2_with fail
    refine hK.out _ _ (by first | assumption | exact KG.out _ HG9.out) (fun hHeld12 => ?_)
    clear hK K
    (try simp only [Act.put]); (try simp only [sA]); (try simp only [sB, sC])
    refine tk 13 ?_
    refine wpAnyH_done (by kernel_rfl) ?_ _
    refine NoPanic.normal ?_
    clear KB KD KG KBl g3 g1 gh FN G9
    have hxV : x < 2 * st.V := by have := r3 x (List.mem_of_getElem? HKX.out); rw [HWN1.out.V] at this; exact this
    have W9D : Hid (Below w9.heap.size w9 w9.drew) := Below.drew (Below.refl _ _)
    have KCLR : True := trivial
    obtain ⟨R3a, L3a⟩ : Rows' B w9 bb (fields (setS sl1 .clauses ⟨(sl1 .clauses).v, (sl1 .clauses).n, (sl1 .clauses).xs.set (4 * ci + 1) (.int .i64 (k : Int))⟩) (st1.nextAt ci k)) (setS sl1 .clauses ⟨(sl1 .clauses).v, (sl1 .clauses).n, (sl1 .clauses).xs.set (4 * ci + 1) (.int .i64 (k : Int))⟩) ∧ Link (setS sl1 .clauses ⟨(sl1 .clauses).v, (sl1 .clauses).n, (sl1 .clauses).xs.set (4 * ci + 1) (.int .i64 (k : Int))⟩) (st1.nextAt ci k) := ⟨by
     have ef : fields (setS sl1 .clauses ⟨(sl1 .clauses).v, (sl1 .clauses).n, (sl1 .clauses).xs.set (4 * ci + 1) (.int .i64 (k : Int))⟩) (st1.nextAt ci k) = fields sl1 st1 := by simp [fields, setS, St.nextAt]
     rw [ef]; exact HR9.out, HM2.out.L.nextAt ci k⟩
    obtain ⟨sl2, HSL2⟩ : ∃ s, Hid (s = setS sl1 .clauses ⟨(sl1 .clauses).v, (sl1 .clauses).n, (sl1 .clauses).xs.set (4 * ci + 1) (.int .i64 (k : Int))⟩) := ⟨_, rfl⟩
    rw [← HSL2.out] at R3a L3a
    have M3a : WkM B w9 bb (st1.nextAt ci k) sl2 wb ci p := (HM2.out.rest HB49.out).turn .clauses HG9.out R3a L3a (fun s' => by
     rw [HSL2.out]
     by_cases e : s' = .clauses
     ·subst e; rw [setS_same]
     ·rw [setS_other _ _ e])
    have HCN2 : Hid ((st1.nextAt ci k).cls[ci]? = some { c1 with next := k }) := mod_same HC1.out
    have hkl : k < c1.l.length := (List.getElem?_eq_some_iff.1 HKX.out).1
    have HWn : Hid (Wk F L A b (st1.nextAt ci k) t l kept i) := hW1.next HC1.out hk2 (by omega)
    obtain ⟨cb3, ccap3, lb3, lcap3, e1, e2, hcB3, hlB3, hlc3, hlw3, hlb3, hcw3, -, fl3, fn3, -, hz3, hlq⟩ := M3a.clause HCN2.out (by show 0 < c1.l.length; omega)
    have ecb : cb3 = cb2 ∧ ccap3 = ccap := by
     rw [HSL2.out, setS_same] at e1
     dsimp only at e1
     rw [HCV1.out] at e1
     cases e1; exact ⟨rfl, rfl⟩
    obtain ⟨rfl, rfl⟩ := ecb
    have cx : w9.cell? ⟨lb3, k, none⟩ = some (.int .i32 (x : Int)) := hlq k x HKX.out
    have c1l : w9.cell? ⟨lb3, 1, none⟩ = some (.int .i32 (l : Int)) := hlq 1 l HL1.out
    obtain ⟨ln, HLN⟩ : ∃ n, Hid (n = c1.l.length) := ⟨_, rfl⟩
    replace fl3 : w9.cell? ⟨cb3, ci * 4, none⟩ = some (.slice (some ⟨lb3, 0, none⟩) ln lcap3) := by rw [HLN.out]; exact fl3
    replace fn3 : w9.cell? ⟨cb3, ci * 4 + 1, none⟩ = some (.int .i64 (k : Int)) := fn3
    have KB : Hid ((fun w' => w'.cell? ⟨cb3, ci * 4, none⟩ = some (.slice (some ⟨lb3, 0, none⟩) ln lcap3) ∧ w'.cell? ⟨cb3, ci * 4 + 1, none⟩ = some (.int .i64 (k : Int))) w9) := ⟨fl3, fn3⟩
    have KS : Hid (∀ (w' : World) (xv : Value) (j : Nat), (fun w' => w'.cell? ⟨cb3, ci * 4, none⟩ = some (.slice (some ⟨lb3, 0, none⟩) ln lcap3) ∧ w'.cell? ⟨cb3, ci * 4 + 1, none⟩ = some (.int .i64 (k : Int))) w' → (fun w' => w'.cell? ⟨cb3, ci * 4, none⟩ = some (.slice (some ⟨lb3, 0, none⟩) ln lcap3) ∧ w'.cell? ⟨cb3, ci * 4 + 1, none⟩ = some (.int .i64 (k : Int))) (w'.setCell ⟨lb3, j, none⟩ xv)) := fun w' xv j hh => ⟨(World.cell?_setCell_other (h := fun e => hlc3 (by cases e; rfl)) ..).trans hh.1, (World.cell?_setCell_other (h := fun e => hlc3 (by cases e; rfl)) ..).trans hh.2⟩
    have z1 := hz3 1
    have zk : (w9.setCell ⟨lb3, 1, none⟩ (.int .i32 (x : Int))).frozen? ⟨lb3, k, none⟩ = false := (World.frozen?_setCell _ _ _ _).trans (hz3 k)
    have ck : (w9.setCell ⟨lb3, 1, none⟩ (.int .i32 (x : Int))).cell? ⟨lb3, k, none⟩ = some (.int .i32 (x : Int)) := (World.cell?_setCell_other (h := fun e => by cases e; omega) ..).trans cx
    have hkI : (k : Int) < (ln : Int) := by have := HLN.out; omega
    have h1I : (1 : Int) < (ln : Int) := by omega
    have HM3a := hidden M3a
    have HLV2 := hidden e2
    have RS : Hid (∀ w', Below w9.heap.size w9 w' → WkM B ((w'.setCell ⟨lb3, 1, none⟩ (.int .i32 (x : Int))).setCell ⟨lb3, k, none⟩ (.int .i32 (l : Int))) bb ((st1.nextAt ci k).listAt ci (swp c1.l 1 k)) (setS sl2 (.lits ci) ⟨(sl2 (.lits ci)).v, (sl2 (.lits ci)).n, litV (swp c1.l 1 k)⟩) wb ci p ∧ Below B w9 ((w'.setCell ⟨lb3, 1, none⟩ (.int .i32 (x : Int))).setCell ⟨lb3, k, none⟩ (.int .i32 (l : Int)))) := fun w' hb' => by
     obtain ⟨m1, m2⟩ := (HM3a.out.rest hb').swap HCN2.out HLV2.out (i := 1) (j := k) (x := l) (y := x) HL1.out HKX.out
     exact ⟨m1, (hb'.mono HM3a.out.R.size).trans m2⟩
    have HWM : Hid (Wk F L A b (((st1.nextAt ci k).listAt ci (swp c1.l 1 k)).addW t x (ci, p)) t l kept (i + 1) ∧ x ≠ l) := HWn.out.move (c := { c1 with next := k }) HHE.out HCN2.out ht1 HL1.out hk2 HKX.out hp0 hpx
    clear hlq hz3 M3a e1 e2 R3a L3a
    go_upto_region 13 with fail
    refine wp_region_noPanic ?_
    refine wp_region_held_drew (S := (fun w' => w'.cell? ⟨cb3, ci * 4, none⟩ = some (.slice (some ⟨lb3, 0, none⟩) ln lcap3) ∧ w'.cell? ⟨cb3, ci * 4 + 1, none⟩ = some (.int .i64 (k : Int)))) (by kernel_rfl) (by first | assumption | exact KB.out | exact KS.out _ _ _ (by first | assumption | exact KB.out)) (fun hHeld => ?_)
    refine tk 0 ?_
    refine tk 1 ?_
    refine tk 2 ?_
    refine tk 3 ?_
    refine tk 4 ?_
    refine tk 5 ?_
    refine tk 6 ?_
    refine tk 7 ?_
    refine tk 8 ?_
    refine tk 9 ?_
    refine tk 10 ?_
    refine tk 11 ?_
    refine tk 12 ?_
    refine tk 13 ?_
    refine tk 14 ?_
    refine tk 15 ?_
    refine tk 16 ?_
    refine tk 17 ?_
    refine tk 18 ?_
    refine tk 19 ?_
    refine tk 20 ?_
    refine tk 22 ?_
    refine wpAnyH_ready (rs := [21]) (by kernel_rfl) (by simp) ?_
    refine AllReadyH.cons (o := _) rfl (fun K hK => ?_) AllReadyH.nil
    (try simp only [gA, gB, gC])
    go_simp
    refine hK.out _ _ (by first | assumption | exact KB.out | exact KS.out _ _ _ (by first | assumption | exact KB.out)) (fun hHeld21 => ?_)
    clear hK K
    (try simp only [Act.put]); (try simp only [sA]); (try simp only [sB, sC])
    refine tk 23 ?_
    refine wpAnyH_ready (rs := [24]) (by kernel_rfl) (by simp) ?_
    refine AllReadyH.cons (o := _) rfl (fun K hK => ?_) AllReadyH.nil
    (try simp only [gA, gB, gC])
    go_simp
    refine hK.out _ _ (by first | assumption | exact KB.out | exact KS.out _ _ _ (by first | assumption | exact KB.out)) (fun hHeld24 => ?_)
    clear hK K
    (try simp only [Act.put]); (try simp only [sA]); (try simp only [sB, sC])
    refine tk 25 ?_
    refine wpAnyH_ready (rs := [26]) (by kernel_rfl) (by simp) ?_
    refine AllReadyH.cons (o := _) rfl (fun K hK => ?_) AllReadyH.nil
    (try simp only [gA, gB, gC])
    go_simp
    refine hK.out _ _ (by first | assumption | exact KB.out | exact KS.out _ _ _ (by first | assumption | exact KB.out)) (fun hHeld26 => ?_)
    clear hK K
    (try simp only [Act.put]); (try simp only [sA]); (try simp only [sB, sC])
    refine wpAnyH_done (by kernel_rfl) ?_ _
    refine NoPanic.normal ?_
    generalize hW5 : World.setCell (World.setCell _ _ _) _ _ = W
    obtain ⟨M3, B3⟩ := RS.out _ (by first | exact Below.refl _ _ | exact Below.drew (Below.refl _ _) | exact Below.drew (Below.drew (Below.refl _ _)))
    rw [hW5] at M3 B3
    clear hW5 RS KB KS cx c1l z1 zk ck fl3 fn3
    go_upto_region 14 with fail
    have HM3' := M3.rest (Below.drew (Below.refl _ _))
    have HB3' := Below.drew B3
    generalize W.drew = W' at HM3' HB3' ⊢
    clear M3 B3 W
    rename World => W
    obtain ⟨st3, HST3⟩ : ∃ s, Hid (s = (st1.nextAt ci k).listAt ci (swp c1.l 1 k)) := ⟨_, rfl⟩
    obtain ⟨sl3, HSL3⟩ : ∃ s, Hid (s = setS sl2 (.lits ci) ⟨(sl2 (.lits ci)).v, (sl2 (.lits ci)).n, litV (swp c1.l 1 k)⟩) := ⟨_, rfl⟩
    rw [← HST3.out, ← HSL3.out] at HM3'
    rw [← HST3.out] at HWM
    have HM3 := hidden HM3'
    have HB3 : Hid (Below B w W) := HB29.out.trans HB3'
    have HV3 : Hid (st3.V = st.V) := by rw [HST3.out]; exact HWN1.out.V
    have HWN3 : Hid (WnR st st3) := by rw [HST3.out]; exact (HWN1.out.trans (WnR.next _ _ _)).trans (WnR.list _ _ _)
    have HWW3 : Hid (st3.W = st.W) := by rw [HST3.out]; exact HWW1.out
    have HSW3 : Hid (sl3 (.wl t l) = sl (.wl t l)) := by
     rw [HSL3.out, setS_other _ _ (by intro e; cases e), HSL2.out, setS_other _ _ (by intro e; cases e)]; exact HSW1.out
    have HWL3 : Hid ((st3.W t x).length ≤ 67108864) := by
     show _ ≤ _
     rw [HWW3.out]
     have h1 := hW.co.wd.len t x
     unfold vw at h1
     rw [putW_other _ _ (by rintro ⟨_, e⟩; exact HWM.out.2 e)] at h1
     omega
    have hcs3 : st3.cls[ci]? = some { c1 with next := k, l := swp c1.l 1 k } := by rw [HST3.out]; exact mod_same (mod_same HC1.out)
    obtain ⟨cb4, ccap4, lb, lcap, e1, e2, -, -, -, -, -, -, -, fl3, -, -, -, hlq⟩ := HM3.out.clause hcs3 (by show 0 < (swp c1.l 1 k).length; rw [swp_len]; omega)
    have e1' : (sl3 .clauses).v = .slice (some ⟨cb3, 0, none⟩) (sl1 .clauses).n ccap3 := by rw [HSL3.out, setS_other _ _ (by intro e; cases e), HSL2.out, setS_same]; exact HCV1.out
    have ecb4 : cb4 = cb3 := by rw [e1'] at e1; have e9 := congrArg Value.ownBlock e1; simp [Value.ownBlock] at e9; omega
    subst ecb4
    obtain ⟨cb2, HCBE⟩ : ∃ c, Hid (c = cb4) := ⟨_, rfl⟩
    have HCV3 : Hid ((sl3 .clauses).v = .slice (some ⟨cb4, 0, none⟩) (sl1 .clauses).n ccap3) := e1'
    have HLV3 := hidden e2
    have hkl2 : 1 < c1.l.length := by omega
    have fx3 : W.cell? ⟨lb, 1, none⟩ = some (.int .i32 (x : Int)) := hlq 1 x (by show (swp c1.l 1 k)[1]? = _; rw [swp_get _ hkl2 hkl]; simp only [swI]; rw [if_neg (by omega)]; simpa using HKX.out)
    replace fl3 : W.cell? ⟨cb4, ci * 4, none⟩ = some (.slice (some ⟨lb, 0, none⟩) ln lcap) := by rw [HLN.out, ← swp_len c1.l 1 k]; exact fl3
    clear hlq e1 e1' e2 hcs3
    obtain ⟨iw, hi', hz', hs', hby'⟩ := info_w
    have HI := hidden hi'
    have HZ := hidden hz'
    have HS := hidden hs'
    have HY := hidden hby'
    clear hi' hz' hs' hby'
    obtain ⟨v, HVV⟩ : ∃ v, Hid (v = (sl3 (.wl t x)).v) := ⟨_, rfl⟩
    obtain ⟨nn, HNN⟩ : ∃ n, Hid (n = (sl3 (.wl t x)).n) := ⟨_, rfl⟩
    have hxV3 : x < 2 * st3.V := by rw [HV3.out]; exact hxV
    have HOW : Hid (W.ownsRow B 118 2 v nn (sl3 (.wl t x)).xs) := by rw [HVV.out, HNN.out]; exact HM3.out.R.rows (.wl t x)
    have hnn : nn ≤ 67108864 := by rw [HNN.out, (HM3.out.L.wl t x htt hxV3).1]; exact HWL3.out
    have hrowl := HM3.out.L.row t htt
    obtain ⟨rb, rcap, hrv, hrB, hrbl, _, hrcell, hrfz'⟩ := HM3.out.R.form (.row t) (by rw [hrowl.1]; omega)
    have fr : W.cell? ⟨bb, 1 + t, none⟩ = some (.slice (some ⟨rb, 0, none⟩) N rcap) := by
     rw [HM3.out.R.field, HN.out, ← HV3.out, ← hrowl.1, ← hrv]
     rcases (show t = 0 ∨ t = 1 by omega) with e | e <;> rw [e] <;> rfl
    have hra : W.cell? ⟨rb, x, none⟩ = some v := by
     rw [hrcell x (by rw [hrowl.1]; simp [Site.sz]; omega), HVV.out]; exact hrowl.2 x hxV3
    have hzr := hrfz' x
    have far : ∀ s k', s ≠ .wl t x → (sl3 s).v.ownBlock = some k' → some k' ≠ v.ownBlock := fun s k' hs hk e => hs (HM3.out.R.sep s (.wl t x) k' hk (by rw [← HVV.out]; exact e.symm))
    have farR : some rb ≠ v.ownBlock := far (.row t) rb (by intro e; cases e) (by rw [hrv]; rfl)
    have farL : some lb ≠ v.ownBlock := far (.lits ci) lb (by intro e; cases e) (by rw [HLV3.out]; rfl)
    have farC : some cb4 ≠ v.ownBlock := far .clauses cb4 (by intro e; cases e) (by rw [HCV3.out]; rfl)
    have farB : some bb ≠ v.ownBlock := fun e => HM3.out.R.nb (.wl t x) (by rw [← HVV.out]; exact e.symm)
    have farW : some wb ≠ v.ownBlock := fun e => HM3.out.far (.wl t x) (by rw [← HVV.out]; exact e.symm)
    have nb : rb ≠ bb := fun e => HM3.out.R.nb (.row t) (by rw [hrv, e]; rfl)
    have nw : rb ≠ wb := fun e => HM3.out.far (.row t) (by rw [hrv, e]; rfl)
    have nl : rb ≠ lb := fun e => by
     have := HM3.out.R.sep (.row t) (.lits ci) rb (by rw [hrv]; rfl) (by rw [HLV3.out, e]; rfl)
     cases this
    have nc : rb ≠ cb4 := fun e => by
     have := HM3.out.R.sep (.row t) .clauses rb (by rw [hrv]; rfl) (by rw [HCV3.out, e]; rfl)
     cases this
    have b0 := HM3.out.c0
    have b1 := HM3.out.c1
    have KL : Hid ((fun w' => w'.cell? ⟨bb, 1 + t, none⟩ = some (.slice (some ⟨rb, 0, none⟩) N rcap) ∧ w'.cell? ⟨cb4, ci * 4, none⟩ = some (.slice (some ⟨lb, 0, none⟩) ln lcap) ∧ w'.cell? ⟨lb, 1, none⟩ = some (.int .i32 (x : Int)) ∧ w'.cell? ⟨wb, 0, none⟩ = some (.int .i32 (ci : Int)) ∧ w'.cell? ⟨wb, 1, none⟩ = some (.int .i32 (p : Int))) W.drew) := ⟨fr, fl3, fx3, b0, b1⟩
    have KT : Hid (∀ w', W.grownBy w' v.ownBlock → (fun w' => w'.cell? ⟨bb, 1 + t, none⟩ = some (.slice (some ⟨rb, 0, none⟩) N rcap) ∧ w'.cell? ⟨cb4, ci * 4, none⟩ = some (.slice (some ⟨lb, 0, none⟩) ln lcap) ∧ w'.cell? ⟨lb, 1, none⟩ = some (.int .i32 (x : Int)) ∧ w'.cell? ⟨wb, 0, none⟩ = some (.int .i32 (ci : Int)) ∧ w'.cell? ⟨wb, 1, none⟩ = some (.int .i32 (p : Int))) w') := fun w' hg => ⟨hg.cell fr farB, hg.cell fl3 farC, hg.cell fx3 farL, hg.cell b0 farW, hg.cell b1 farW⟩
    have KSS : Hid (∀ (w' : World) (xv : Value), (fun w' => w'.cell? ⟨bb, 1 + t, none⟩ = some (.slice (some ⟨rb, 0, none⟩) N rcap) ∧ w'.cell? ⟨cb4, ci * 4, none⟩ = some (.slice (some ⟨lb, 0, none⟩) ln lcap) ∧ w'.cell? ⟨lb, 1, none⟩ = some (.int .i32 (x : Int)) ∧ w'.cell? ⟨wb, 0, none⟩ = some (.int .i32 (ci : Int)) ∧ w'.cell? ⟨wb, 1, none⟩ = some (.int .i32 (p : Int))) w' → (fun w' => w'.cell? ⟨bb, 1 + t, none⟩ = some (.slice (some ⟨rb, 0, none⟩) N rcap) ∧ w'.cell? ⟨cb4, ci * 4, none⟩ = some (.slice (some ⟨lb, 0, none⟩) ln lcap) ∧ w'.cell? ⟨lb, 1, none⟩ = some (.int .i32 (x : Int)) ∧ w'.cell? ⟨wb, 0, none⟩ = some (.int .i32 (ci : Int)) ∧ w'.cell? ⟨wb, 1, none⟩ = some (.int .i32 (p : Int))) (w'.setCell ⟨rb, x, none⟩ xv)) := fun w' xv hh => ⟨(World.cell?_setCell_other (h := fun e => nb (by cases e; rfl)) ..).trans hh.1, (World.cell?_setCell_other (h := fun e => nc (by cases e; rfl)) ..).trans hh.2.1, (World.cell?_setCell_other (h := fun e => nl (by cases e; rfl)) ..).trans hh.2.2.1, (World.cell?_setCell_other (h := fun e => nw (by cases e; rfl)) ..).trans hh.2.2.2.1, (World.cell?_setCell_other (h := fun e => nw (by cases e; rfl)) ..).trans hh.2.2.2.2⟩
    have KP : Hid (∀ w', W.grownBy w' v.ownBlock → w'.cell? ⟨rb, x, none⟩ = some v ∧ w'.frozen? ⟨rb, x, none⟩ = false) := fun w' hg => ⟨hg.cell hra farR, (World.frozen?_of_block (a := ⟨rb, x, none⟩) (hg.block rb hrbl farR)).trans hzr⟩
    have huA := (KP.out _ (World.grownBy_alloc W (.cells #[.int .i32 (ci : Int), .int .i32 (p : Int)] 118) _)).1
    have hm1 : nn + 1 ≤ maxLen := by simp only [maxLen]; omega
    have hm2 : (nn + 1) * 8 ≤ 140737488355328 := by omega
    have hm3 : B ≤ ((W.alloc (.cells #[.int .i32 (ci : Int), .int .i32 (p : Int)] 118)).drew).heap.size := by have := HM3.out.R.size; simp; omega
    have HRV := hidden hrv
    have htI : (t : Int) < 2 := by omega
    have hxI : (x : Int) < (N : Int) := by have := HN.out; omega
    clear hrcell hrfz' hrowl hnn hrv far b0 b1 fr
    refine wp_region_noPanic ?_
    refine wp_region_held_drew (S := (fun w' => w'.cell? ⟨bb, 1 + t, none⟩ = some (.slice (some ⟨rb, 0, none⟩) N rcap) ∧ w'.cell? ⟨cb4, ci * 4, none⟩ = some (.slice (some ⟨lb, 0, none⟩) ln lcap) ∧ w'.cell? ⟨lb, 1, none⟩ = some (.int .i32 (x : Int)) ∧ w'.cell? ⟨wb, 0, none⟩ = some (.int .i32 (ci : Int)) ∧ w'.cell? ⟨wb, 1, none⟩ = some (.int .i32 (p : Int)))) (by kernel_rfl) (by (first | assumption | exact KL.out | exact KT.out _ (grown_refl' _ _) | exact KT.out _ (grown_ad _ _ _) | exact KT.out _ (by assumption) | exact KSS.out _ _ (by assumption))) (fun hHeld => ?_)
    refine tk 0 ?_
    refine tk 1 ?_
    refine tk 2 ?_
    refine tk 3 ?_
    refine tk 4 ?_
    refine tk 5 ?_
    refine tk 6 ?_
    refine tk 7 ?_
    refine tk 8 ?_
    refine tk 9 ?_
    refine tk 10 ?_
    refine tk 11 ?_
    refine tk 12 ?_
    refine tk 13 ?_
    refine tk 14 ?_
    refine tk 15 ?_
    refine tk 16 ?_
    refine tk 17 ?_
    refine tk 18 ?_
    refine tk 19 ?_
    refine tk 20 ?_
    refine tk 21 ?_
    refine tk 22 ?_
    refine tk 23 ?_
    refine tk 24 ?_
    refine tk 26 ?_
    refine wpAnyH_ready (rs := [25, 27]) (by kernel_rfl) (by simp) ?_
    refine AllReadyH.cons (o := _) rfl (fun K hK => ?_) ?_
    ·(try simp only [gA, gB, gC])
     go_simp
     refine hK.out _ _ (by (first | assumption | exact KL.out | exact KT.out _ (grown_refl' _ _) | exact KT.out _ (grown_ad _ _ _) | exact KT.out _ (by assumption) | exact KSS.out _ _ (by assumption))) (fun hHeld25 => ?_)
     clear hK K
     (try simp only [Act.put]); (try simp only [sA]); (try simp only [sB, sC])
     refine wpAnyH_ready (rs := [27]) (by kernel_rfl) (by simp) ?_
     refine AllReadyH.cons (o := _) rfl (fun K hK => ?_) AllReadyH.nil
     (try simp only [gA, gB, gC])
     go_simp
     refine hK.out _ _ (by (first | assumption | exact KL.out | exact KT.out _ (grown_refl' _ _) | exact KT.out _ (grown_ad _ _ _) | exact KT.out _ (by assumption) | exact KSS.out _ _ (by assumption))) (fun hHeld27 => ?_)
     clear hK K
     (try simp only [Act.put]); (try simp only [sA]); (try simp only [sB, sC])
     refine wpAnyH_ready (rs := [28]) (by kernel_rfl) (by simp) ?_
     refine AllReadyH.cons (o := _) rfl (fun K hK => ?_) AllReadyH.nil
     refine step_append_lies _ rfl (.tmp 154) (.tmp 156) 86 rfl B 118 iw _ 2 8 Try.underlying86 HI.out HZ.out HS.out HY.out rfl (by decide) v nn _ rfl (HOW.out.alloc _).drew ⟨W.heap.size, 0, none⟩ 1 1 [.int .i32 (ci : Int), .int .i32 (p : Int)] rfl rfl (World.news_of_block (heap_new _ _)) (by simp [Value.oneCell']) (by decide) hm1 hm2 hm3 _ rfl ?_
     intro g cap w5 hown hgrow hat hlt5
     have HG5 := grown_trn (grown_ad _ _ _) hgrow
     have hc5 := (KP.out w5 HG5).1
     have hf5 := (KP.out w5 HG5).2
     refine hK.out _ _ (by (first | assumption | exact KL.out | exact KT.out _ (grown_refl' _ _) | exact KT.out _ (grown_ad _ _ _) | exact KT.out _ (by assumption) | exact KSS.out _ _ (by assumption))) (fun hHeldp => ?_)
     clear hK K
     (try simp only [Act.put]); (try simp only [sA]); (try simp only [sB, sC])
     refine tk 29 ?_
     refine wpAnyH_ready (rs := [30]) (by kernel_rfl) (by simp) ?_
     refine AllReadyH.cons (o := _) rfl (fun K hK => ?_) AllReadyH.nil
     (try simp only [gA, gB, gC])
     go_simp
     refine hK.out _ _ (by (first | assumption | exact KL.out | exact KT.out _ (grown_refl' _ _) | exact KT.out _ (grown_ad _ _ _) | exact KT.out _ (by assumption) | exact KSS.out _ _ (by assumption))) (fun hHeld30 => ?_)
     clear hK K
     (try simp only [Act.put]); (try simp only [sA]); (try simp only [sB, sC])
     refine wpAnyH_done (by kernel_rfl) ?_ _
     refine NoPanic.normal ?_
     generalize hW6 : World.setCell w5 _ _ = w6
     have R5 := HM3.out.R.grow (.wl t x) ⟨.slice (some ⟨g, 0, none⟩) (nn + 1) cap, (sl3 (.wl t x)).n + 1, (sl3 (.wl t x)).xs ++ [.int .i32 (ci : Int), .int .i32 (p : Int)]⟩ (by rw [← HVV.out]; exact HG5) (by rw [← HNN.out]; exact hown) (fun k hk => by
      have e : g = k := by simpa [Value.ownBlock] using hk
      rcases hat with h | h
      ·exact .inl (by rw [← HVV.out, h, e])
      ·simp at h; exact .inr (by omega))
     have e0 : setS sl3 (.wl t x) ⟨.slice (some ⟨g, 0, none⟩) (nn + 1) cap, (sl3 (.wl t x)).n + 1, (sl3 (.wl t x)).xs ++ [.int .i32 (ci : Int), .int .i32 (p : Int)]⟩ (.row t) = sl3 (.row t) := setS_other _ _ (by intro e; cases e)
     have R6 := R5.setR (.row t) (g := rb) (cap := rcap) (by rw [e0]; exact HRV.out) x (.slice (some ⟨g, 0, none⟩) (nn + 1) cap)
     rw [e0, hW6, ← fields_addW sl3 st3 t x (ci, p) ⟨.slice (some ⟨g, 0, none⟩) (nn + 1) cap, (sl3 (.wl t x)).n + 1, (sl3 (.wl t x)).xs ++ [.int .i32 (ci : Int), .int .i32 (p : Int)]⟩ (sl3 (.row t)).n ((sl3 (.row t)).xs.set x (.slice (some ⟨g, 0, none⟩) (nn + 1) cap))] at R6
     have L6 := HM3.out.L.addW t x htt hxV3 (ci, p) (.slice (some ⟨g, 0, none⟩) (nn + 1) cap)
     have B6 : Below B w w6 := by
      rw [← hW6]
      exact setTo (HB3.out.trans (HM3.out.R.below (.wl t x) (by rw [← HVV.out]; exact HG5))) hrB R5.size
     have HX : Hid (WIX F L A b B w bb st sl t l kept i w6) := ⟨_, _, R6, L6, HWM.out.1, by rw [setS_other _ _ (by intro e; cases e), setS_other _ _ (by intro e; injection e with _ e2; exact HWM.out.2 e2.symm)]; exact HSW3.out, HWN3.out.trans (WnR.add _ _ _ _), by
      simp only [St.addW, addW]
      rw [if_neg (by rintro ⟨_, e⟩; exact HWM.out.2 e.symm), HWW3.out], B6⟩
     clear R5 R6 L6 B6 KL KT KSS KP huA HOW hra hzr farR farL farC farB farW hown hgrow hat hlt5 hc5 hf5 e0
     go_wp2
     exact HQ.out _ _ _ _ _ _ _ _ _ _ _ _ _ _ _ _ _ _ _ _ _ _ _ _ _ _ _ _ _ _ _ _ _ _ _ _ _ _ _ _ _ _ _ _ _ _ _ _ _ _ _ _ _ _ _ _ _ _ _ _ _ _ _ _ _ _ _ _ _ _ _ _ _ _ _ _ _ _ _ _ _ _ _ _ _ _ _ _ _ _ _ _ _ _ _ _ _ _ _ _ _ _ _ _ _ _ _ _ _ _ _ _ _ _ _ _ _ _ _ HX.out
    refine AllReadyH.cons (o := _) rfl (fun K hK => ?_) AllReadyH.nil
    (try simp only [gA, gB, gC])
    go_simp
    refine hK.out _ _ (by (first | assumption | exact KL.out | exact KT.out _ (grown_refl' _ _) | exact KT.out _ (grown_ad _ _ _) | exact KT.out _ (by assumption) | exact KSS.out _ _ (by assumption))) (fun hHeld27 => ?_)
    clear hK K
    (try simp only [Act.put]); (try simp only [sA]); (try simp only [sB, sC])
    refine wpAnyH_ready (rs := [25]) (by kernel_rfl) (by simp) ?_
    refine AllReadyH.cons (o := _) rfl (fun K hK => ?_) AllReadyH.nil
    (try simp only [gA, gB, gC])
    go_simp
    refine hK.out _ _ (by (first | assumption | exact KL.out | exact KT.out _ (grown_refl' _ _) | exact KT.out _ (grown_ad _ _ _) | exact KT.out _ (by assumption) | exact KSS.out _ _ (by assumption))) (fun hHeld25 => ?_)
    clear hK K
    (try simp only [Act.put]); (try simp only [sA]); (try simp only [sB, sC])
    refine wpAnyH_ready (rs := [28]) (by kernel_rfl) (by simp) ?_
    refine AllReadyH.cons (o := _) rfl (fun K hK => ?_) AllReadyH.nil
    refine step_append_lies _ rfl (.tmp 154) (.tmp 156) 86 rfl B 118 iw _ 2 8 Try.underlying86 HI.out HZ.out HS.out HY.out rfl (by decide) v nn _ rfl (HOW.out.alloc _).drew ⟨W.heap.size, 0, none⟩ 1 1 [.int .i32 (ci : Int), .int .i32 (p : Int)] rfl rfl (World.news_of_block (heap_new _ _)) (by simp [Value.oneCell']) (by decide) hm1 hm2 hm3 _ rfl ?_
    intro g cap w5 hown hgrow hat hlt5
    have HG5 := grown_trn (grown_ad _ _ _) hgrow
    have hc5 := (KP.out w5 HG5).1
    have hf5 := (KP.out w5 HG5).2
    refine hK.out _ _ (by (first | assumption | exact KL.out | exact KT.out _ (grown_refl' _ _) | exact KT.out _ (grown_ad _ _ _) | exact KT.out _ (by assumption) | exact KSS.out _ _ (by assumption))) (fun hHeldp => ?_)
    clear hK K
    (try simp only [Act.put]); (try simp only [sA]); (try simp only [sB, sC])
    refine tk 29 ?_
    refine wpAnyH_ready (rs := [30]) (by kernel_rfl) (by simp) ?_
    refine AllReadyH.cons (o := _) rfl (fun K hK => ?_) AllReadyH.nil
    (try simp only [gA, gB, gC])
    go_simp
    refine hK.out _ _ (by (first | assumption | exact KL.out | exact KT.out _ (grown_refl' _ _) | exact KT.out _ (grown_ad _ _ _) | exact KT.out _ (by assumption) | exact KSS.out _ _ (by assumption))) (fun hHeld30 => ?_)
    clear hK K
    (try simp only [Act.put]); (try simp only [sA]); (try simp only [sB, sC])
    refine wpAnyH_done (by kernel_rfl) ?_ _
    refine NoPanic.normal ?_
    generalize hW6 : World.setCell w5 _ _ = w6
    have R5 := HM3.out.R.grow (.wl t x) ⟨.slice (some ⟨g, 0, none⟩) (nn + 1) cap, (sl3 (.wl t x)).n + 1, (sl3 (.wl t x)).xs ++ [.int .i32 (ci : Int), .int .i32 (p : Int)]⟩ (by rw [← HVV.out]; exact HG5) (by rw [← HNN.out]; exact hown) (fun k hk => by
     have e : g = k := by simpa [Value.ownBlock] using hk
     rcases hat with h | h
     ·exact .inl (by rw [← HVV.out, h, e])
     ·simp at h; exact .inr (by omega))
    have e0 : setS sl3 (.wl t x) ⟨.slice (some ⟨g, 0, none⟩) (nn + 1) cap, (sl3 (.wl t x)).n + 1, (sl3 (.wl t x)).xs ++ [.int .i32 (ci : Int), .int .i32 (p : Int)]⟩ (.row t) = sl3 (.row t) := setS_other _ _ (by intro e; cases e)
    have R6 := R5.setR (.row t) (g := rb) (cap := rcap) (by rw [e0]; exact HRV.out) x (.slice (some ⟨g, 0, none⟩) (nn + 1) cap)
    rw [e0, hW6, ← fields_addW sl3 st3 t x (ci, p) ⟨.slice (some ⟨g, 0, none⟩) (nn + 1) cap, (sl3 (.wl t x)).n + 1, (sl3 (.wl t x)).xs ++ [.int .i32 (ci : Int), .int .i32 (p : Int)]⟩ (sl3 (.row t)).n ((sl3 (.row t)).xs.set x (.slice (some ⟨g, 0, none⟩) (nn + 1) cap))] at R6
    have L6 := HM3.out.L.addW t x htt hxV3 (ci, p) (.slice (some ⟨g, 0, none⟩) (nn + 1) cap)
    have B6 : Below B w w6 := by
     rw [← hW6]
     exact setTo (HB3.out.trans (HM3.out.R.below (.wl t x) (by rw [← HVV.out]; exact HG5))) hrB R5.size
    have HX : Hid (WIX F L A b B w bb st sl t l kept i w6) := ⟨_, _, R6, L6, HWM.out.1, by rw [setS_other _ _ (by intro e; cases e), setS_other _ _ (by intro e; injection e with _ e2; exact HWM.out.2 e2.symm)]; exact HSW3.out, HWN3.out.trans (WnR.add _ _ _ _), by
     simp only [St.addW, addW]
     rw [if_neg (by rintro ⟨_, e⟩; exact HWM.out.2 e.symm), HWW3.out], B6⟩
    clear R5 R6 L6 B6 KL KT KSS KP huA HOW hra hzr farR farL farC farB farW hown hgrow hat hlt5 hc5 hf5 e0
    go_wp2
    exact HQ.out _ _ _ _ _ _ _ _ _ _ _ _ _ _ _ _ _ _ _ _ _ _ _ _ _ _ _ _ _ _ _ _ _ _ _ _ _ _ _ _ _ _ _ _ _ _ _ _ _ _ _ _ _ _ _ _ _ _ _ _ _ _ _ _ _ _ _ _ _ _ _ _ _ _ _ _ _ _ _ _ _ _ _ _ _ _ _ _ _ _ _ _ _ _ _ _ _ _ _ _ _ _ _ _ _ _ _ _ _ _ _ _ _ _ _ _ _ _ _ HX.out
   ·have HP : Hid (WIN F L A b B w bb st sl wb ci t l kept i w9) := ⟨st1, sl1, p, c1, ((HM2.out.rest (Below.drew (Below.refl _ _))).rest B9), hW1, HC1.out, hp0, .inr (fun m hm hne => by
     obtain ⟨j, hj⟩ := List.getElem?_of_mem hm
     by_cases j0 : j = 0
     ·subst j0; rw [HP0.out] at hj; cases hj; exact absurd rfl hne
     ·by_cases j1 : j = 1
      ·subst j1; rw [HL1.out] at hj; cases hj; exact hW1.lf
      ·exact (hW1.co.hd.neg (r3 m hm)).1 (hall j m (by omega) hj)), HSW1.out, HWN1.out, HWW1.out, (Below.drew HB24.out).trans (B9.mono (by have := HM2.out.R.size; simpa using this))⟩
    have HB9 := hidden B9
    clear R9 B9 hall
    go_wp2_with fail
    refine hK.out _ _ (by first | assumption | exact KBl.out _ HB9.out) (fun hHeld12 => ?_)
    clear hK K
    (try simp only [Act.put]); (try simp only [sA]); (try simp only [sB, sC])
    refine tk 13 ?_
    refine wpAnyH_done (by kernel_rfl) ?_ _
    refine NoPanic.normal ?_
    clear KB KD KG KBl g3 g1 gh FN
    go_wp2
    exact HK.out _ _ _ _ _ _ _ _ _ _ _ _ _ _ _ _ _ _ _ _ _ _ _ _ _ _ _ _ _ _ _ _ _ _ _ _ _ _ _ _ _ _ _ _ _ _ _ _ _ _ _ _ _ _ _ _ _ _ _ _ _ _ _ _ _ _ _ _ _ _ _ _ _ _ _ _ _ _ _ _ _ _ _ _ _ _ _ _ _ _ _ _ _ _ _ _ _ _ _ _ _ _ _ _ _ _ _ _ _ _ _ _ _ _ _ _ _ _ _ HP.out
end Go.Proofs.Ytefjicdhccfieaa
