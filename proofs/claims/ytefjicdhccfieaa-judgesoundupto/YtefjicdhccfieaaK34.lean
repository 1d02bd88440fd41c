import Derived.Test.YtefjicdhccfieaaK01
import Derived.Test.YtefjicdhccfieaaK33
set_option maxRecDepth 100000
set_option maxHeartbeats 16000000
namespace Go.Proofs.Ytefjicdhccfieaa
open Go.RowKit
def WRN (F : List (List Int)) (L A : Int → Prop) (b B : Nat) (w : World) (bb : Nat) (st : St) (t l i gb n cap : Nat) (w' : World) (s8 : Value) : Prop :=
 ∃ st' sl' kept', WnR st st' ∧ Rows' B w' bb (fields sl' st') sl' ∧ Link sl' st' ∧ Wk F L A b st' t l kept' (i + 1) ∧ (sl' (.wl t l)).v = .slice (some ⟨gb, 0, none⟩) n cap ∧ (st'.W t l).length = n ∧ Below B w w' ∧ s8 = .int .i64 ((kept' : Nat) : Int)
def WRC (F : List (List Int)) (L A : Int → Prop) (b B : Nat) (w : World) (bb : Nat) (st : St) (ci : Nat) (w' : World) : Prop :=
 ∃ st' sl', WnR st st' ∧ Rows' B w' bb (fields sl' st') sl' ∧ Link sl' st' ∧ Core F L A b st' st'.W ∧ (∃ c', st'.cls[ci]? = some c' ∧ ∀ m, m ∈ c'.l → oppN m ∈ st'.trail) ∧ Below B w w'
theorem wakeRound (F : List (List Int)) (L A : Int → Prop) (b B : Nat) (w : World) (bb : Nat) (st : St) (sl : Site → Slot) (t l kept i n cap gb : Nat) (R : Rows' B w bb (fields sl st) sl) (Lk : Link sl st) (hW : Wk F L A b st t l kept i) (HN0 : Hid (n = (st.W t l).length)) (hi : i < n) (HVL : Hid ((sl (.wl t l)).v = .slice (some ⟨gb, 0, none⟩) n cap)) (hncl : st.cls.length ≤ 67108864) (hn4 : n ≤ 67108864) (K' : Act → World → Prop) (Q0 : Exit → Act → World → Prop) (x3 x4 x5 x6 x9 x10 x11 x12 x13 x14 x15 x16 x17 x18 x19 x20 x22 x24 x25 x26 x27 x28 x29 x30 x31 x32 x33 x34 x35 x36 x37 x38 x39 x40 x41 x42 x43 x44 x45 x46 x47 x48 x49 x50 x51 x52 x53 x54 x55 x56 x57 x58 x59 x60 x61 x62 x63 x64 x65 x66 x67 x68 x69 x70 x71 x72 x73 x74 x75 x76 x77 x78 x79 x80 x81 x82 x83 x84 x85 x86 x87 x88 x89 x90 x91 x92 x93 x94 x95 x96 x97 x98 x99 x100 x101 x102 x103 x104 x105 x106 x107 x108 x109 x110 x111 x112 x113 x114 x115 x116 x117 x118 x119 x120 x121 x122 x123 x124 x125 x126 x127 x128 x129 x130 x131 x132 x133 x134 x135 x136 x137 x138 x139 x140 x141 x142 x143 x144 x145 x146 x147 x148 x149 x150 x151 x152 x153 x154 x155 x156 x157 x158 x159 x160 x161 x162 x163 x164 x165 x166 x167 x168 x169 x170 x171 x172 x173 x174 x175 x176 x177 x178 x179 x180 x181 x182 x183 x184 x185 x186 x187 x188 x189 x190 x191 x192 x193 x194 x195 x196 x197 x198 x199 x200 x201 x202 x203 x204 x205 x206 x207 x208 x209 x210 x211 x212 x213 x214 x215 x216 x217 : Value)
  (HK : Hid (∀ (w' : World) (s8 s9 s10 s11 s25 s26 s27 s28 s29 s30 s31 s32 s33 s34 s35 s36 s37 s38 s39 s40 s41 s42 s43 s44 s45 s46 s47 s48 s49 s50 s51 s52 s53 s54 s55 s56 s57 s58 s59 s60 s61 s62 s63 s64 s65 s66 s67 s68 s69 s70 s71 s72 s73 s74 s75 s76 s77 s78 s79 s80 s81 s82 s83 s84 s85 s86 s87 s88 s89 s90 s91 s92 s93 s94 s95 s96 s97 s98 s99 s100 s101 s102 s103 s104 s105 s106 s107 s108 s109 s110 s111 s112 s113 s114 s115 s116 s117 s118 s119 s120 s121 s122 s123 s124 s125 s126 s127 s128 s129 s130 s131 s132 s133 s134 s135 s136 s137 s138 s139 s140 s141 s142 s143 s144 s145 s146 s147 s148 s149 s150 s151 s152 s153 s154 s155 s156 s157 s158 s159 s160 s161 s162 s163 s164 s165 s166 s167 s168 s169 s170 s171 s172 s173 s174 s175 s176 s177 s178 s179 s180 s181 s182 s183 s184 s185 s186 s187 s188 s189 s190 s191 s192 s193 s194 s195 s196 s197 s198 s199 s200 s201 s202 s203 s204 s205 : Value), WRN F L A b B w bb st t l i gb n cap w' s8 → K' ⟨#[.pointer (some ⟨bb, 0, none⟩), .int .i32 (l : Int), .int .i64 (t : Int), x3, x4, x5, x6, .slice (some ⟨gb, 0, none⟩) n cap, s8, s9, s10, s11, x12, x13, x14, x15, x16, x17, x18, x19, x20, .slice (some ⟨gb, 0, none⟩) n cap, x22, .int .i64 (i : Int), x24, s25, s26, s27, s28, s29, s30, s31, s32, s33, s34, s35, s36, s37, s38, s39, s40, s41, s42, s43, s44, s45, s46, s47, s48, s49, s50, s51, s52, s53, s54, s55, s56, s57, s58, s59, s60, s61, s62, s63, s64, s65, s66, s67, s68, s69, s70, s71, s72, s73, s74, s75, s76, s77, s78, s79, s80, s81, s82, s83, s84, s85, s86, s87, s88, s89, s90, s91, s92, s93, s94, s95, s96, s97, s98, s99, s100, s101, s102, s103, s104, s105, s106, s107, s108, s109, s110, s111, s112, s113, s114, s115, s116, s117, s118, s119, s120, s121, s122, s123, s124, s125, s126, s127, s128, s129, s130, s131, s132, s133, s134, s135, s136, s137, s138, s139, s140, s141, s142, s143, s144, s145, s146, s147, s148, s149, s150, s151, s152, s153, s154, s155, s156, s157, s158, s159, s160, s161, s162, s163, s164, s165, s166, s167, s168, s169, s170, s171, s172, s173, s174, s175, s176, s177, s178, s179, s180, s181, s182, s183, s184, s185, s186, s187, s188, s189, s190, s191, s192, s193, s194, s195, s196, s197, s198, s199, s200, s201, s202, s203, s204, s205, x206, x207, x208, x209, x210, x211, x212, x213, x214, x215, x216, x217], []⟩ w'))
  (HQ : Hid (∀ (ci : Nat) (a' : Act) (w' : World), a'.defers = [] → a'.tmps[6]?.getD undef = .int .i32 (ci : Int) → WRC F L A b B w bb st ci w' → Q0 .ret a' w')):
  Code.wp Try.prog ((Try.f72.body.bind (blockAt 1)).getD .skip) (Exit.then K' Q0) ⟨#[.pointer (some ⟨bb, 0, none⟩), .int .i32 (l : Int), .int .i64 (t : Int), x3, x4, x5, x6, .slice (some ⟨gb, 0, none⟩) n cap, .int .i64 (kept : Int), x9, x10, x11, x12, x13, x14, x15, x16, x17, x18, x19, x20, .slice (some ⟨gb, 0, none⟩) n cap, x22, .int .i64 (i : Int), x24, x25, x26, x27, x28, x29, x30, x31, x32, x33, x34, x35, x36, x37, x38, x39, x40, x41, x42, x43, x44, x45, x46, x47, x48, x49, x50, x51, x52, x53, x54, x55, x56, x57, x58, x59, x60, x61, x62, x63, x64, x65, x66, x67, x68, x69, x70, x71, x72, x73, x74, x75, x76, x77, x78, x79, x80, x81, x82, x83, x84, x85, x86, x87, x88, x89, x90, x91, x92, x93, x94, x95, x96, x97, x98, x99, x100, x101, x102, x103, x104, x105, x106, x107, x108, x109, x110, x111, x112, x113, x114, x115, x116, x117, x118, x119, x120, x121, x122, x123, x124, x125, x126, x127, x128, x129, x130, x131, x132, x133, x134, x135, x136, x137, x138, x139, x140, x141, x142, x143, x144, x145, x146, x147, x148, x149, x150, x151, x152, x153, x154, x155, x156, x157, x158, x159, x160, x161, x162, x163, x164, x165, x166, x167, x168, x169, x170, x171, x172, x173, x174, x175, x176, x177, x178, x179, x180, x181, x182, x183, x184, x185, x186, x187, x188, x189, x190, x191, x192, x193, x194, x195, x196, x197, x198, x199, x200, x201, x202, x203, x204, x205, x206, x207, x208, x209, x210, x211, x212, x213, x214, x215, x216, x217], []⟩ w := by
 conv => arg 2; whnf
 obtain ⟨e, he⟩ := getElem_lt (show i < (st.W t l).length by have := HN0.out; omega)
 obtain ⟨ci, o⟩ := e
 have HHE := hidden he
 have htt := hW.tt
 have hlV := hW.lV
 have hki := hW.k
 obtain ⟨c, hc, hoc, hwt, htz⟩ := hW.entry he
 have HHC := hidden hc
 have HTZ := hidden htz
 obtain ⟨w1', w2'⟩ := Lk.wl t l htt hlV
 have hnE : (sl (.wl t l)).n = n := by rw [w1', HN0.out]
 obtain ⟨gb', cap', hv', hgB, hgl, hncap, hgcell, hgfz⟩ := R.form (.wl t l) (by rw [hnE]; omega)
 have eg : gb = gb' ∧ cap = cap' := by
  rw [HVL.out, hnE] at hv'
  cases hv'; exact ⟨rfl, rfl⟩
 obtain ⟨rfl, rfl⟩ := eg
 have ce0 : w.cell? ⟨gb, i * 2, none⟩ = some (.int .i32 (ci : Int)) := by
  rw [hgcell (i * 2) (by rw [hnE]; simp [Site.sz]; omega), w2']; exact (wlV_get _ he).1
 have ce1 : w.cell? ⟨gb, i * 2 + 1, none⟩ = some (.int .i32 (o : Int)) := by
  rw [hgcell (i * 2 + 1) (by rw [hnE]; simp [Site.sz]; omega), w2']; exact (wlV_get _ he).2
 have hnc : n ≤ cap := by rw [← hnE]; exact hncap
 have hiI : (i : Int) < (n : Int) := by omega
 have HW0 := hidden hW
 have HR0 := hidden R
 have HL0 := hidden Lk
 have q := hW.co.wd.two ci c hc
 clear hgcell he hwt hc hv' htz hgfz hncap w1' w2' R
 refine wp_block ?_
 refine wp_seq_k (fun K1 hK1 => ?_)
 have HK1 := hidden hK1
 clear hK1
 go_wp2_with fail
 refine HK1.out _ _ ?_
 clear HK1 K1 ce0 ce1
 generalize hW1 : World.alloc w _ = w1
 have hbw1 : Below w.heap.size w w1 := by rw [← hW1]; exact Below.alloc (Below.refl _ _) (Nat.le_refl _) _
 have M1 : WkM B w1 bb st sl w.heap.size ci o := ⟨HR0.out.rest hbw1, HL0.out, by rw [← hW1]; exact heap_new _ _, fun s e => by have := ((HR0.out.rows s).lt _ e).2; omega, fun e => by have := HR0.out.lt; omega, HR0.out.size⟩
 have HB1 : Hid (Below B w w1) := hbw1.mono HR0.out.size
 obtain ⟨wb, hwb⟩ : ∃ x, x = w.heap.size := ⟨_, rfl⟩
 rw [← hwb] at M1 ⊢
 clear hwb hW1 hbw1 hgl
 have HM1 := hidden M1
 refine wp_seq_k (fun K2 hK2 => ?_)
 have HK2 := hidden hK2
 clear hK2
 refine wakeNear B w1 bb st sl wb ci o t M1 c HHC.out q.1 q.2.2.2.1 htt HTZ.out _ _ _ _ _ _ _ _ _ _ _ _ _ _ _ _ _ _ _ _ _ _ _ _ _ _ _ _ _ _ _ _ _ _ _ _ _ _ _ _ _ _ _ _ _ _ _ _ _ _ _ _ _ _ _ _ _ _ _ _ _ _ _ _ _ _ _ _ _ _ _ _ _ _ _ _ _ _ _ _ _ _ _ _ _ _ _ _ _ _ _ _ _ _ _ _ _ _ _ _ _ _ _ _ _ _ _ _ _ _ _ _ _ _ _ _ _ _ _ _ _ _ _ _ _ _ _ _ _ _ _ _ _ _ _ _ _ _ _ _ _ _ _ _ _ _ _ _ _ _ _ _ _ _ _ _ _ _ _ _ _ _ _ _ _ _ _ _ _ _ _ _ _ _ _ _ _ _ _ _ _ _ _ _ _ _ _ _ _ _ _ _ _ _ _ _ _ _ _ _ _ _ _ _ _ _ _ _ _ _ _ _ _ _ _ _ _ (hidden ?_) (hidden ?_)
 rotate_left
 ·intro w2 s28 s29 s30 s31 s32 s33 s34 s35 s36 s37 s38 s39 s40 s41 hh
  obtain ⟨h1, h2⟩ := hh
  have HP : Hid (WRN F L A b B w bb st t l i gb n cap w2 (.int .i64 (kept : Int))) := ⟨st, sl, kept, WnR.refl _, (HM1.out.rest h2).R, HL0.out, HW0.out.skip HHE.out HHC.out h1, HVL.out, HN0.out.symm, HB1.out.trans (h2.mono HM1.out.R.size), rfl⟩
  exact HK.out _ _ _ _ _ _ _ _ _ _ _ _ _ _ _ _ _ _ _ _ _ _ _ _ _ _ _ _ _ _ _ _ _ _ _ _ _ _ _ _ _ _ _ _ _ _ _ _ _ _ _ _ _ _ _ _ _ _ _ _ _ _ _ _ _ _ _ _ _ _ _ _ _ _ _ _ _ _ _ _ _ _ _ _ _ _ _ _ _ _ _ _ _ _ _ _ _ _ _ _ _ _ _ _ _ _ _ _ _ _ _ _ _ _ _ _ _ _ _ _ _ _ _ _ _ _ _ _ _ _ _ _ _ _ _ _ _ _ _ _ _ _ _ _ _ _ _ _ _ _ _ _ _ _ _ _ _ _ _ _ _ _ _ _ _ _ _ _ _ _ _ _ _ _ _ _ _ _ _ _ _ _ _ _ _ _ HP.out
 intro w2 s28 s29 s30 s31 s32 s33 s34 s35 s36 s37 s38 s39 s40 s41 hh
 obtain ⟨htier, hb2⟩ := hh
 refine HK2.out _ _ ?_
 clear HK2 K2
 have M2 := HM1.out.rest hb2
 have HB2 : Hid (Below B w w2) := HB1.out.trans (hb2.mono HM1.out.R.size)
 clear M1 HM1 HB1 hb2 q
 refine wp_seq_k (fun K3 hK3 => ?_)
 have HK3 := hidden hK3
 clear hK3
 refine wakeIf F L A b B w2 bb st sl wb ci o t l kept i M2 hW HHE.out c HHC.out htier hncl _ _ _ _ _ _ _ _ _ _ _ _ _ _ _ _ _ _ _ _ _ _ _ _ _ _ _ _ _ _ _ _ _ _ _ _ _ _ _ _ _ _ _ _ _ _ _ _ _ _ _ _ _ _ _ _ _ _ _ _ _ _ _ _ _ _ _ _ _ _ _ _ _ _ _ _ _ _ _ _ _ _ _ _ _ _ _ _ _ _ _ _ _ _ _ _ _ _ _ _ _ _ _ _ _ _ _ _ _ _ _ _ _ _ _ _ _ _ _ _ _ _ _ _ _ _ _ _ _ _ _ _ _ _ _ _ _ _ _ _ _ _ _ _ _ _ _ _ _ _ _ _ _ _ _ _ _ _ _ _ _ _ _ _ _ _ _ _ _ _ _ _ _ _ _ _ _ _ _ _ _ _ _ _ _ _ _ _ _ _ _ _ _ _ _ _ _ _ _ _ _ _ _ _ _ _ _ _ _ _ _ _ _ _ _ _ (hidden ?_) (hidden ?_)
 rotate_left
 ·intro w3 s11 s42 s43 s44 s45 s46 s47 s48 s49 s50 s51 s52 s53 s54 s55 s56 s57 s58 s59 s60 s61 s62 s63 s64 s65 s66 s67 s68 s69 s70 s71 s72 s73 s74 s75 s76 s77 s78 s79 s80 s81 s82 s83 s84 s85 s86 s87 s88 s89 s90 s91 s92 s93 s94 s95 s96 s97 s98 s99 s100 s101 s102 s103 s104 s105 s106 s107 s108 s109 s110 s111 s112 s113 s114 s115 s116 s117 s118 s119 s120 s121 s122 s123 s124 s125 s126 s127 s128 s129 s130 s131 s132 s133 s134 s135 s136 s137 s138 s139 s140 s141 s142 s143 s144 s145 s146 s147 s148 s149 s150 s151 s152 s153 s154 s155 s156 s157 s158 hh
  obtain ⟨st', sl', h1, h2, h3, h4, h5, h6, h7⟩ := hh
  have HP : Hid (WRN F L A b B w bb st t l i gb n cap w3 (.int .i64 (kept : Int))) := ⟨st', sl', kept, h5, h1, h2, h3, by rw [h4]; exact HVL.out, by rw [h6]; exact HN0.out.symm, HB2.out.trans h7, rfl⟩
  exact HK.out _ _ _ _ _ _ _ _ _ _ _ _ _ _ _ _ _ _ _ _ _ _ _ _ _ _ _ _ _ _ _ _ _ _ _ _ _ _ _ _ _ _ _ _ _ _ _ _ _ _ _ _ _ _ _ _ _ _ _ _ _ _ _ _ _ _ _ _ _ _ _ _ _ _ _ _ _ _ _ _ _ _ _ _ _ _ _ _ _ _ _ _ _ _ _ _ _ _ _ _ _ _ _ _ _ _ _ _ _ _ _ _ _ _ _ _ _ _ _ _ _ _ _ _ _ _ _ _ _ _ _ _ _ _ _ _ _ _ _ _ _ _ _ _ _ _ _ _ _ _ _ _ _ _ _ _ _ _ _ _ _ _ _ _ _ _ _ _ _ _ _ _ _ _ _ _ _ _ _ _ _ _ _ _ _ _ HP.out
 intro w3 s11 s42 s43 s44 s45 s46 s47 s48 s49 s50 s51 s52 s53 s54 s55 s56 s57 s58 s59 s60 s61 s62 s63 s64 s65 s66 s67 s68 s69 s70 s71 s72 s73 s74 s75 s76 s77 s78 s79 s80 s81 s82 s83 s84 s85 s86 s87 s88 s89 s90 s91 s92 s93 s94 s95 s96 s97 s98 s99 s100 s101 s102 s103 s104 s105 s106 s107 s108 s109 s110 s111 s112 s113 s114 s115 s116 s117 s118 s119 s120 s121 s122 s123 s124 s125 s126 s127 s128 s129 s130 s131 s132 s133 s134 s135 s136 s137 s138 s139 s140 s141 s142 s143 s144 s145 s146 s147 s148 s149 s150 s151 s152 s153 s154 s155 s156 s157 s158 hh
 refine HK3.out _ _ ?_
 clear HK3 K3
 obtain ⟨st1, sl1, p, c1, M3, hW1, hc1', hp, hor', hSW, hWN, hWW, hB3⟩ := hh
 have HC1 := hidden hc1'
 have HOR := hidden hor'
 have HWN := hidden hWN
 have HB3 : Hid (Below B w w3) := HB2.out.trans hB3
 have HHE1 : Hid ((st1.W t l)[i]? = some (ci, o)) := by show _ = _; rw [hWW]; exact HHE.out
 have HN1 : Hid (n = (st1.W t l).length) := by show _ = _; rw [hWW]; exact HN0.out
 have hVV := hWN.V
 have hVL1 : (sl1 (.wl t l)).v = .slice (some ⟨gb, 0, none⟩) n cap := by rw [hSW]; exact HVL.out
 have hn1 : (sl1 (.wl t l)).n = n := by rw [hSW]; exact hnE
 have hlV1 : l < 2 * st1.V := by rw [hVV]; exact hlV
 obtain ⟨hpl, hpn, hpV, -, -, -⟩ := hW1.co.wd.two ci c1 hc1'
 have hpV1 := hpV p hp
 have hpV' : p < 2 * st.V := by rw [hVV] at hpV1; exact hpV1
 obtain ⟨y0, hy0⟩ := M3.R.get (.wl t l) (j := kept * 2) (by rw [hn1]; simp [Site.sz]; omega)
 obtain ⟨y1, hy1⟩ := M3.R.get (.wl t l) (j := kept * 2 + 1) (by rw [hn1]; simp [Site.sz]; omega)
 obtain ⟨gb', cap', hv', -, -, -, hgcell, hgfz⟩ := M3.R.form (.wl t l) (by rw [hn1]; omega)
 have eg : gb = gb' ∧ cap = cap' := by
  rw [hVL1, hn1] at hv'
  cases hv'; exact ⟨rfl, rfl⟩
 obtain ⟨rfl, rfl⟩ := eg
 have ck0 := (hgcell (kept * 2) (by rw [hn1]; simp [Site.sz]; omega)).trans hy0
 have ck1 := (hgcell (kept * 2 + 1) (by rw [hn1]; simp [Site.sz]; omega)).trans hy1
 have zk0 := hgfz (kept * 2)
 have zk1 := hgfz (kept * 2 + 1)
 have cq1 : (w3.setCell ⟨gb, kept * 2, none⟩ (.int .i32 (ci : Int))).cell? ⟨gb, kept * 2 + 1, none⟩ = some y1 := (World.cell?_setCell_other (h := fun e => by injection e; omega) ..).trans ck1
 have zq1 : (w3.setCell ⟨gb, kept * 2, none⟩ (.int .i32 (ci : Int))).frozen? ⟨gb, kept * 2 + 1, none⟩ = false := (World.frozen?_setCell _ _ _ _).trans zk1
 have b0 := M3.c0
 have b1 := M3.c1
 have HSET := hidden (M3.setW htt hlV1 (gb := gb) (cap := cap) (by rw [hn1]; exact hVL1) kept (ci, p))
 have hkI : (kept : Int) < (n : Int) := by omega
 have e16 : IntKind.i64.wrap ((kept : Int) + 1) = (kept : Int) + 1 := wrapI _ (by omega) (by omega)
 have HW1 := hidden hW1
 have HM3 := hidden M3
 have hhd := hW1.co.hd
 obtain ⟨z, HZV⟩ : ∃ y, Hid (y = st1.held.getD p 0) := ⟨_, rfl⟩
 have hzv : z = 1 ∨ z = 0 ∨ z = -1 := by rw [HZV.out]; exact hhd.val hpV1
 have HHD := hidden hhd
 have HV0 := hidden HL0.out.hV
 clear hgcell hgfz hy0 hy1 hv' hc1' hor' hWN hWW hB3 hSW M2 hpV
 go_upto_region 17 with fail
 generalize hW4 : World.setCell (World.setCell w3 _ _) _ _ = w4
 rw [hW4] at HSET
 obtain ⟨sl2, M4, hvs, hB4'⟩ := HSET.out
 obtain ⟨st2, HST2⟩ : ∃ s, Hid (s = st1.putW t l ((st1.W t l).set kept (ci, p))) := ⟨_, rfl⟩
 rw [← HST2.out] at M4
 have HB4 : Hid (Below B w w4) := HB3.out.trans hB4'
 have HV2 : Hid (st2.V = st.V) := by rw [HST2.out]; exact hVV
 have HH2 : Hid (st2.held = st1.held) := by rw [HST2.out]; rfl
 have HVL2 : Hid ((sl2 (.wl t l)).v = .slice (some ⟨gb, 0, none⟩) n cap) := by rw [hvs]; exact hVL1
 have HN2 : Hid ((st2.W t l).length = n) := by show _ = _; rw [HST2.out]; simp only [St.putW, putW_same, List.length_set]; exact HN1.out.symm
 have HWN2 : Hid (WnR st st2) := by rw [HST2.out]; exact HWN.out.trans (WnR.put _ _ _ _)
 obtain ⟨hb, hcp, f3, hcell⟩ := M4.heldC (by rw [HV2.out]; omega)
 rw [HV2.out] at f3 hcell
 obtain ⟨N, HN⟩ : ∃ N, Hid (N = 2 * st.V) := ⟨_, rfl⟩
 rw [← HN.out] at f3
 have ch := hcell p hpV'
 rw [HH2.out, ← HZV.out] at ch
 have g1 := M4.c1
 have g0 := M4.c0
 have hpI : (p : Int) < (N : Int) := by have := HN.out; omega
 have KB : Hid ((fun w' => w'.cell? ⟨bb, 3, none⟩ = some (.slice (some ⟨hb, 0, none⟩) N hcp) ∧ w'.cell? ⟨wb, 1, none⟩ = some (.int .i32 (p : Int)) ∧ w'.cell? ⟨hb, p, none⟩ = some (.int .i8 z)) w4) := ⟨f3, g1, ch⟩
 have HM4 := hidden M4
 clear hcell hW4 HSET hB4' ck0 ck1 zk0 zk1 cq1 zq1 b0 b1 hvs M4 HM3
 refine wp_region_noPanic ?_
 refine wp_region_held_drew (S := (fun w' => w'.cell? ⟨bb, 3, none⟩ = some (.slice (some ⟨hb, 0, none⟩) N hcp) ∧ w'.cell? ⟨wb, 1, none⟩ = some (.int .i32 (p : Int)) ∧ w'.cell? ⟨hb, p, none⟩ = some (.int .i8 z))) (by kernel_rfl) (by first | assumption | exact KB.out) (fun hHeld => ?_)
 refine tk 0 ?_
 refine tk 1 ?_
 refine tk 2 ?_
 refine tk 3 ?_
 refine tk 4 ?_
 refine tk 5 ?_
 refine tk 6 ?_
 refine tk 7 ?_
 refine wpAnyH_done (by kernel_rfl) ?_ _
 refine NoPanic.normal ?_
 clear KB f3 ch g1
 rcases hzv with rfl | rfl | rfl
 ·have HP : Hid (WRN F L A b B w bb st t l i gb n cap w4.drew (.int .i64 (kept + 1 : Int))) := ⟨st2, sl2, kept + 1, HWN2.out, (HM4.out.rest (Below.drew (Below.refl _ _))).R, HM4.out.L, by rw [HST2.out]; exact HW1.out.kept' HHE1.out HC1.out hp hp ((HHD.out.pos hpV1).1 (by rw [← HZV.out]; decide)), HVL2.out, HN2.out, Below.drew HB4.out, by simp⟩
  go_wp2
  exact HK.out _ _ _ _ _ _ _ _ _ _ _ _ _ _ _ _ _ _ _ _ _ _ _ _ _ _ _ _ _ _ _ _ _ _ _ _ _ _ _ _ _ _ _ _ _ _ _ _ _ _ _ _ _ _ _ _ _ _ _ _ _ _ _ _ _ _ _ _ _ _ _ _ _ _ _ _ _ _ _ _ _ _ _ _ _ _ _ _ _ _ _ _ _ _ _ _ _ _ _ _ _ _ _ _ _ _ _ _ _ _ _ _ _ _ _ _ _ _ _ _ _ _ _ _ _ _ _ _ _ _ _ _ _ _ _ _ _ _ _ _ _ _ _ _ _ _ _ _ _ _ _ _ _ _ _ _ _ _ _ _ _ _ _ _ _ _ _ _ _ _ _ _ _ _ _ _ _ _ _ _ _ _ _ _ _ _ HP.out
 ·have hnt : p ∉ st1.trail := fun hh => by have := (HHD.out.pos hpV1).2 hh; rw [← HZV.out] at this; omega
  have hm : ∀ m, m ∈ c1.l → m ≠ p → oppN m ∈ st1.trail := by
   rcases HOR.out with h | h
   ·exact absurd h hnt
   ·exact h
  have HWT : Hid (Wk F L A b (st2.hold p (ci : Int)) t l (kept + 1) (i + 1)) := by rw [HST2.out]; exact HW1.out.tell HHE1.out HC1.out hp HZV.out.symm hm
  have HTL : Hid (st2.trail.length ≤ 67108864) := by
   show _ ≤ _
   rw [HST2.out]
   have := HHD.out.len
   rw [hVV] at this
   have := HV0.out
   show st1.trail.length ≤ _
   omega
  have HCALL : Hid (∀ w', Below w4.heap.size w4 w' → Calls Try.prog 39 #[.pointer (some ⟨bb, 0, none⟩), .int .i32 (p : Int), .int .i32 (ci : Int)] w' fun e w'' => e = .returned (.tuple #[]) ∧ (∃ sl', Rows' B w'' bb (fields sl' (st2.hold p (ci : Int))) sl' ∧ Link sl' (st2.hold p (ci : Int)) ∧ ∀ s, s ≠ .held → s ≠ .reason → s ≠ .trail → sl' s = sl2 s) ∧ Below B w' w'') := fun w' hb' => hold_open B w' bb st2 sl2 p (ci : Int) (HM4.out.rest hb').R HM4.out.L (by rw [HV2.out]; exact hpV') HTL.out
  have g1 : w4.drew.cell? ⟨wb, 1, none⟩ = some (.int .i32 (p : Int)) := HM4.out.c1
  clear hm hnt
  go_wp2_with fail
  go_at_call 39
  refine (HCALL.out _ (by first | exact Below.drew (Below.refl _ _) | exact Below.drew (Below.drew (Below.refl _ _)) | exact Below.refl _ _)).mono ?_
  rintro e w9 ⟨rfl, ⟨sl', h1, h2, h3⟩, h4⟩
  have HP : Hid (WRN F L A b B w bb st t l i gb n cap w9 (.int .i64 (kept + 1 : Int))) := ⟨st2.hold p (ci : Int), sl', kept + 1, HWN2.out.trans (WnR.hold _ _ _), h1, h2, HWT.out, by rw [h3 _ (by intro e; cases e) (by intro e; cases e) (by intro e; cases e)]; exact HVL2.out, HN2.out, (Below.drew HB4.out).trans (by first | exact h4 | exact (Below.drew (Below.refl _ _)).trans h4), by simp⟩
  clear h1 h2 h3 h4 HCALL g1
  go_wp2
  exact HK.out _ _ _ _ _ _ _ _ _ _ _ _ _ _ _ _ _ _ _ _ _ _ _ _ _ _ _ _ _ _ _ _ _ _ _ _ _ _ _ _ _ _ _ _ _ _ _ _ _ _ _ _ _ _ _ _ _ _ _ _ _ _ _ _ _ _ _ _ _ _ _ _ _ _ _ _ _ _ _ _ _ _ _ _ _ _ _ _ _ _ _ _ _ _ _ _ _ _ _ _ _ _ _ _ _ _ _ _ _ _ _ _ _ _ _ _ _ _ _ _ _ _ _ _ _ _ _ _ _ _ _ _ _ _ _ _ _ _ _ _ _ _ _ _ _ _ _ _ _ _ _ _ _ _ _ _ _ _ _ _ _ _ _ _ _ _ _ _ _ _ _ _ _ _ _ _ _ _ _ _ _ _ _ _ _ _ HP.out
 ·have hnt : p ∉ st1.trail := fun hh => by have := (HHD.out.pos hpV1).2 hh; rw [← HZV.out] at this; omega
  have HALL : Hid (∀ m, m ∈ c1.l → oppN m ∈ st1.trail) := fun m hm => by
   by_cases e : m = p
   ·subst e; exact (HHD.out.neg hpV1).1 (by rw [← HZV.out]; decide)
   ·rcases HOR.out with h | h
    ·exact absurd h hnt
    ·exact h m hm e
  have HKC := hidden (HW1.out.keep HHE1.out HC1.out hp).1
  rw [← HST2.out] at HKC
  obtain ⟨m, HMM⟩ : ∃ m, Hid (m = n - (i + 1)) := ⟨_, rfl⟩
  obtain ⟨k3, HK3⟩ : ∃ m', Hid (m' = kept + 1 + m) := ⟨_, rfl⟩
  obtain ⟨cs, HCS⟩ : ∃ c, Hid (c = wlV ((st2.W t l).drop (i + 1))) := ⟨_, rfl⟩
  have HCL : Hid (cs.length = m * 2) := by show _ = _; rw [HCS.out, wlV_len, List.length_drop, HN2.out, HMM.out]
  have HSZ : Hid ((Try.prog.info? 118).map (·.size) = some 2) := by
   obtain ⟨i, h1, _, h3, _⟩ := info_w
   show _ = _
   rw [h1]; simp [h3]
  have HC1C : Hid (∀ v ∈ cs, v.oneCell' = true) := by rw [HCS.out]; exact wlV_one _
  have htt2 : l < 2 * st2.V := by rw [HV2.out]; exact hlV
  have HXS := hidden (HM4.out.L.wl t l htt htt2).2
  have HNN2 : Hid ((sl2 (.wl t l)).n = n) := by show _ = _; rw [(HM4.out.L.wl t l htt htt2).1]; exact HN2.out
  have HCE : Hid (∀ w', Below w4.heap.size w4 w' → (∀ j v, cs[j]? = some v → w'.cell? ((⟨gb, (i + 1) * 2, none⟩ : Addr).add j) = some v) ∧ (∀ j, j < cs.length → (w'.cell? ⟨gb, (kept + 1) * 2 + j, none⟩).isSome = true) ∧ ∀ j, j < cs.length → w'.frozen? ⟨gb, (kept + 1) * 2 + j, none⟩ = false) := fun w' hb' => by
   have M := HM4.out.rest hb'
   obtain ⟨gb', cap', hv', -, -, -, hgcell, hgfz⟩ := M.R.form (.wl t l) (by rw [HNN2.out]; omega)
   have eg : gb = gb' := by
    rw [HVL2.out, HNN2.out] at hv'
    cases hv'; rfl
   subst eg
   have hcl := HCL.out
   have hmm := HMM.out
   refine ⟨fun j v hj => ?_, fun j hj => ?_, fun j _ => hgfz _⟩
   ·have hadd : (⟨gb, (i + 1) * 2, none⟩ : Addr).add j = ⟨gb, (i + 1) * 2 + j, none⟩ := by unfold Addr.add; split <;> simp_all
    have hjl := (List.getElem?_eq_some_iff.1 hj).1
    rw [hadd, hgcell _ (by rw [HNN2.out]; simp [Site.sz]; omega), HXS.out, ← List.getElem?_drop, wlV_drop, ← HCS.out]
    exact hj
   ·rw [hgcell _ (by rw [HNN2.out]; simp [Site.sz]; omega)]
    obtain ⟨u, hu⟩ := M.R.get (.wl t l) (j := (kept + 1) * 2 + j) (by rw [HNN2.out]; simp [Site.sz]; omega)
    rw [hu]; rfl
  have RS : Hid (∀ w', Below w4.heap.size w4 w' → Rows' B (w'.setCells gb ((kept + 1) * 2) cs) bb (fields sl2 st2) (setS sl2 (.wl t l) ⟨.slice (some ⟨gb, 0, none⟩) n cap, n, setL (wlV (st2.W t l)) ((kept + 1) * 2) cs⟩) ∧ Below B w (w'.setCells gb ((kept + 1) * 2) cs) ∧ (w'.setCells gb ((kept + 1) * 2) cs).cell? ⟨wb, 0, none⟩ = some (.int .i32 (ci : Int))) := fun w' hb' => by
   have M := HM4.out.rest hb'
   obtain ⟨r1, r2⟩ := M.R.setRs (.wl t l) (g := gb) (cap := cap) (by rw [HVL2.out, HNN2.out]) ((kept + 1) * 2) cs
   rw [HVL2.out, HNN2.out, HXS.out] at r1
   refine ⟨r1, (HB4.out.trans (hb'.mono HM4.out.R.size)).trans ⟨r2.os, r2.tape, r2.output, r2.size, fun k hk => r2.block k (by have := M.R.size; omega) (fun e => by have := Option.some.inj e; omega)⟩, ?_⟩
   exact r2.cell M.c0 (fun e => M.far (.wl t l) (by rw [HVL2.out]; exact e.symm))
  have hk0 : (0 : Int) ≤ (kept : Int) + 1 := by omega
  have hk1 : (kept : Int) + 1 ≤ (n : Int) := by omega
  have hi0 : (0 : Int) ≤ (i : Int) + 1 := by omega
  have hi1 : (i : Int) + 1 ≤ (n : Int) := by omega
  have e18 : IntKind.i64.wrap ((i : Int) + 1) = (i : Int) + 1 := wrapI _ (by omega) (by omega)
  have e19 : IntKind.i64.wrap ((kept : Int) + 1 + (m : Int)) = (k3 : Int) := by
   have h1 := HMM.out
   have h2 := HK3.out
   rw [wrapI _ (by omega) (by omega)]; omega
  go_upto_region 19 with fail
  refine wp_region_noPanic ?_
  refine wp_region_held_drew (S := (fun _ => True)) (by kernel_rfl) (by trivial) (fun hHeld => ?_)
  refine tk 0 ?_
  refine tk 1 ?_
  refine tk 2 ?_
  refine tk 3 ?_
  refine tk 4 ?_
  refine tk 5 ?_
  refine tk 6 ?_
  refine tk 7 ?_
  refine wpAnyH_ready (rs := [8]) (by kernel_rfl) (by simp) ?_
  refine AllReadyH.cons (o := _) rfl (fun K hK => ?_) AllReadyH.nil
  refine step_copy2 rfl (.tmp 178) (.tmp 182) 86 86 rfl 118 Try.underlying86 HSZ.out _ _ _ _ _ _ rfl rfl gb ((kept + 1) * 2) m (by rw [HMM.out]; simp only [Nat.min_def]; split <;> omega) cs HCL.out (fun hm0 => ⟨if_neg (by have := HMM.out; omega), ⟨gb, (i + 1) * 2, none⟩, if_neg (by have := HMM.out; omega), (HCE.out _ (by first | exact Below.refl _ _ | exact Below.drew (Below.refl _ _) | exact Below.drew (Below.drew (Below.refl _ _)))).1⟩) (HCE.out _ (by first | exact Below.refl _ _ | exact Below.drew (Below.refl _ _) | exact Below.drew (Below.drew (Below.refl _ _)))).2.1 (HCE.out _ (by first | exact Below.refl _ _ | exact Below.drew (Below.refl _ _) | exact Below.drew (Below.drew (Below.refl _ _)))).2.2 HC1C.out ?_
  refine hK.out _ _ trivial (fun hHeldc => ?_)
  clear hK K
  (try simp only [goInt])
  (try simp only [Act.put]); (try simp only [sA]); (try simp only [sB, sC])
  refine tk 9 ?_
  refine tk 10 ?_
  refine wpAnyH_done (by kernel_rfl) ?_ _
  refine NoPanic.normal ?_
  generalize (ite (cap = kept + 1) _ _ : Option Addr) = dpp
  generalize (ite (cap = i + 1) _ _ : Option Addr) = spp
  generalize hW5 : World.setCells _ _ _ _ = w5
  obtain ⟨R5, B5, C5⟩ := RS.out w4.drew.drew (by first | exact Below.refl _ _ | exact Below.drew (Below.refl _ _) | exact Below.drew (Below.drew (Below.refl _ _)))
  rw [hW5] at R5 B5 C5
  have HR5 := hidden R5
  have HB5 := hidden B5
  have HC5 := hidden C5
  clear hW5 RS HCE hk0 hk1 hi0 hi1 R5 B5 C5
  have hrowl := HM4.out.L.row t htt
  rw [HV2.out, ← HN.out] at hrowl
  have erow : setS sl2 (.wl t l) ⟨.slice (some ⟨gb, 0, none⟩) n cap, n, setL (wlV (st2.W t l)) ((kept + 1) * 2) cs⟩ (.row t) = sl2 (.row t) := setS_other _ _ (by intro e; cases e)
  obtain ⟨rb, rcap, hrv, hrB, hrbl, _, hrcell, hrfz⟩ := HR5.out.form (.row t) (by rw [erow, hrowl.1]; omega)
  rw [erow] at hrv hrcell
  have HRV := hidden hrv
  have fr : w5.cell? ⟨bb, 1 + t, none⟩ = some (.slice (some ⟨rb, 0, none⟩) N rcap) := by
   rw [HR5.out.field, ← hrowl.1, ← hrv]
   rcases (show t = 0 ∨ t = 1 by omega) with e | e <;> rw [e] <;> rfl
  have hra := (hrcell l (by rw [hrowl.1]; simp [Site.sz]; have := HN.out; omega)).trans (hrowl.2 l (by have := HN.out; omega))
  have hzr := hrfz l
  have nb : rb ≠ bb := fun e => HM4.out.R.nb (.row t) (by rw [hrv, e]; rfl)
  have nwb : rb ≠ wb := fun e => HM4.out.far (.row t) (by rw [hrv, e]; rfl)
  have KB : Hid ((fun w' => w'.cell? ⟨bb, 1 + t, none⟩ = some (.slice (some ⟨rb, 0, none⟩) N rcap)) w5) := fr
  have KS : Hid (∀ (w' : World) (xv : Value), (fun w' => w'.cell? ⟨bb, 1 + t, none⟩ = some (.slice (some ⟨rb, 0, none⟩) N rcap)) w' → (fun w' => w'.cell? ⟨bb, 1 + t, none⟩ = some (.slice (some ⟨rb, 0, none⟩) N rcap)) (w'.setCell ⟨rb, l, none⟩ xv)) := fun w' xv hh => (World.cell?_setCell_other (h := fun e => nb (by cases e; rfl)) ..).trans hh
  have RS : Hid (∀ w', Below w5.heap.size w5 w' → (∃ sl', Rows' B (w'.setCell ⟨rb, l, none⟩ (.slice (some ⟨gb, 0, none⟩) k3 cap)) bb (fields sl' (st2.putW t l ((st2.W t l).take (kept + 1) ++ (st2.W t l).drop (i + 1)))) sl' ∧ Link sl' (st2.putW t l ((st2.W t l).take (kept + 1) ++ (st2.W t l).drop (i + 1)))) ∧ Below B w (w'.setCell ⟨rb, l, none⟩ (.slice (some ⟨gb, 0, none⟩) k3 cap)) ∧ (w'.setCell ⟨rb, l, none⟩ (.slice (some ⟨gb, 0, none⟩) k3 cap)).cell? ⟨wb, 0, none⟩ = some (.int .i32 (ci : Int))) := fun w' hb' => by
   have h1 := HMM.out
   have h2 := HK3.out
   have hov := wlV_over (st2.W t l) (kept + 1) (i + 1) (by omega) (by rw [HN2.out]; omega)
   rw [HN2.out, ← h1, ← h2, ← HCS.out] at hov
   obtain ⟨sl', s1, s2, s3, -, -⟩ := (HR5.out.rest hb').cutW HM4.out.L (m := k3) (es := (st2.W t l).take (kept + 1) ++ (st2.W t l).drop (i + 1)) (by omega) hov (by rw [List.length_append, List.length_take, List.length_drop, HN2.out]; omega) HRV.out
   refine ⟨⟨sl', s1, s2⟩, (HB5.out.trans (hb'.mono HR5.out.size)).trans s3, ?_⟩
   refine (World.cell?_setCell_other (h := fun e => nwb (by cases e; rfl)) ..).trans ?_
   have hwl : wb < w5.heap.size := by
    have := HC5.out
    unfold World.cell? at this
    by_cases h : wb < w5.heap.size
    ·exact h
    ·simp [Array.getElem?_eq_none (Nat.le_of_not_lt h)] at this
   exact (hb'.cell (p := ⟨wb, 0, none⟩) hwl).trans HC5.out
  have hk30 : (0 : Int) ≤ (k3 : Int) := by omega
  have hk3c : (k3 : Int) ≤ (cap : Int) := by have := HK3.out; have := HMM.out; omega
  have hlI : (l : Int) < (N : Int) := by have := HN.out; omega
  have htI : (t : Int) < 2 := by omega
  have g0 := HC5.out
  clear hrowl erow hrv hrcell hrfz fr g0
  go_upto_region 20 with fail
  refine wp_region_noPanic ?_
  refine wp_region_held_drew (S := (fun w' => w'.cell? ⟨bb, 1 + t, none⟩ = some (.slice (some ⟨rb, 0, none⟩) N rcap))) (by kernel_rfl) (by first | assumption | exact KB.out | exact KS.out _ _ (by first | assumption | exact KB.out)) (fun hHeld => ?_)
  refine tk 0 ?_
  refine tk 1 ?_
  refine tk 2 ?_
  refine tk 3 ?_
  refine tk 4 ?_
  refine tk 5 ?_
  refine tk 6 ?_
  refine tk 7 ?_
  refine tk 8 ?_
  refine tk 9 ?_
  refine tk 10 ?_
  refine wpAnyH_ready (rs := [11]) (by kernel_rfl) (by simp) ?_
  refine AllReadyH.cons (o := _) rfl (fun K hK => ?_) AllReadyH.nil
  (try simp only [gA, gB, gC])
  go_simp
  refine hK.out _ _ (by first | assumption | exact KB.out | exact KS.out _ _ (by first | assumption | exact KB.out)) (fun hHeld11 => ?_)
  clear hK K
  (try simp only [Act.put]); (try simp only [sA]); (try simp only [sB, sC])
  refine wpAnyH_done (by kernel_rfl) ?_ _
  refine NoPanic.normal ?_
  generalize hW6 : World.setCell _ _ _ = w6
  obtain ⟨⟨sl', s1, s2⟩, s3, s4⟩ := RS.out _ (by first | exact Below.refl _ _ | exact Below.drew (Below.refl _ _) | exact Below.drew (Below.drew (Below.refl _ _)))
  rw [hW6] at s1 s3 s4
  have HX : Hid (WRC F L A b B w bb st ci w6.drew) := ⟨_, _, HWN2.out.trans (WnR.put _ _ _ _), s1.rest (Below.drew (Below.refl _ _)), s2, ⟨HKC.out.wd, ⟨HKC.out.hd.heldL, HKC.out.hd.held, HKC.out.hd.tlt, HKC.out.hd.tnd, HKC.out.hd.cons, HKC.out.hd.l0, HKC.out.hd.l1⟩, HKC.out.rs, HKC.out.bf, HKC.out.w5, HKC.out.bk, HKC.out.so⟩, ⟨c1, by rw [HST2.out]; exact HC1.out, by rw [HST2.out]; exact HALL.out⟩, Below.drew s3⟩
  clear hW6 RS KB KS s1 s2 s3 hra hzr
  go_wp2
  exact HQ.out ci _ _ rfl (by simp) HX.out
end Go.Proofs.Ytefjicdhccfieaa
