import Derived.Test.YtpipdmeibfkehaaAcG
namespace Go.Proofs.Ytpipdmeibfkehaa
open Go.RowKit

theorem info_pair0 : (Try.prog.info? 33).map (fun i => (i.zero, i.size, i.bytes)) = some (some (.agg #[.int .i64 0, .int .i64 0]), 2, 16) := by kernel_rfl
theorem info_pair : ∃ i, Try.prog.info? 33 = some i ∧ i.zero = some (.agg #[.int .i64 0, .int .i64 0]) ∧ i.size = 2 ∧ i.bytes = 16 := by
  have h := info_pair0
  cases hi : Try.prog.info? 33 with
  | none => rw [hi] at h; cases h
  | some i => rw [hi] at h; simp at h; exact ⟨i, rfl, h.1, h.2.1, h.2.2⟩
theorem own_form {w : World} {C e sz n : Nat} {v : Value} {xs : List Value} (h : w.ownsRow C e sz v n xs) : ∃ a c, v = .slice a n c := by
  rcases h.2 with ⟨h0, h1⟩ | ⟨g, cap, cur, hv, _⟩
  · exact ⟨none, 0, by rw [h0, h1]⟩
  · exact ⟨_, cap, hv⟩
theorem grown_al (w : World) (o : Obj) (row : Option Nat) : w.grownBy (w.alloc o) row := ⟨rfl, rfl, rfl, by simp, fun k hk _ => heap_alloc_old w o hk⟩

set_option maxRecDepth 100000 in
set_option maxHeartbeats 8000000 in
theorem cgAndsTo (wc V : World) (G : GrD) (first : Nat) (nk : List Bool) (B n g nbk hb : Nat) (a : Option Addr) (c : Nat) (t0 : Value) (q2 : V.cell? ⟨nbk, 2, none⟩ = some (.slice a G.ands.length c)) (hnbk : nbk < V.heap.size) (hnb : nbk ≠ hb) (HR : Hid (RowAt B V a 2 (G.ands.map AndD.cells))) (hBV : B ≤ V.heap.size) (hBh : B ≤ hb) (hin : ∀ (k : Nat) (d : AndD), G.ands[k]? = some d → (0 ≤ d.x ∧ d.x < 2 * ((first + k : Nat) : Int)) ∧ (0 ≤ d.y ∧ d.y < 2 * ((first + k : Nat) : Int))) (hn : n ≤ 60000) (hfn : first + G.ands.length = n) (hhb : hb < V.heap.size) (hnk : nk.length = G.ands.length) (HN : Hid (∀ (i : Nat) (b : Bool), nk[i]? = some b → V.cell? ⟨g, first + i, none⟩ = some (.bool b))) (hg : g < V.heap.size) (hgh : g ≠ hb) (HTV : Hid (∀ v, toV first nk v ≤ 60000 ∨ n ≤ v)) (HGV : Hid (V.grownBy wc (some hb))) (hq : wc.cell? ⟨hb, 2, none⟩ = some (.slice none 0 0)) (hfr : ∀ j, wc.frozen? ⟨hb, j, none⟩ = false) (HO0 : Hid (wc.ownsRow V.heap.size 3 1 t0 (first) ((List.range (first)).map (fun v => iV (toV first nk v))))) (HJ0 : Hid (∀ j, j ≠ 2 → wc.cell? ⟨hb, j, none⟩ = V.cell? ⟨hb, j, none⟩)) (K' : Act → World → Prop) (Q0 : Exit → Act → World → Prop) (x0 x2 x5 x6 x7 x10 x12 x13 x14 x15 x16 x17 x18 x19 x20 x21 x22 x23 x24 x25 x26 x27 x28 x29 x30 x31 x32 x33 x34 x35 x36 x37 x38 x39 x40 x41 x42 x43 x44 x45 x46 x47 x48 x49 x50 x51 x52 x53 x54 x55 x56 x57 x58 x59 x60 x61 x62 x63 x64 x65 x66 x67 x68 x69 x70 x71 x72 x73 x74 x75 x76 x77 x78 x79 x80 x81 x82 x83 x84 x85 x86 x87 x88 x89 x90 x91 x92 x93 x94 x95 x96 x97 x98 x99 x100 x101 x102 x103 x104 x105 x106 x107 x108 x109 x110 x111 x112 x113 x114 x115 x116 x117 x118 x119 x120 x121 x122 x123 x124 x125 x126 x127 x128 x129 x130 x131 x132 x133 x134 x135 x136 x137 x138 x139 x140 x141 x142 x143 x144 x145 x146 x147 x148 x149 x150 x151 x152 x153 x154 x155 x156 x157 x158 x159 x160 x161 x162 x163 x164 x165 x166 x167 x168 x169 x170 x171 x172 x173 x174 x175 x176 x177 x178 x179 x180 x181 x182 x183 x184 x185 x186 x187 x188 x189 x190 x191 x192 x193 x194 x195 x196 x197 x198 x199 x200 x201 x202 x203 x204 x205 x206 x207 x208 x209 x210 x211 x212 x213 x214 x215 x216 x217 x218 x219 x220 : Value)
    (HK : Hid (∀ (w' : World) (s9 s11 s12 s13 s103 s104 s105 s106 s107 s108 s109 s110 s111 s112 s113 s114 s115 s116 s117 s118 s119 s120 s121 s122 s123 s124 s125 s126 s127 s128 s129 s130 s131 s132 s133 s134 s135 s136 s137 s138 s139 s140 s141 s142 s143 s144 s145 s146 s147 s148 s149 s150 s151 s152 s153 s154 s155 s156 s157 s158 s159 : Value), (∃ u, w'.cell? ⟨hb, 2, none⟩ = some u ∧ w'.ownsRow V.heap.size 33 2 u (keptK first nk G.ands (G.ands.length)).length ((keptK first nk G.ands (G.ands.length)).flatMap AndD.cells) ∧ w'.ownsRow V.heap.size 3 1 s9 (n) ((List.range (n)).map (fun v => iV (toV first nk v))) ∧ Sep s9 u) ∧ V.grownBy w' (some hb) ∧ (∀ j, w'.frozen? ⟨hb, j, none⟩ = false) ∧ (∀ j, j ≠ 2 → w'.cell? ⟨hb, j, none⟩ = V.cell? ⟨hb, j, none⟩) → K' ⟨#[x0, .pointer (some ⟨nbk, 0, none⟩), x2, .int .i64 (first : Int), .slice (some ⟨g, 0, none⟩) n n, x5, x6, x7, .pointer (some ⟨hb, 0, none⟩), s9, x10, s11, s12, s13, x14, x15, x16, x17, x18, x19, x20, x21, x22, x23, x24, x25, x26, x27, x28, x29, x30, x31, x32, x33, x34, x35, x36, x37, x38, x39, x40, x41, x42, x43, x44, x45, x46, x47, x48, x49, x50, x51, x52, x53, x54, x55, x56, x57, x58, x59, x60, x61, x62, x63, x64, x65, x66, x67, x68, x69, x70, x71, x72, x73, x74, x75, x76, x77, x78, x79, x80, x81, x82, x83, x84, x85, x86, x87, x88, x89, x90, x91, x92, x93, x94, x95, x96, x97, x98, x99, x100, x101, x102, s103, s104, s105, s106, s107, s108, s109, s110, s111, s112, s113, s114, s115, s116, s117, s118, s119, s120, s121, s122, s123, s124, s125, s126, s127, s128, s129, s130, s131, s132, s133, s134, s135, s136, s137, s138, s139, s140, s141, s142, s143, s144, s145, s146, s147, s148, s149, s150, s151, s152, s153, s154, s155, s156, s157, s158, s159, x160, x161, x162, x163, x164, x165, x166, x167, x168, x169, x170, x171, x172, x173, x174, x175, x176, x177, x178, x179, x180, x181, x182, x183, x184, x185, x186, x187, x188, x189, x190, x191, x192, x193, x194, x195, x196, x197, x198, x199, x200, x201, x202, x203, x204, x205, x206, x207, x208, x209, x210, x211, x212, x213, x214, x215, x216, x217, x218, x219, x220], []⟩ w')) :
    Code.wp Try.prog ((Try.f9.body.bind (blockAt 8)).getD .skip) (Exit.then K' Q0) ⟨#[x0, .pointer (some ⟨nbk, 0, none⟩), x2, .int .i64 (first : Int), .slice (some ⟨g, 0, none⟩) n n, x5, x6, x7, .pointer (some ⟨hb, 0, none⟩), t0, x10, .int .i64 0, x12, x13, x14, x15, x16, x17, x18, x19, x20, x21, x22, x23, x24, x25, x26, x27, x28, x29, x30, x31, x32, x33, x34, x35, x36, x37, x38, x39, x40, x41, x42, x43, x44, x45, x46, x47, x48, x49, x50, x51, x52, x53, x54, x55, x56, x57, x58, x59, x60, x61, x62, x63, x64, x65, x66, x67, x68, x69, x70, x71, x72, x73, x74, x75, x76, x77, x78, x79, x80, x81, x82, x83, x84, x85, x86, x87, x88, x89, x90, x91, x92, x93, x94, x95, x96, x97, x98, x99, x100, x101, x102, x103, x104, x105, x106, x107, x108, x109, x110, x111, x112, x113, x114, x115, x116, x117, x118, x119, x120, x121, x122, x123, x124, x125, x126, x127, x128, x129, x130, x131, x132, x133, x134, x135, x136, x137, x138, x139, x140, x141, x142, x143, x144, x145, x146, x147, x148, x149, x150, x151, x152, x153, x154, x155, x156, x157, x158, x159, x160, x161, x162, x163, x164, x165, x166, x167, x168, x169, x170, x171, x172, x173, x174, x175, x176, x177, x178, x179, x180, x181, x182, x183, x184, x185, x186, x187, x188, x189, x190, x191, x192, x193, x194, x195, x196, x197, x198, x199, x200, x201, x202, x203, x204, x205, x206, x207, x208, x209, x210, x211, x212, x213, x214, x215, x216, x217, x218, x219, x220], []⟩ wc := by
  conv => arg 2; whnf
  obtain ⟨i3, hi3, hz3, hs3, hb3⟩ := info_int
  have HI3 := hidden hi3
  have HZ3 := hidden hz3
  have HS3 := hidden hs3
  have HBY3 := hidden hb3
  clear hi3 hz3 hs3 hb3
  obtain ⟨i6, hi6, hz6, hs6, hb6⟩ := info_pair
  have HI6 := hidden hi6
  have HZ6 := hidden hz6
  have HS6 := hidden hs6
  have HBY6 := hidden hb6
  clear hi6 hz6 hs6 hb6
  go_wp2_with fail
  go_loopw [9, 11] (fun t i' w' => ∃ (k : Nat) (u : Value), k ≤ G.ands.length ∧ i' = .int .i64 k ∧ Hid (w'.cell? ⟨hb, 2, none⟩ = some u) ∧ Hid (w'.ownsRow V.heap.size 33 2 u (keptK first nk G.ands (k)).length ((keptK first nk G.ands (k)).flatMap AndD.cells)) ∧ Hid (w'.ownsRow V.heap.size 3 1 t (first + k) ((List.range (first + k)).map (fun v => iV (toV first nk v)))) ∧ Hid (Sep t u) ∧ Hid (V.grownBy w' (some hb)) ∧ Hid (∀ j, w'.frozen? ⟨hb, j, none⟩ = false) ∧ Hid (∀ j, j ≠ 2 → w'.cell? ⟨hb, j, none⟩ = V.cell? ⟨hb, j, none⟩)) (fun _ i' _ => G.ands.length - (intOf i').toNat)
  case atStart => exact ⟨0, _, Nat.zero_le _, rfl, hq, World.ownsRow_nil _ _ _ _, HO0.out, .inr (.inl rfl), HGV.out, hfr, HJ0.out⟩
  case round =>
    obtain ⟨k, u, hk, rfl, HU, HA, HT, HSp, HG, HF, HJ⟩ := hrel
    have q2R := (HG.out.cell_far ⟨nbk, 2, none⟩ hnbk (by simp; omega)).trans q2
    by_cases hlt : k < G.ands.length
    · obtain ⟨z, hz⟩ : ∃ z, G.ands[k]? = some z := getElem_lt hlt
      obtain ⟨b, hbk⟩ : ∃ b, nk[k]? = some b := getElem_lt (by omega)
      obtain ⟨rb, ro, ea, hrb, hrc⟩ := HR.out.el hz
      have hrw : rb < V.heap.size := Nat.lt_of_lt_of_le hrb hBV
      have hsz := HG.out.size
      obtain ⟨cnt, HCN⟩ : ∃ n, Hid ((keptK first nk G.ands k).length = n) := ⟨_, rfl⟩
      have HCT : Hid (toV first nk (first + k) = first + cnt) := by show _ = _; rw [toV_gate, ← HCN.out, keptK_len _ _ _ _ hnk]
      have hcn : cnt ≤ k := by rw [← HCN.out, keptK_len _ _ _ _ hnk]; exact Nat.le_trans List.count_le_length (by simp; omega)
      obtain ⟨au, cu, hu⟩ := own_form HA.out
      rw [HCN.out] at hu
      have HA' : Hid (wr.ownsRow V.heap.size 33 2 u cnt ((keptK first nk G.ands k).flatMap AndD.cells)) := by
        show World.ownsRow _ _ _ _ _ _ _
        rw [← HCN.out]; exact HA.out
      have cU : wr.cell? ⟨hb, 2, none⟩ = some (.slice au cnt cu) := by rw [HU.out, hu]
      have hub : ∀ x, u.ownBlock = some x → V.heap.size ≤ x ∧ x < wr.heap.size := fun x hx => HA.out.lt x hx
      have e1 : IntKind.i64.wrap ((first : Int) + (cnt : Int)) = (first : Int) + (cnt : Int) := wrapI _ (by omega) (by omega)
      have eF : IntKind.i64.wrap ((first : Int) + (k : Int)) = ((first + k : Nat) : Int) := by rw [wrapI _ (by omega) (by omega)]; omega
      have e3 : IntKind.i64.wrap ((k : Int) + 1) = (k : Int) + 1 := wrapI _ (by omega) (by omega)
      have hltI : (k : Int) < (G.ands.length : Int) := by omega
      have hfkI : ((first + k : Nat) : Int) < (n : Int) := by omega
      have hm1 : first + k + 1 ≤ maxLen := by simp only [maxLen]; omega
      have hm2 : (first + k + 1) * 8 ≤ 140737488355328 := by omega
      have hm3 : V.heap.size ≤ (wr.alloc (.cells #[.int .i64 ((first : Int) + (cnt : Int))] 3)).heap.size := by simp; omega
      have HUU := hidden hu
      clear hu
      have tok : True := trivial
      go_upto_region 27 with (have _t := tok; at_builtin; (refine wpList_append_lies _ rfl (.tmp 110) (.tmp 116) 24 rfl V.heap.size 3 i3 _ 1 8 Try.underlying24 HI3.out HZ3.out HS3.out HBY3.out rfl (by decide) u9 (first + k) _ rfl (HT.out.alloc _) ⟨wr.heap.size, 0, none⟩ 1 1 [.int .i64 ((first : Int) + (cnt : Int))] rfl rfl (World.news_of_block (heap_new _ _)) (by simp [Value.oneCell']) (by decide) hm1 hm2 hm3 _ rfl ?_; intro g1 cap1 w5 hown hgrow hat5 hlt5; clear tok))
      clear q2R
      have HGa := hidden (grown_trans (grown_al _ _ _) hgrow)
      have hg1V : V.heap.size ≤ g1 := (hown.lt g1 rfl).1
      have hg1 : g1 ≠ hb := by omega
      have HT5 : Hid (w5.ownsRow V.heap.size 3 1 (.slice (some ⟨g1, 0, none⟩) (first + k + 1) cap1) (first + k + 1) ((List.range (first + k + 1)).map (fun v => iV (toV first nk v)))) := by
        show World.ownsRow _ _ _ _ _ _ _
        rw [List.range_succ, List.map_append]
        have e : [Value.int .i64 ((first : Int) + (cnt : Int))] = [first + k].map (fun v => iV (toV first nk v)) := by simp [iV, HCT.out]
        rw [← e]; exact hown
      have HS5 : Hid (∀ x, Value.ownBlock (.slice (some ⟨g1, 0, none⟩) (first + k + 1) cap1) = some x → u.ownBlock ≠ some x) := by
        intro x hx hux
        have e' : g1 = x := by injection hx
        rcases hat5 with h | h
        · rcases HSp.out with h2 | h2 | h2
          · rw [h] at h2; cases h2
          · rw [hux] at h2; cases h2
          · exact h2 (by rw [h, hux, e'])
        · have := (hub x hux).2; simp at h; omega
      have HU5 : Hid (w5.ownsRow V.heap.size 33 2 u cnt ((keptK first nk G.ands k).flatMap AndD.cells)) := HA'.out.kept HGa.out HSp.out.other
      have HG5 : Hid (V.grownBy w5 (some hb)) := grown_thru HG.out HGa.out (grown_refl w5 _) (fun x hx => (HT.out.lt x hx).1)
      have far : ∀ x, x < V.heap.size → some x ≠ u9.ownBlock := fun x hx e => by have := (HT.out.lt x e.symm).1; omega
      have cH5 : w5.cell? ⟨hb, 2, none⟩ = some u := (HGa.out.cell_far ⟨hb, 2, none⟩ (by show hb < _; omega) (far hb hhb)).trans HU.out
      have HF5 : Hid (∀ j, w5.frozen? ⟨hb, j, none⟩ = false) := fun j => (HGa.out.frozen_far ⟨hb, j, none⟩ (by show hb < _; omega) (far hb hhb)).trans (HF.out j)
      have HJ5 : Hid (∀ j, j ≠ 2 → w5.cell? ⟨hb, j, none⟩ = V.cell? ⟨hb, j, none⟩) := fun j hj => (HGa.out.cell_far ⟨hb, j, none⟩ (by show hb < _; omega) (far hb hhb)).trans (HJ.out j hj)
      have q2R : w5.cell? ⟨nbk, 2, none⟩ = some (.slice (some ⟨rb, ro, none⟩) G.ands.length c) := by
        rw [← ea]; exact (HG5.out.cell_far ⟨nbk, 2, none⟩ hnbk (by simp; omega)).trans q2
      have c0 : w5.cell? ⟨rb, ro + k * 2, none⟩ = some (.int .i64 z.x) := (HG5.out.cell_far _ hrw (by simp; omega)).trans (hrc 0 _ rfl)
      have c1 : w5.cell? ⟨rb, ro + k * 2 + 1, none⟩ = some (.int .i64 z.y) := (HG5.out.cell_far _ hrw (by simp; omega)).trans (hrc 1 _ rfl)
      have cN : w5.cell? ⟨g, first + k, none⟩ = some (.bool b) := (HG5.out.cell_far ⟨g, first + k, none⟩ hg (by simp; omega)).trans (HN.out k b hbk)
      obtain ⟨hzx, hzy⟩ := hin k z hz
      have HKN := hidden (keptK_next first nk G.ands k z b hz hbk)
      have hg15 : g1 < w5.heap.size := (HT5.out.lt g1 rfl).2
      obtain ⟨x, y⟩ := z
      simp only at hzx hzy c0 c1 HKN
      clear hown hgrow hat5 hlt5 hm1 hm2 hm3 HT HA HU HG HJ HF HSp HUU hrc ea hz hbk cU e1
      cases b
      · have HA6 : Hid (w5.ownsRow V.heap.size 33 2 u (keptK first nk G.ands (k + 1)).length ((keptK first nk G.ands (k + 1)).flatMap AndD.cells)) := by
          show World.ownsRow _ _ _ _ _ _ _
          rw [HKN.out]
          simp only [Bool.false_eq_true, if_false, List.append_nil]
          rw [HCN.out]; exact HU5.out
        have HS6 : Hid (Sep (.slice (some ⟨g1, 0, none⟩) (first + k + 1) cap1) u) := by
          refine .inr (.inr fun e => HS5.out g1 rfl (by rw [← e]; rfl))
        have HT6 : Hid (w5.ownsRow V.heap.size 3 1 (.slice (some ⟨g1, 0, none⟩) (first + k + 1) cap1) (first + (k + 1)) ((List.range (first + (k + 1))).map (fun v => iV (toV first nk v)))) := HT5.out
        have HU6 := hidden cH5
        clear HU5 HS5 HT5 HKN c0 c1 q2R HGa cH5
        go_wp2
        go_roundw
        case measure => simp [intOf]; omega
        case rel => exact ⟨k + 1, u, by omega, by simp, HU6.out, HA6.out, HT6.out, HS6.out, HG5.out, HF5.out, HJ5.out⟩
      · obtain ⟨va, hva⟩ : ∃ v, v = x.toNat / 2 := ⟨_, rfl⟩
        obtain ⟨vb, hvb⟩ : ∃ v, v = y.toNat / 2 := ⟨_, rfl⟩
        have qa : Int.tdiv x 2 = (va : Int) := by rw [Int.tdiv_eq_ediv_of_nonneg hzx.1]; omega
        have qb : Int.tdiv y 2 = (vb : Int) := by rw [Int.tdiv_eq_ediv_of_nonneg hzy.1]; omega
        have ma : Int.tmod x 2 = x % 2 := by rw [Int.tmod_eq_emod_of_nonneg hzx.1]
        have mb : Int.tmod y 2 = y % 2 := by rw [Int.tmod_eq_emod_of_nonneg hzy.1]
        have hvn : va < first + k + 1 := by omega
        have hvn' : vb < first + k + 1 := by omega
        have ct : ∀ v, v < first + k + 1 → w5.cell? ⟨g1, v, none⟩ = some (.int .i64 (toV first nk v : Nat)) := fun v hv => by
          have := HT5.out.cellAt v (by omega)
          rw [this, List.getElem?_map, List.getElem?_range hv]; rfl
        have cta := ct va hvn
        have ctb := ct vb hvn'
        have hta := HTV.out va
        have htb := HTV.out vb
        have HLx : Hid (litC first nk x = 2 * (toV first nk va : Nat) + x % 2) := by show _ = _; rw [hva]; rfl
        have HLy : Hid (litC first nk y = 2 * (toV first nk vb : Nat) + y % 2) := by show _ = _; rw [hvb]; rfl
        have HNX : Hid (keptK first nk G.ands (k + 1) = keptK first nk G.ands k ++ [⟨2 * (toV first nk va : Nat) + x % 2, 2 * (toV first nk vb : Nat) + y % 2⟩]) := by
          show _ = _
          rw [HKN.out, HLx.out, HLy.out]; rfl
        have hxr : 0 ≤ x % 2 ∧ x % 2 < 2 := by omega
        have hyr : 0 ≤ y % 2 ∧ y % 2 < 2 := by omega
        generalize toV first nk va = ta at *
        generalize toV first nk vb = tb at *
        generalize x % 2 = ra at *
        generalize y % 2 = rb2 at *
        have hvI : (va : Int) < ((first + k + 1 : Nat) : Int) := by omega
        have hvI' : (vb : Int) < ((first + k + 1 : Nat) : Int) := by omega
        have hvJ : (va : Int) < (first : Int) + (k : Int) + 1 := by omega
        have hvJ' : (vb : Int) < (first : Int) + (k : Int) + 1 := by omega
        have w1 : IntKind.i64.wrap (va : Int) = (va : Int) := wrapI _ (by omega) (by omega)
        have w2 : IntKind.i64.wrap (vb : Int) = (vb : Int) := wrapI _ (by omega) (by omega)
        have w3 : IntKind.i64.wrap ra = ra := wrapI _ (by omega) (by omega)
        have w4 : IntKind.i64.wrap rb2 = rb2 := wrapI _ (by omega) (by omega)
        have w6 : IntKind.i64.wrap (2 * (ta : Int)) = 2 * (ta : Int) := wrapI _ (by omega) (by omega)
        have w7 : IntKind.i64.wrap (2 * (tb : Int)) = 2 * (tb : Int) := wrapI _ (by omega) (by omega)
        have w8 : IntKind.i64.wrap (2 * (ta : Int) + ra) = 2 * (ta : Int) + ra := wrapI _ (by omega) (by omega)
        have w9 : IntKind.i64.wrap (2 * (tb : Int) + rb2) = 2 * (tb : Int) + rb2 := wrapI _ (by omega) (by omega)
        have hn1 : cnt + 1 ≤ maxLen := by simp only [maxLen]; omega
        have hn2 : (cnt + 1) * 16 ≤ 140737488355328 := by omega
        have h5s := HG5.out.size
        have hn3 : V.heap.size ≤ ((w5.alloc (.cells #[.int .i64 (2 * (ta : Int) + ra), .int .i64 (2 * (tb : Int) + rb2)] 33)).drew).heap.size := by simp; omega
        have KT : Hid (∀ w', w5.grownBy w' u.ownBlock → w'.cell? ⟨g1, va, none⟩ = some (.int .i64 (ta : Int)) ∧ w'.cell? ⟨g1, vb, none⟩ = some (.int .i64 (tb : Int))) := fun w' hg' => ⟨(hg'.cell_far ⟨g1, va, none⟩ hg15 (fun e => HS5.out g1 rfl e.symm)).trans cta, (hg'.cell_far ⟨g1, vb, none⟩ hg15 (fun e => HS5.out g1 rfl e.symm)).trans ctb⟩
        have KU : Hid (∀ w', w5.grownBy w' u.ownBlock → w'.cell? ⟨hb, 2, none⟩ = some u) := fun w' hg' => (hg'.cell_far ⟨hb, 2, none⟩ (by show hb < _; omega) (fun e => by have := (hub hb e.symm).1; omega)).trans cH5
        have KF : Hid (∀ w', w5.grownBy w' u.ownBlock → ∀ j, w'.frozen? ⟨hb, j, none⟩ = false) := fun w' hg' j => (hg'.frozen_far ⟨hb, j, none⟩ (by show hb < _; omega) (fun e => by have := (hub hb e.symm).1; omega)).trans (HF5.out j)
        have huA : (w5.alloc (.cells #[.int .i64 (2 * (ta : Int) + ra), .int .i64 (2 * (tb : Int) + rb2)] 33)).cell? ⟨hb, 2, none⟩ = some u := KU.out _ (grown_al _ _ _)
        clear hzx hzy hva hvb ct HLx HLy HKN hta htb hxr hyr HGa
        go_upto_region 30 with fail
        refine wp_region_noPanic ?_
        refine wp_region_held_drew (S := (fun w' => w'.cell? ⟨g1, va, none⟩ = some (.int .i64 (ta : Int)) ∧ w'.cell? ⟨g1, vb, none⟩ = some (.int .i64 (tb : Int)))) (by kernel_rfl) (by (first | assumption | exact ⟨cta, ctb⟩ | exact KT.out _ (grown_refl _ _) | exact KT.out _ (grown_ad _ _ _) | exact KT.out _ (by assumption) | exact ⟨(World.cell?_setCell_far _ _ _ _ (fun e => hg1 (Eq.symm e))).trans (KT.out _ HG7).1, (World.cell?_setCell_far _ _ _ _ (fun e => hg1 (Eq.symm e))).trans (KT.out _ HG7).2⟩)) (fun hHeld => ?_)
        refine wpAnyH_take (i := 0) (oi := _) (v := ?_) rfl (by kernel_rfl) (by kernel_rfl) (by kernel_rfl) (fun _ _ _ h => h) (Or.inl ⟨by rfl, ?_⟩) (by assumption) ?_
        rotate_left
        · (intro w0 hSw; (try dsimp only at hSw); (try simp only [List.getElem_toArray, List.getElem_cons_zero]); go_simp; try (with_reducible rfl))
        try simp only [Act.put, List.getElem_toArray, List.getElem_cons_zero, List.setIfInBounds_toArray, List.set_cons_zero, List.set_cons_succ]
        refine wpAnyH_take (i := 2) (oi := _) (v := ?_) rfl (by kernel_rfl) (by kernel_rfl) (by kernel_rfl) (fun _ _ _ h => h) (Or.inl ⟨by rfl, ?_⟩) (by assumption) ?_
        rotate_left
        · (intro w0 hSw; (try dsimp only at hSw); (try simp only [List.getElem_toArray, List.getElem_cons_zero, List.getElem_cons_succ]); go_simp; try (with_reducible rfl))
        try simp only [Act.put, List.getElem_toArray, List.getElem_cons_zero, List.getElem_cons_succ, List.setIfInBounds_toArray, List.set_cons_zero, List.set_cons_succ]
        refine wpAnyH_take (i := 3) (oi := _) (v := ?_) rfl (by kernel_rfl) (by kernel_rfl) (by kernel_rfl) (fun _ _ _ h => h) (Or.inl ⟨by rfl, ?_⟩) (by assumption) ?_
        rotate_left
        · (intro w0 hSw; (try dsimp only at hSw); (try simp only [List.getElem_toArray, List.getElem_cons_zero, List.getElem_cons_succ]); go_simp; try (with_reducible rfl))
        try simp only [Act.put, List.getElem_toArray, List.getElem_cons_zero, List.getElem_cons_succ, List.setIfInBounds_toArray, List.set_cons_zero, List.set_cons_succ]
        refine wpAnyH_take (i := 4) (oi := _) (v := ?_) rfl (by kernel_rfl) (by kernel_rfl) (by kernel_rfl) (fun _ _ _ h => h) (Or.inl ⟨by rfl, ?_⟩) (by assumption) ?_
        rotate_left
        · (intro w0 hSw; (try dsimp only at hSw); (try simp only [List.getElem_toArray, List.getElem_cons_zero, List.getElem_cons_succ]); go_simp; try (with_reducible rfl))
        try simp only [Act.put, List.getElem_toArray, List.getElem_cons_zero, List.getElem_cons_succ, List.setIfInBounds_toArray, List.set_cons_zero, List.set_cons_succ]
        refine wpAnyH_take (i := 5) (oi := _) (v := ?_) rfl (by kernel_rfl) (by kernel_rfl) (by kernel_rfl) (fun _ _ _ h => h) (Or.inl ⟨by rfl, ?_⟩) (by assumption) ?_
        rotate_left
        · (intro w0 hSw; (try dsimp only at hSw); (try simp only [List.getElem_toArray, List.getElem_cons_zero, List.getElem_cons_succ]); go_simp; try (with_reducible rfl))
        try simp only [Act.put, List.getElem_toArray, List.getElem_cons_zero, List.getElem_cons_succ, List.setIfInBounds_toArray, List.set_cons_zero, List.set_cons_succ]
        refine wpAnyH_take (i := 6) (oi := _) (v := ?_) rfl (by kernel_rfl) (by kernel_rfl) (by kernel_rfl) (fun _ _ _ h => h) (Or.inl ⟨by rfl, ?_⟩) (by assumption) ?_
        rotate_left
        · (intro w0 hSw; (try dsimp only at hSw); (try simp only [List.getElem_toArray, List.getElem_cons_zero, List.getElem_cons_succ]); go_simp; try (with_reducible rfl))
        try simp only [Act.put, List.getElem_toArray, List.getElem_cons_zero, List.getElem_cons_succ, List.setIfInBounds_toArray, List.set_cons_zero, List.set_cons_succ]
        refine wpAnyH_take (i := 7) (oi := _) (v := ?_) rfl (by kernel_rfl) (by kernel_rfl) (by kernel_rfl) (fun _ _ _ h => h) (Or.inl ⟨by rfl, ?_⟩) (by assumption) ?_
        rotate_left
        · (intro w0 hSw; (try dsimp only at hSw); (try simp only [List.getElem_toArray, List.getElem_cons_zero, List.getElem_cons_succ]); go_simp; try (with_reducible rfl))
        try simp only [Act.put, List.getElem_toArray, List.getElem_cons_zero, List.getElem_cons_succ, List.setIfInBounds_toArray, List.set_cons_zero, List.set_cons_succ]
        refine wpAnyH_take (i := 8) (oi := _) (v := ?_) rfl (by kernel_rfl) (by kernel_rfl) (by kernel_rfl) (fun _ _ _ h => h) (Or.inl ⟨by rfl, ?_⟩) (by assumption) ?_
        rotate_left
        · (intro w0 hSw; (try dsimp only at hSw); (try simp only [List.getElem_toArray, List.getElem_cons_zero, List.getElem_cons_succ]); go_simp; try (with_reducible rfl))
        try simp only [Act.put, List.getElem_toArray, List.getElem_cons_zero, List.getElem_cons_succ, List.setIfInBounds_toArray, List.set_cons_zero, List.set_cons_succ]
        refine wpAnyH_take (i := 9) (oi := _) (v := ?_) rfl (by kernel_rfl) (by kernel_rfl) (by kernel_rfl) (fun _ _ _ h => h) (Or.inl ⟨by rfl, ?_⟩) (by assumption) ?_
        rotate_left
        · (intro w0 hSw; (try dsimp only at hSw); (try simp only [List.getElem_toArray, List.getElem_cons_zero, List.getElem_cons_succ]); go_simp; try (with_reducible rfl))
        try simp only [Act.put, List.getElem_toArray, List.getElem_cons_zero, List.getElem_cons_succ, List.setIfInBounds_toArray, List.set_cons_zero, List.set_cons_succ]
        refine wpAnyH_take (i := 10) (oi := _) (v := ?_) rfl (by kernel_rfl) (by kernel_rfl) (by kernel_rfl) (fun _ _ _ h => h) (Or.inl ⟨by rfl, ?_⟩) (by assumption) ?_
        rotate_left
        · (intro w0 hSw; (try dsimp only at hSw); (try simp only [List.getElem_toArray, List.getElem_cons_zero, List.getElem_cons_succ]); go_simp; try (with_reducible rfl))
        try simp only [Act.put, List.getElem_toArray, List.getElem_cons_zero, List.getElem_cons_succ, List.setIfInBounds_toArray, List.set_cons_zero, List.set_cons_succ]
        refine wpAnyH_take (i := 11) (oi := _) (v := ?_) rfl (by kernel_rfl) (by kernel_rfl) (by kernel_rfl) (fun _ _ _ h => h) (Or.inl ⟨by rfl, ?_⟩) (by assumption) ?_
        rotate_left
        · (intro w0 hSw; (try dsimp only at hSw); (try simp only [List.getElem_toArray, List.getElem_cons_zero, List.getElem_cons_succ]); go_simp; try (with_reducible rfl))
        try simp only [Act.put, List.getElem_toArray, List.getElem_cons_zero, List.getElem_cons_succ, List.setIfInBounds_toArray, List.set_cons_zero, List.set_cons_succ]
        refine wpAnyH_take (i := 12) (oi := _) (v := ?_) rfl (by kernel_rfl) (by kernel_rfl) (by kernel_rfl) (fun _ _ _ h => h) (Or.inl ⟨by rfl, ?_⟩) (by assumption) ?_
        rotate_left
        · (intro w0 hSw; (try dsimp only at hSw); (try simp only [List.getElem_toArray, List.getElem_cons_zero, List.getElem_cons_succ]); go_simp; try (with_reducible rfl))
        try simp only [Act.put, List.getElem_toArray, List.getElem_cons_zero, List.getElem_cons_succ, List.setIfInBounds_toArray, List.set_cons_zero, List.set_cons_succ]
        refine wpAnyH_take (i := 13) (oi := _) (v := ?_) rfl (by kernel_rfl) (by kernel_rfl) (by kernel_rfl) (fun _ _ _ h => h) (Or.inl ⟨by rfl, ?_⟩) (by assumption) ?_
        rotate_left
        · (intro w0 hSw; (try dsimp only at hSw); (try simp only [List.getElem_toArray, List.getElem_cons_zero, List.getElem_cons_succ]); go_simp; try (with_reducible rfl))
        try simp only [Act.put, List.getElem_toArray, List.getElem_cons_zero, List.getElem_cons_succ, List.setIfInBounds_toArray, List.set_cons_zero, List.set_cons_succ]
        refine wpAnyH_take (i := 14) (oi := _) (v := ?_) rfl (by kernel_rfl) (by kernel_rfl) (by kernel_rfl) (fun _ _ _ h => h) (Or.inl ⟨by rfl, ?_⟩) (by assumption) ?_
        rotate_left
        · (intro w0 hSw; (try dsimp only at hSw); (try simp only [List.getElem_toArray, List.getElem_cons_zero, List.getElem_cons_succ]); go_simp; try (with_reducible rfl))
        try simp only [Act.put, List.getElem_toArray, List.getElem_cons_zero, List.getElem_cons_succ, List.setIfInBounds_toArray, List.set_cons_zero, List.set_cons_succ]
        refine wpAnyH_take (i := 15) (oi := _) (v := ?_) rfl (by kernel_rfl) (by kernel_rfl) (by kernel_rfl) (fun _ _ _ h => h) (Or.inl ⟨by rfl, ?_⟩) (by assumption) ?_
        rotate_left
        · (intro w0 hSw; (try dsimp only at hSw); (try simp only [List.getElem_toArray, List.getElem_cons_zero, List.getElem_cons_succ]); go_simp; try (with_reducible rfl))
        try simp only [Act.put, List.getElem_toArray, List.getElem_cons_zero, List.getElem_cons_succ, List.setIfInBounds_toArray, List.set_cons_zero, List.set_cons_succ]
        refine wpAnyH_take (i := 16) (oi := _) (v := ?_) rfl (by kernel_rfl) (by kernel_rfl) (by kernel_rfl) (fun _ _ _ h => h) (Or.inl ⟨by rfl, ?_⟩) (by assumption) ?_
        rotate_left
        · (intro w0 hSw; (try dsimp only at hSw); (try simp only [List.getElem_toArray, List.getElem_cons_zero, List.getElem_cons_succ]); go_simp; try (with_reducible rfl))
        try simp only [Act.put, List.getElem_toArray, List.getElem_cons_zero, List.getElem_cons_succ, List.setIfInBounds_toArray, List.set_cons_zero, List.set_cons_succ]
        refine wpAnyH_take (i := 17) (oi := _) (v := ?_) rfl (by kernel_rfl) (by kernel_rfl) (by kernel_rfl) (fun _ _ _ h => h) (Or.inl ⟨by rfl, ?_⟩) (by assumption) ?_
        rotate_left
        · (intro w0 hSw; (try dsimp only at hSw); (try simp only [List.getElem_toArray, List.getElem_cons_zero, List.getElem_cons_succ]); go_simp; try (with_reducible rfl))
        try simp only [Act.put, List.getElem_toArray, List.getElem_cons_zero, List.getElem_cons_succ, List.setIfInBounds_toArray, List.set_cons_zero, List.set_cons_succ]
        refine wpAnyH_take (i := 18) (oi := _) (v := ?_) rfl (by kernel_rfl) (by kernel_rfl) (by kernel_rfl) (fun _ _ _ h => h) (Or.inl ⟨by rfl, ?_⟩) (by assumption) ?_
        rotate_left
        · (intro w0 hSw; (try dsimp only at hSw); (try simp only [List.getElem_toArray, List.getElem_cons_zero, List.getElem_cons_succ]); go_simp; try (with_reducible rfl))
        try simp only [Act.put, List.getElem_toArray, List.getElem_cons_zero, List.getElem_cons_succ, List.setIfInBounds_toArray, List.set_cons_zero, List.set_cons_succ]
        refine wpAnyH_take (i := 19) (oi := _) (v := ?_) rfl (by kernel_rfl) (by kernel_rfl) (by kernel_rfl) (fun _ _ _ h => h) (Or.inl ⟨by rfl, ?_⟩) (by assumption) ?_
        rotate_left
        · (intro w0 hSw; (try dsimp only at hSw); (try simp only [List.getElem_toArray, List.getElem_cons_zero, List.getElem_cons_succ]); go_simp; try (with_reducible rfl))
        try simp only [Act.put, List.getElem_toArray, List.getElem_cons_zero, List.getElem_cons_succ, List.setIfInBounds_toArray, List.set_cons_zero, List.set_cons_succ]
        refine wpAnyH_take (i := 20) (oi := _) (v := ?_) rfl (by kernel_rfl) (by kernel_rfl) (by kernel_rfl) (fun _ _ _ h => h) (Or.inl ⟨by rfl, ?_⟩) (by assumption) ?_
        rotate_left
        · (intro w0 hSw; (try dsimp only at hSw); (try simp only [List.getElem_toArray, List.getElem_cons_zero, List.getElem_cons_succ]); go_simp; try (with_reducible rfl))
        try simp only [Act.put, List.getElem_toArray, List.getElem_cons_zero, List.getElem_cons_succ, List.setIfInBounds_toArray, List.set_cons_zero, List.set_cons_succ]
        refine wpAnyH_ready (rs := [1, 21]) (by kernel_rfl) (by simp) ?_
        refine AllReadyH.cons (o := _) rfl (fun K hK => ?_) ?_
        · (try simp only [List.getElem_toArray, List.getElem_cons_zero, List.getElem_cons_succ])
          go_simp
          refine hK.out _ _ (by (first | assumption | exact ⟨cta, ctb⟩ | exact KT.out _ (grown_refl _ _) | exact KT.out _ (grown_ad _ _ _) | exact KT.out _ (by assumption) | exact ⟨(World.cell?_setCell_far _ _ _ _ (fun e => hg1 (Eq.symm e))).trans (KT.out _ HG7).1, (World.cell?_setCell_far _ _ _ _ (fun e => hg1 (Eq.symm e))).trans (KT.out _ HG7).2⟩)) (fun hHeld1 => ?_)
          clear hK K
          (try simp only [Act.put]); (try simp only [List.setIfInBounds_toArray]); (try simp only [List.set_cons_zero, List.set_cons_succ])
          refine wpAnyH_ready (rs := [21]) (by kernel_rfl) (by simp) ?_
          refine AllReadyH.cons (o := _) rfl (fun K hK => ?_) AllReadyH.nil
          (try simp only [List.getElem_toArray, List.getElem_cons_zero, List.getElem_cons_succ])
          go_simp
          refine hK.out _ _ (by (first | assumption | exact ⟨cta, ctb⟩ | exact KT.out _ (grown_refl _ _) | exact KT.out _ (grown_ad _ _ _) | exact KT.out _ (by assumption) | exact ⟨(World.cell?_setCell_far _ _ _ _ (fun e => hg1 (Eq.symm e))).trans (KT.out _ HG7).1, (World.cell?_setCell_far _ _ _ _ (fun e => hg1 (Eq.symm e))).trans (KT.out _ HG7).2⟩)) (fun hHeld21 => ?_)
          clear hK K
          (try simp only [Act.put]); (try simp only [List.setIfInBounds_toArray]); (try simp only [List.set_cons_zero, List.set_cons_succ])
          refine wpAnyH_ready (rs := [22]) (by kernel_rfl) (by simp) ?_
          refine AllReadyH.cons (o := _) rfl (fun K hK => ?_) AllReadyH.nil
          refine step_append_lies _ rfl (.tmp 137) (.tmp 157) 23 rfl V.heap.size 33 i6 _ 2 16 Try.underlying23 HI6.out HZ6.out HS6.out HBY6.out rfl (by decide) u cnt _ rfl (HU5.out.alloc _).drew ⟨w5.heap.size, 0, none⟩ 1 1 [.int .i64 (2 * (ta : Int) + ra), .int .i64 (2 * (tb : Int) + rb2)] rfl rfl (World.news_of_block (heap_new _ _)) (by simp [Value.oneCell']) (by decide) hn1 hn2 hn3 _ rfl ?_
          intro g2 cap2 w7 hown7 hgrow7 hat7 hlt7
          have HG7 := grown_trans (grown_ad _ _ _) hgrow7
          have hc7 := KU.out w7 HG7
          have hf7 := KF.out w7 HG7 2
          refine hK.out _ _ (by (first | assumption | exact ⟨cta, ctb⟩ | exact KT.out _ (grown_refl _ _) | exact KT.out _ (grown_ad _ _ _) | exact KT.out _ (by assumption) | exact ⟨(World.cell?_setCell_far _ _ _ _ (fun e => hg1 (Eq.symm e))).trans (KT.out _ HG7).1, (World.cell?_setCell_far _ _ _ _ (fun e => hg1 (Eq.symm e))).trans (KT.out _ HG7).2⟩)) (fun hHeld12 => ?_)
          clear hK K
          (try simp only [Act.put]); (try simp only [List.setIfInBounds_toArray]); (try simp only [List.set_cons_zero, List.set_cons_succ])
          refine wpAnyH_take (i := 23) (oi := _) (v := ?_) rfl (by kernel_rfl) (by kernel_rfl) (by kernel_rfl) (fun _ _ _ h => h) (Or.inl ⟨by rfl, ?_⟩) (by assumption) ?_
          rotate_left
          · (intro w0 hSw; (try dsimp only at hSw); (try simp only [List.getElem_toArray, List.getElem_cons_zero, List.getElem_cons_succ]); go_simp; try (with_reducible rfl))
          try simp only [Act.put, List.getElem_toArray, List.getElem_cons_zero, List.getElem_cons_succ, List.setIfInBounds_toArray, List.set_cons_zero, List.set_cons_succ]
          refine wpAnyH_ready (rs := [24]) (by kernel_rfl) (by simp) ?_
          refine AllReadyH.cons (o := _) rfl (fun K hK => ?_) AllReadyH.nil
          (try simp only [List.getElem_toArray, List.getElem_cons_zero, List.getElem_cons_succ])
          go_simp
          refine hK.out _ _ (by (first | assumption | exact ⟨cta, ctb⟩ | exact KT.out _ (grown_refl _ _) | exact KT.out _ (grown_ad _ _ _) | exact KT.out _ (by assumption) | exact ⟨(World.cell?_setCell_far _ _ _ _ (fun e => hg1 (Eq.symm e))).trans (KT.out _ HG7).1, (World.cell?_setCell_far _ _ _ _ (fun e => hg1 (Eq.symm e))).trans (KT.out _ HG7).2⟩)) (fun hHeld24 => ?_)
          clear hK K
          (try simp only [Act.put]); (try simp only [List.setIfInBounds_toArray]); (try simp only [List.set_cons_zero, List.set_cons_succ])
          refine wpAnyH_done (by kernel_rfl) ?_ _
          refine NoPanic.normal ?_
          generalize hW8 : World.setCell w7 _ _ = w8
          have HU8 : Hid (w8.cell? ⟨hb, 2, none⟩ = some (.slice (some ⟨g2, 0, none⟩) (cnt + 1) cap2)) := by rw [← hW8]; exact World.cell?_setCell_same (h := hc7) ..
          have HF8 : Hid (∀ j, w8.frozen? ⟨hb, j, none⟩ = false) := by rw [← hW8]; exact fun j => (World.frozen?_setCell _ _ _ _).trans (KF.out w7 HG7 j)
          have hgs : w7.grownBy w8 (some hb) := by rw [← hW8]; exact grown_set _ _ _ _
          have hg2 : g2 ≠ hb := fun e => by
            rcases hat7 with h | h
            · have := (HU5.out.lt g2 h).1; omega
            · simp at h; omega
          have HS8 : Hid (Sep (.slice (some ⟨g1, 0, none⟩) (first + k + 1) cap1) (.slice (some ⟨g2, 0, none⟩) (cnt + 1) cap2)) := by
            refine .inr (.inr fun e => ?_)
            have e' : g1 = g2 := by injection e
            rcases hat7 with h | h
            · exact HS5.out g1 rfl (by rw [h, e'])
            · have := (HT5.out.lt g1 rfl).2; simp at h; omega
          have HT8 : Hid (w8.ownsRow V.heap.size 3 1 (.slice (some ⟨g1, 0, none⟩) (first + k + 1) cap1) (first + (k + 1)) ((List.range (first + (k + 1))).map (fun v => iV (toV first nk v)))) := ((HT5.out.kept HG7 (.inr (fun e => HS5.out g1 rfl e.symm))).kept hgs (.inr (fun e => hg1 (by injection e))))
          have HA8 : Hid (w8.ownsRow V.heap.size 33 2 (.slice (some ⟨g2, 0, none⟩) (cnt + 1) cap2) (keptK first nk G.ands (k + 1)).length ((keptK first nk G.ands (k + 1)).flatMap AndD.cells)) := by
            have := hown7.kept hgs (.inr (fun e => hg2 (by injection e)))
            show World.ownsRow _ _ _ _ _ _ _
            rw [HNX.out, List.flatMap_append, List.length_append, HCN.out]
            exact this
          have HG8 : Hid (V.grownBy w8 (some hb)) := grown_thru HG5.out HG7 hgs (fun x hx => (HU5.out.lt x hx).1)
          have HJ8 : Hid (∀ j, j ≠ 2 → w8.cell? ⟨hb, j, none⟩ = V.cell? ⟨hb, j, none⟩) := fun j hj => by
            rw [← hW8]
            refine (World.cell?_setCell_other (h := fun e => hj (by cases e; rfl)) ..).trans ?_
            exact (HG7.cell_far ⟨hb, j, none⟩ (by show hb < _; omega) (fun e => by have := (HU5.out.lt hb e.symm).1; omega)).trans (HJ5.out j hj)
          clear hW8 hgs hg2 hown7 hgrow7 hat7 hlt7 HG7 hc7 hf7 HU5 HT5 HS5 HG5 HJ5 KT KU KF HNX
          go_wp2
          go_roundw
          case measure => simp [intOf]; omega
          case rel => exact ⟨k + 1, _, by omega, by simp, HU8.out, HA8.out, HT8.out, HS8.out, HG8.out, HF8.out, HJ8.out⟩
        refine AllReadyH.cons (o := _) rfl (fun K hK => ?_) AllReadyH.nil
        (try simp only [List.getElem_toArray, List.getElem_cons_zero, List.getElem_cons_succ])
        go_simp
        refine hK.out _ _ (by (first | assumption | exact ⟨cta, ctb⟩ | exact KT.out _ (grown_refl _ _) | exact KT.out _ (grown_ad _ _ _) | exact KT.out _ (by assumption) | exact ⟨(World.cell?_setCell_far _ _ _ _ (fun e => hg1 (Eq.symm e))).trans (KT.out _ HG7).1, (World.cell?_setCell_far _ _ _ _ (fun e => hg1 (Eq.symm e))).trans (KT.out _ HG7).2⟩)) (fun hHeld21 => ?_)
        clear hK K
        (try simp only [Act.put]); (try simp only [List.setIfInBounds_toArray]); (try simp only [List.set_cons_zero, List.set_cons_succ])
        refine wpAnyH_ready (rs := [1]) (by kernel_rfl) (by simp) ?_
        refine AllReadyH.cons (o := _) rfl (fun K hK => ?_) AllReadyH.nil
        (try simp only [List.getElem_toArray, List.getElem_cons_zero, List.getElem_cons_succ])
        go_simp
        refine hK.out _ _ (by (first | assumption | exact ⟨cta, ctb⟩ | exact KT.out _ (grown_refl _ _) | exact KT.out _ (grown_ad _ _ _) | exact KT.out _ (by assumption) | exact ⟨(World.cell?_setCell_far _ _ _ _ (fun e => hg1 (Eq.symm e))).trans (KT.out _ HG7).1, (World.cell?_setCell_far _ _ _ _ (fun e => hg1 (Eq.symm e))).trans (KT.out _ HG7).2⟩)) (fun hHeld1 => ?_)
        clear hK K
        (try simp only [Act.put]); (try simp only [List.setIfInBounds_toArray]); (try simp only [List.set_cons_zero, List.set_cons_succ])
        refine wpAnyH_ready (rs := [22]) (by kernel_rfl) (by simp) ?_
        refine AllReadyH.cons (o := _) rfl (fun K hK => ?_) AllReadyH.nil
        refine step_append_lies _ rfl (.tmp 137) (.tmp 157) 23 rfl V.heap.size 33 i6 _ 2 16 Try.underlying23 HI6.out HZ6.out HS6.out HBY6.out rfl (by decide) u cnt _ rfl (HU5.out.alloc _).drew ⟨w5.heap.size, 0, none⟩ 1 1 [.int .i64 (2 * (ta : Int) + ra), .int .i64 (2 * (tb : Int) + rb2)] rfl rfl (World.news_of_block (heap_new _ _)) (by simp [Value.oneCell']) (by decide) hn1 hn2 hn3 _ rfl ?_
        intro g2 cap2 w7 hown7 hgrow7 hat7 hlt7
        have HG7 := grown_trans (grown_ad _ _ _) hgrow7
        have hc7 := KU.out w7 HG7
        have hf7 := KF.out w7 HG7 2
        refine hK.out _ _ (by (first | assumption | exact ⟨cta, ctb⟩ | exact KT.out _ (grown_refl _ _) | exact KT.out _ (grown_ad _ _ _) | exact KT.out _ (by assumption) | exact ⟨(World.cell?_setCell_far _ _ _ _ (fun e => hg1 (Eq.symm e))).trans (KT.out _ HG7).1, (World.cell?_setCell_far _ _ _ _ (fun e => hg1 (Eq.symm e))).trans (KT.out _ HG7).2⟩)) (fun hHeld12 => ?_)
        clear hK K
        (try simp only [Act.put]); (try simp only [List.setIfInBounds_toArray]); (try simp only [List.set_cons_zero, List.set_cons_succ])
        refine wpAnyH_take (i := 23) (oi := _) (v := ?_) rfl (by kernel_rfl) (by kernel_rfl) (by kernel_rfl) (fun _ _ _ h => h) (Or.inl ⟨by rfl, ?_⟩) (by assumption) ?_
        rotate_left
        · (intro w0 hSw; (try dsimp only at hSw); (try simp only [List.getElem_toArray, List.getElem_cons_zero, List.getElem_cons_succ]); go_simp; try (with_reducible rfl))
        try simp only [Act.put, List.getElem_toArray, List.getElem_cons_zero, List.getElem_cons_succ, List.setIfInBounds_toArray, List.set_cons_zero, List.set_cons_succ]
        refine wpAnyH_ready (rs := [24]) (by kernel_rfl) (by simp) ?_
        refine AllReadyH.cons (o := _) rfl (fun K hK => ?_) AllReadyH.nil
        (try simp only [List.getElem_toArray, List.getElem_cons_zero, List.getElem_cons_succ])
        go_simp
        refine hK.out _ _ (by (first | assumption | exact ⟨cta, ctb⟩ | exact KT.out _ (grown_refl _ _) | exact KT.out _ (grown_ad _ _ _) | exact KT.out _ (by assumption) | exact ⟨(World.cell?_setCell_far _ _ _ _ (fun e => hg1 (Eq.symm e))).trans (KT.out _ HG7).1, (World.cell?_setCell_far _ _ _ _ (fun e => hg1 (Eq.symm e))).trans (KT.out _ HG7).2⟩)) (fun hHeld24 => ?_)
        clear hK K
        (try simp only [Act.put]); (try simp only [List.setIfInBounds_toArray]); (try simp only [List.set_cons_zero, List.set_cons_succ])
        refine wpAnyH_done (by kernel_rfl) ?_ _
        refine NoPanic.normal ?_
        generalize hW8 : World.setCell w7 _ _ = w8
        have HU8 : Hid (w8.cell? ⟨hb, 2, none⟩ = some (.slice (some ⟨g2, 0, none⟩) (cnt + 1) cap2)) := by rw [← hW8]; exact World.cell?_setCell_same (h := hc7) ..
        have HF8 : Hid (∀ j, w8.frozen? ⟨hb, j, none⟩ = false) := by rw [← hW8]; exact fun j => (World.frozen?_setCell _ _ _ _).trans (KF.out w7 HG7 j)
        have hgs : w7.grownBy w8 (some hb) := by rw [← hW8]; exact grown_set _ _ _ _
        have hg2 : g2 ≠ hb := fun e => by
          rcases hat7 with h | h
          · have := (HU5.out.lt g2 h).1; omega
          · simp at h; omega
        have HS8 : Hid (Sep (.slice (some ⟨g1, 0, none⟩) (first + k + 1) cap1) (.slice (some ⟨g2, 0, none⟩) (cnt + 1) cap2)) := by
          refine .inr (.inr fun e => ?_)
          have e' : g1 = g2 := by injection e
          rcases hat7 with h | h
          · exact HS5.out g1 rfl (by rw [h, e'])
          · have := (HT5.out.lt g1 rfl).2; simp at h; omega
        have HT8 : Hid (w8.ownsRow V.heap.size 3 1 (.slice (some ⟨g1, 0, none⟩) (first + k + 1) cap1) (first + (k + 1)) ((List.range (first + (k + 1))).map (fun v => iV (toV first nk v)))) := ((HT5.out.kept HG7 (.inr (fun e => HS5.out g1 rfl e.symm))).kept hgs (.inr (fun e => hg1 (by injection e))))
        have HA8 : Hid (w8.ownsRow V.heap.size 33 2 (.slice (some ⟨g2, 0, none⟩) (cnt + 1) cap2) (keptK first nk G.ands (k + 1)).length ((keptK first nk G.ands (k + 1)).flatMap AndD.cells)) := by
          have := hown7.kept hgs (.inr (fun e => hg2 (by injection e)))
          show World.ownsRow _ _ _ _ _ _ _
          rw [HNX.out, List.flatMap_append, List.length_append, HCN.out]
          exact this
        have HG8 : Hid (V.grownBy w8 (some hb)) := grown_thru HG5.out HG7 hgs (fun x hx => (HU5.out.lt x hx).1)
        have HJ8 : Hid (∀ j, j ≠ 2 → w8.cell? ⟨hb, j, none⟩ = V.cell? ⟨hb, j, none⟩) := fun j hj => by
          rw [← hW8]
          refine (World.cell?_setCell_other (h := fun e => hj (by cases e; rfl)) ..).trans ?_
          exact (HG7.cell_far ⟨hb, j, none⟩ (by show hb < _; omega) (fun e => by have := (HU5.out.lt hb e.symm).1; omega)).trans (HJ5.out j hj)
        clear hW8 hgs hg2 hown7 hgrow7 hat7 hlt7 HG7 hc7 hf7 HU5 HT5 HS5 HG5 HJ5 KT KU KF HNX
        go_wp2
        go_roundw
        case measure => simp [intOf]; omega
        case rel => exact ⟨k + 1, _, by omega, by simp, HU8.out, HA8.out, HT8.out, HS8.out, HG8.out, HF8.out, HJ8.out⟩
    · have hge : ¬ ((k : Int) < (G.ands.length : Int)) := by omega
      have hke : k = G.ands.length := by omega
      have HEN : Hid (wr.ownsRow V.heap.size 33 2 u (keptK first nk G.ands (G.ands.length)).length ((keptK first nk G.ands (G.ands.length)).flatMap AndD.cells) ∧ wr.ownsRow V.heap.size 3 1 u9 (n) ((List.range (n)).map (fun v => iV (toV first nk v)))) := by
        subst hke
        refine ⟨HA.out, ?_⟩
        have := HT.out
        rw [hfn] at this
        exact this
      clear hke HA HT
      go_wp2
      exact HK.out _ _ _ _ _ _ _ _ _ _ _ _ _ _ _ _ _ _ _ _ _ _ _ _ _ _ _ _ _ _ _ _ _ _ _ _ _ _ _ _ _ _ _ _ _ _ _ _ _ _ _ _ _ _ _ _ _ _ _ _ _ _ ⟨⟨u, HU.out, HEN.out.1, HEN.out.2, HSp.out⟩, HG.out, HF.out, HJ.out⟩

end Go.Proofs.Ytpipdmeibfkehaa
