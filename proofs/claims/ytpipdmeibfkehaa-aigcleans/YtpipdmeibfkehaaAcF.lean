import Derived.Test.YtpipdmeibfkehaaAcE
import Derived.Deep.RegionHeld3
namespace Go.Proofs.Ytpipdmeibfkehaa
open Go.RowKit

def intV (x : Int) : Value := .int .i64 x
theorem grown_set (w : World) (b j : Nat) (v : Value) : w.grownBy (w.setCell ⟨b, j, none⟩ v) (some b) := by
  refine ⟨rfl, rfl, rfl, by simp [World.setCell], fun k hk hne => ?_⟩
  have hkb : k ≠ b := fun e => hne (by rw [e])
  simp [World.setCell, Array.getElem?_modify, Ne.symm hkb]
theorem grown_thru {a b c d : World} {x : Nat} {row : Option Nat} (h1 : a.grownBy b (some x)) (h2 : b.grownBy c row) (h3 : c.grownBy d (some x)) (hr : ∀ y, row = some y → a.heap.size ≤ y) : a.grownBy d (some x) :=
  ⟨h3.os.trans (h2.os.trans h1.os), h3.tape.trans (h2.tape.trans h1.tape), h3.output.trans (h2.output.trans h1.output), Nat.le_trans h1.size (Nat.le_trans h2.size h3.size), fun k hk hne => by
    have s1 := h1.size
    have s2 := h2.size
    rw [h3.block k (by omega) hne, h2.block k (by omega) (fun e => by have := hr k e.symm; omega), h1.block k hk hne]⟩
theorem grown_ad (w : World) (o : Obj) (row : Option Nat) : w.grownBy (w.alloc o).drew row := ⟨rfl, rfl, rfl, by simp, fun k hk _ => heap_alloc_old w o hk⟩

set_option maxRecDepth 100000 in
set_option maxHeartbeats 8000000 in
theorem cgOutsTo (wc : World) (G : GrD) (first : Nat) (nk : List Bool) (B n nbk hb tg tc : Nat) (a : Option Addr) (c : Nat) (q3 : wc.cell? ⟨nbk, 3, none⟩ = some (.slice a G.outs.length c)) (hnbk : nbk < wc.heap.size) (hnb : nbk ≠ hb) (HR : Hid (RowAt B wc a 1 (G.outs.map intC))) (hBw : B ≤ wc.heap.size) (hBh : B ≤ hb) (hin : ∀ z, z ∈ G.outs → 0 ≤ z ∧ z < 2 * (n : Int)) (hn : n ≤ 60000) (hlen : G.outs.length ≤ 60000) (hhb : hb < wc.heap.size) (htg : tg < wc.heap.size) (hth : tg ≠ hb) (HT : Hid (∀ v, v < n → wc.cell? ⟨tg, v, none⟩ = some (.int .i64 (toV first nk v : Nat)) ∧ toV first nk v ≤ 60000)) (hq : wc.cell? ⟨hb, 3, none⟩ = some (.slice none 0 0)) (hfr : wc.frozen? ⟨hb, 3, none⟩ = false) (K' : Act → World → Prop) (Q0 : Exit → Act → World → Prop) (x0 x2 x3 x4 x5 x6 x7 x10 x11 x12 x13 x14 x15 x17 x18 x19 x20 x21 x22 x23 x24 x25 x26 x27 x28 x29 x30 x31 x32 x33 x34 x35 x36 x37 x38 x39 x40 x41 x42 x43 x44 x45 x46 x47 x48 x49 x50 x51 x52 x53 x54 x55 x56 x57 x58 x59 x60 x61 x62 x63 x64 x65 x66 x67 x68 x69 x70 x71 x72 x73 x74 x75 x76 x77 x78 x79 x80 x81 x82 x83 x84 x85 x86 x87 x88 x89 x90 x91 x92 x93 x94 x95 x96 x97 x98 x99 x100 x101 x102 x103 x104 x105 x106 x107 x108 x109 x110 x111 x112 x113 x114 x115 x116 x117 x118 x119 x120 x121 x122 x123 x124 x125 x126 x127 x128 x129 x130 x131 x132 x133 x134 x135 x136 x137 x138 x139 x140 x141 x142 x143 x144 x145 x146 x147 x148 x149 x150 x151 x152 x153 x154 x155 x156 x157 x158 x159 x160 x161 x162 x163 x164 x165 x166 x167 x168 x169 x170 x171 x172 x173 x174 x175 x176 x177 x178 x179 x180 x181 x182 x183 x184 x185 x186 x187 x188 x189 x190 x191 x192 x193 x194 x195 x196 x197 x198 x199 x200 x201 x202 x203 x204 x205 x206 x207 x208 x209 x210 x211 x212 x213 x214 x215 x216 x217 x218 x219 x220 : Value)
    (HK : Hid (∀ (w' : World) (s16 s17 s194 s195 s196 s197 s198 s199 s200 s201 s202 s203 s204 s205 s206 s207 s208 s209 s210 s211 s212 s213 s214 s215 s216 s217 s218 s219 : Value), (∃ u, w'.cell? ⟨hb, 3, none⟩ = some u ∧ w'.ownsRow wc.heap.size 3 1 u G.outs.length ((G.outs.map (litC first nk)).map intV)) ∧ wc.grownBy w' (some hb) ∧ (∀ j, j ≠ 3 → w'.cell? ⟨hb, j, none⟩ = wc.cell? ⟨hb, j, none⟩) → K' ⟨#[x0, .pointer (some ⟨nbk, 0, none⟩), x2, x3, x4, x5, x6, x7, .pointer (some ⟨hb, 0, none⟩), .slice (some ⟨tg, 0, none⟩) n tc, x10, x11, x12, x13, x14, x15, s16, s17, x18, x19, x20, x21, x22, x23, x24, x25, x26, x27, x28, x29, x30, x31, x32, x33, x34, x35, x36, x37, x38, x39, x40, x41, x42, x43, x44, x45, x46, x47, x48, x49, x50, x51, x52, x53, x54, x55, x56, x57, x58, x59, x60, x61, x62, x63, x64, x65, x66, x67, x68, x69, x70, x71, x72, x73, x74, x75, x76, x77, x78, x79, x80, x81, x82, x83, x84, x85, x86, x87, x88, x89, x90, x91, x92, x93, x94, x95, x96, x97, x98, x99, x100, x101, x102, x103, x104, x105, x106, x107, x108, x109, x110, x111, x112, x113, x114, x115, x116, x117, x118, x119, x120, x121, x122, x123, x124, x125, x126, x127, x128, x129, x130, x131, x132, x133, x134, x135, x136, x137, x138, x139, x140, x141, x142, x143, x144, x145, x146, x147, x148, x149, x150, x151, x152, x153, x154, x155, x156, x157, x158, x159, x160, x161, x162, x163, x164, x165, x166, x167, x168, x169, x170, x171, x172, x173, x174, x175, x176, x177, x178, x179, x180, x181, x182, x183, x184, x185, x186, x187, x188, x189, x190, x191, x192, x193, s194, s195, s196, s197, s198, s199, s200, s201, s202, s203, s204, s205, s206, s207, s208, s209, s210, s211, s212, s213, s214, s215, s216, s217, s218, s219, x220], []⟩ w')) :
    Code.wp Try.prog ((Try.f9.body.bind (blockAt 12)).getD .skip) (Exit.then K' Q0) ⟨#[x0, .pointer (some ⟨nbk, 0, none⟩), x2, x3, x4, x5, x6, x7, .pointer (some ⟨hb, 0, none⟩), .slice (some ⟨tg, 0, none⟩) n tc, x10, x11, x12, x13, x14, x15, .int .i64 0, x17, x18, x19, x20, x21, x22, x23, x24, x25, x26, x27, x28, x29, x30, x31, x32, x33, x34, x35, x36, x37, x38, x39, x40, x41, x42, x43, x44, x45, x46, x47, x48, x49, x50, x51, x52, x53, x54, x55, x56, x57, x58, x59, x60, x61, x62, x63, x64, x65, x66, x67, x68, x69, x70, x71, x72, x73, x74, x75, x76, x77, x78, x79, x80, x81, x82, x83, x84, x85, x86, x87, x88, x89, x90, x91, x92, x93, x94, x95, x96, x97, x98, x99, x100, x101, x102, x103, x104, x105, x106, x107, x108, x109, x110, x111, x112, x113, x114, x115, x116, x117, x118, x119, x120, x121, x122, x123, x124, x125, x126, x127, x128, x129, x130, x131, x132, x133, x134, x135, x136, x137, x138, x139, x140, x141, x142, x143, x144, x145, x146, x147, x148, x149, x150, x151, x152, x153, x154, x155, x156, x157, x158, x159, x160, x161, x162, x163, x164, x165, x166, x167, x168, x169, x170, x171, x172, x173, x174, x175, x176, x177, x178, x179, x180, x181, x182, x183, x184, x185, x186, x187, x188, x189, x190, x191, x192, x193, x194, x195, x196, x197, x198, x199, x200, x201, x202, x203, x204, x205, x206, x207, x208, x209, x210, x211, x212, x213, x214, x215, x216, x217, x218, x219, x220], []⟩ wc := by
  conv => arg 2; whnf
  obtain ⟨i3, hi3, hz3, hs3, hb3⟩ := info_int
  have HI2 := hidden hi3
  have HZ2 := hidden hz3
  have HS2 := hidden hs3
  have HBY2 := hidden hb3
  clear hi3 hz3 hs3 hb3
  go_wp2_with fail
  go_loopw [16] (fun i' w' => ∃ (k : Nat) (u : Value), k ≤ G.outs.length ∧ i' = .int .i64 k ∧ Hid (w'.cell? ⟨hb, 3, none⟩ = some u) ∧ Hid (w'.ownsRow wc.heap.size 3 1 u k (((G.outs.take k).map (litC first nk)).map intV)) ∧ Hid (wc.grownBy w' (some hb)) ∧ Hid (w'.frozen? ⟨hb, 3, none⟩ = false) ∧ Hid (∀ j, j ≠ 3 → w'.cell? ⟨hb, j, none⟩ = wc.cell? ⟨hb, j, none⟩)) (fun i' _ => G.outs.length - (intOf i').toNat)
  case atStart => exact ⟨0, _, Nat.zero_le _, rfl, hq, World.ownsRow_nil _ _ _ _, grown_refl _ _, hfr, fun _ _ => rfl⟩
  case round =>
    obtain ⟨k, u, hk, rfl, HU, HO, HG, HF, HJ⟩ := hrel
    have q3R := (HG.out.cell_far ⟨nbk, 3, none⟩ hnbk (by simp; omega)).trans q3
    by_cases hlt : k < G.outs.length
    · obtain ⟨z, hz⟩ : ∃ z, G.outs[k]? = some z := getElem_lt hlt
      obtain ⟨rb, ro, ea, hrb, hrc⟩ := HR.out.intR hz
      have hrw : rb < wc.heap.size := Nat.lt_of_lt_of_le hrb hBw
      have c1 : wr.cell? ⟨rb, ro + k, none⟩ = some (.int .i64 z) := (HG.out.cell_far _ hrw (by simp; omega)).trans hrc
      have hzi := hin z (List.mem_of_getElem? hz)
      rw [ea] at q3R
      obtain ⟨v, hv⟩ : ∃ v, v = z.toNat / 2 := ⟨_, rfl⟩
      have hvn : v < n := by omega
      have q1 : Int.tdiv z 2 = (v : Int) := by rw [Int.tdiv_eq_ediv_of_nonneg hzi.1]; omega
      have q2 : Int.tmod z 2 = z % 2 := by rw [Int.tmod_eq_emod_of_nonneg hzi.1]
      have HL : Hid (litC first nk z = 2 * (toV first nk v : Nat) + z % 2) := by show _ = _; rw [hv]; rfl
      obtain ⟨ht1, ht2⟩ := HT.out v hvn
      have ct : wr.cell? ⟨tg, v, none⟩ = some (.int .i64 (toV first nk v : Nat)) := (HG.out.cell_far _ htg (by simp; omega)).trans ht1
      have hr2 : 0 ≤ z % 2 ∧ z % 2 < 2 := by omega
      have HNX : Hid (((G.outs.take (k + 1)).map (litC first nk)).map intV = ((G.outs.take k).map (litC first nk)).map intV ++ [.int .i64 (2 * (toV first nk v : Nat) + z % 2)]) := by
        show _ = _
        rw [take_snoc hz, List.map_append, List.map_append, ← HL.out]; rfl
      generalize toV first nk v = tv at *
      generalize z % 2 = r at *
      have hltI : (k : Int) < (G.outs.length : Int) := by omega
      have hvI : (v : Int) < (n : Int) := by omega
      have e1 : IntKind.i64.wrap (v : Int) = (v : Int) := wrapI _ (by omega) (by omega)
      have e2 : IntKind.i64.wrap r = r := wrapI _ (by omega) (by omega)
      have e4 : IntKind.i64.wrap (2 * (tv : Int)) = 2 * (tv : Int) := wrapI _ (by omega) (by omega)
      have e5 : IntKind.i64.wrap (2 * (tv : Int) + r) = 2 * (tv : Int) + r := wrapI _ (by omega) (by omega)
      have e3 : IntKind.i64.wrap ((k : Int) + 1) = (k : Int) + 1 := wrapI _ (by omega) (by omega)
      have hm1 : k + 1 ≤ maxLen := by simp only [maxLen]; omega
      have hm2 : (k + 1) * 8 ≤ 140737488355328 := by omega
      have hsz := HG.out.size
      have hm3 : wc.heap.size ≤ ((wr.alloc (.cells #[.int .i64 (2 * (tv : Int) + r)] 3)).drew).heap.size := by simp; omega
      have hu := HU.out
      clear hrc ea hz hzi hv HL ht1
      have KP : Hid (∀ w', wr.grownBy w' u.ownBlock → w'.cell? ⟨hb, 3, none⟩ = some u ∧ w'.cell? ⟨tg, v, none⟩ = some (.int .i64 (tv : Int))) := fun w' hg => ⟨(hg.cell_far ⟨hb, 3, none⟩ (by show hb < _; omega) (fun e => by have := (HO.out.lt hb e.symm).1; omega)).trans hu, (hg.cell_far ⟨tg, v, none⟩ (by show tg < _; omega) (fun e => by have := (HO.out.lt tg e.symm).1; omega)).trans ct⟩
      have KT : Hid (∀ w', wr.grownBy w' u.ownBlock → w'.cell? ⟨tg, v, none⟩ = some (.int .i64 (tv : Int))) := fun w' hg => (KP.out w' hg).2
      have KF : Hid (∀ w', wr.grownBy w' u.ownBlock → w'.frozen? ⟨hb, 3, none⟩ = false) := fun w' hg => (hg.frozen_far ⟨hb, 3, none⟩ (by show hb < _; omega) (fun e => by have := (HO.out.lt hb e.symm).1; omega)).trans HF.out
      have huA : (wr.alloc (.cells #[.int .i64 (2 * (tv : Int) + r)] 3)).cell? ⟨hb, 3, none⟩ = some u := (KP.out _ (grown_ad _ _ _)).1
      go_upto_region 40 with fail
      refine wp_region_noPanic ?_
      refine wp_region_held_drew (S := (fun w' => w'.cell? ⟨tg, v, none⟩ = some (.int .i64 (tv : Int)))) (by kernel_rfl) (by (first | assumption | exact ct | exact KT.out _ (grown_ad _ _ _) | exact KT.out _ (grown_refl _ _) | exact KT.out _ (by assumption) | exact (World.cell?_setCell_far _ _ _ _ (fun e => hth (Eq.symm e))).trans (by assumption))) (fun hHeld => ?_)
      refine wpAnyH_take (i := 0) (oi := _) (v := ?_) rfl (by kernel_rfl) (by kernel_rfl) (by kernel_rfl) (fun _ _ _ h => h) (Or.inl ⟨by rfl, ?_⟩) (by assumption) ?_
      rotate_left
      · (intro w0 hSw; (try dsimp only at hSw); (try simp only [List.getElem_toArray, List.getElem_cons_zero]); go_simp; try (with_reducible rfl))
      try simp only [Act.put, List.getElem_toArray, List.getElem_cons_zero, List.setIfInBounds_toArray, List.set_cons_zero, List.set_cons_succ]
      refine wpAnyH_take (i := 2) (oi := _) (v := ?_) rfl (by kernel_rfl) (by kernel_rfl) (by kernel_rfl) (fun _ _ _ h => h) (Or.inl ⟨by rfl, ?_⟩) (by assumption) ?_
      rotate_left
      · (intro w0 hSw; (try dsimp only at hSw); (try simp only [List.getElem_toArray, List.getElem_cons_zero, List.getElem_cons_succ]); go_simp; try (with_reducible rfl))
      try simp only [Act.put, List.getElem_toArray, List.getElem_cons_zero, List.getElem_cons_succ, List.setIfInBounds_toArray, List.set_cons_zero, List.set_cons_succ]
      refine wpAnyH_take (i := 3) (oi := _) (v := ?_) rfl (by kernel_rfl) (by kernel_rfl) (by kernel_rfl) (fun _ _ _ h => h) (Or.inl ⟨by rfl, ?_⟩) (by assumption) ?_
      rotate_left
      · (intro w0 hSw; (try dsimp only at hSw); (try simp only [List.getElem_toArray, List.getElem_cons_zero, List.getElem_cons_succ]); go_simp; try (with_reducible rfl))
      try simp only [Act.put, List.getElem_toArray, List.getElem_cons_zero, List.getElem_cons_succ, List.setIfInBounds_toArray, List.set_cons_zero, List.set_cons_succ]
      refine wpAnyH_take (i := 4) (oi := _) (v := ?_) rfl (by kernel_rfl) (by kernel_rfl) (by kernel_rfl) (fun _ _ _ h => h) (Or.inl ⟨by rfl, ?_⟩) (by assumption) ?_
      rotate_left
      · (intro w0 hSw; (try dsimp only at hSw); (try simp only [List.getElem_toArray, List.getElem_cons_zero, List.getElem_cons_succ]); go_simp; try (with_reducible rfl))
      try simp only [Act.put, List.getElem_toArray, List.getElem_cons_zero, List.getElem_cons_succ, List.setIfInBounds_toArray, List.set_cons_zero, List.set_cons_succ]
      refine wpAnyH_take (i := 5) (oi := _) (v := ?_) rfl (by kernel_rfl) (by kernel_rfl) (by kernel_rfl) (fun _ _ _ h => h) (Or.inl ⟨by rfl, ?_⟩) (by assumption) ?_
      rotate_left
      · (intro w0 hSw; (try dsimp only at hSw); (try simp only [List.getElem_toArray, List.getElem_cons_zero, List.getElem_cons_succ]); go_simp; try (with_reducible rfl))
      try simp only [Act.put, List.getElem_toArray, List.getElem_cons_zero, List.getElem_cons_succ, List.setIfInBounds_toArray, List.set_cons_zero, List.set_cons_succ]
      refine wpAnyH_take (i := 6) (oi := _) (v := ?_) rfl (by kernel_rfl) (by kernel_rfl) (by kernel_rfl) (fun _ _ _ h => h) (Or.inl ⟨by rfl, ?_⟩) (by assumption) ?_
      rotate_left
      · (intro w0 hSw; (try dsimp only at hSw); (try simp only [List.getElem_toArray, List.getElem_cons_zero, List.getElem_cons_succ]); go_simp; try (with_reducible rfl))
      try simp only [Act.put, List.getElem_toArray, List.getElem_cons_zero, List.getElem_cons_succ, List.setIfInBounds_toArray, List.set_cons_zero, List.set_cons_succ]
      refine wpAnyH_take (i := 7) (oi := _) (v := ?_) rfl (by kernel_rfl) (by kernel_rfl) (by kernel_rfl) (fun _ _ _ h => h) (Or.inl ⟨by rfl, ?_⟩) (by assumption) ?_
      rotate_left
      · (intro w0 hSw; (try dsimp only at hSw); (try simp only [List.getElem_toArray, List.getElem_cons_zero, List.getElem_cons_succ]); go_simp; try (with_reducible rfl))
      try simp only [Act.put, List.getElem_toArray, List.getElem_cons_zero, List.getElem_cons_succ, List.setIfInBounds_toArray, List.set_cons_zero, List.set_cons_succ]
      refine wpAnyH_take (i := 8) (oi := _) (v := ?_) rfl (by kernel_rfl) (by kernel_rfl) (by kernel_rfl) (fun _ _ _ h => h) (Or.inl ⟨by rfl, ?_⟩) (by assumption) ?_
      rotate_left
      · (intro w0 hSw; (try dsimp only at hSw); (try simp only [List.getElem_toArray, List.getElem_cons_zero, List.getElem_cons_succ]); go_simp; try (with_reducible rfl))
      try simp only [Act.put, List.getElem_toArray, List.getElem_cons_zero, List.getElem_cons_succ, List.setIfInBounds_toArray, List.set_cons_zero, List.set_cons_succ]
      refine wpAnyH_take (i := 9) (oi := _) (v := ?_) rfl (by kernel_rfl) (by kernel_rfl) (by kernel_rfl) (fun _ _ _ h => h) (Or.inl ⟨by rfl, ?_⟩) (by assumption) ?_
      rotate_left
      · (intro w0 hSw; (try dsimp only at hSw); (try simp only [List.getElem_toArray, List.getElem_cons_zero, List.getElem_cons_succ]); go_simp; try (with_reducible rfl))
      try simp only [Act.put, List.getElem_toArray, List.getElem_cons_zero, List.getElem_cons_succ, List.setIfInBounds_toArray, List.set_cons_zero, List.set_cons_succ]
      refine wpAnyH_take (i := 10) (oi := _) (v := ?_) rfl (by kernel_rfl) (by kernel_rfl) (by kernel_rfl) (fun _ _ _ h => h) (Or.inl ⟨by rfl, ?_⟩) (by assumption) ?_
      rotate_left
      · (intro w0 hSw; (try dsimp only at hSw); (try simp only [List.getElem_toArray, List.getElem_cons_zero, List.getElem_cons_succ]); go_simp; try (with_reducible rfl))
      try simp only [Act.put, List.getElem_toArray, List.getElem_cons_zero, List.getElem_cons_succ, List.setIfInBounds_toArray, List.set_cons_zero, List.set_cons_succ]
      refine wpAnyH_ready (rs := [1, 11]) (by kernel_rfl) (by simp) ?_
      refine AllReadyH.cons (o := _) rfl (fun K hK => ?_) ?_
      · (try simp only [List.getElem_toArray, List.getElem_cons_zero, List.getElem_cons_succ])
        go_simp
        refine hK.out _ _ (by (first | assumption | exact ct | exact KT.out _ (grown_ad _ _ _) | exact KT.out _ (grown_refl _ _) | exact KT.out _ (by assumption) | exact (World.cell?_setCell_far _ _ _ _ (fun e => hth (Eq.symm e))).trans (by assumption))) (fun hHeld1 => ?_)
        clear hK K
        (try simp only [Act.put]); (try simp only [List.setIfInBounds_toArray]); (try simp only [List.set_cons_zero, List.set_cons_succ])
        refine wpAnyH_ready (rs := [11]) (by kernel_rfl) (by simp) ?_
        refine AllReadyH.cons (o := _) rfl (fun K hK => ?_) AllReadyH.nil
        (try simp only [List.getElem_toArray, List.getElem_cons_zero, List.getElem_cons_succ])
        go_simp
        refine hK.out _ _ (by (first | assumption | exact ct | exact KT.out _ (grown_ad _ _ _) | exact KT.out _ (grown_refl _ _) | exact KT.out _ (by assumption) | exact (World.cell?_setCell_far _ _ _ _ (fun e => hth (Eq.symm e))).trans (by assumption))) (fun hHeld11 => ?_)
        clear hK K
        (try simp only [Act.put]); (try simp only [List.setIfInBounds_toArray]); (try simp only [List.set_cons_zero, List.set_cons_succ])
        refine wpAnyH_ready (rs := [12]) (by kernel_rfl) (by simp) ?_
        refine AllReadyH.cons (o := _) rfl (fun K hK => ?_) AllReadyH.nil
        refine step_append_lies _ rfl (.tmp 207) (.tmp 217) 24 rfl wc.heap.size 3 i3 _ 1 8 Try.underlying24 HI2.out HZ2.out HS2.out HBY2.out rfl (by decide) u k _ rfl (HO.out.alloc _).drew ⟨wr.heap.size, 0, none⟩ 1 1 [.int .i64 (2 * (tv : Int) + r)] rfl rfl (World.news_of_block (heap_new _ _)) (by simp [Value.oneCell']) (by decide) hm1 hm2 hm3 _ rfl ?_
        intro g cap w5 hown hgrow hat hlt5
        have HG5 := grown_trans (grown_ad _ _ _) hgrow
        have hc5 := (KP.out w5 HG5).1
        have hf5 := KF.out w5 HG5
        refine hK.out _ _ (by (first | assumption | exact ct | exact KT.out _ (grown_ad _ _ _) | exact KT.out _ (grown_refl _ _) | exact KT.out _ (by assumption) | exact (World.cell?_setCell_far _ _ _ _ (fun e => hth (Eq.symm e))).trans (by assumption))) (fun hHeld12 => ?_)
        clear hK K
        (try simp only [Act.put]); (try simp only [List.setIfInBounds_toArray]); (try simp only [List.set_cons_zero, List.set_cons_succ])
        refine wpAnyH_take (i := 13) (oi := _) (v := ?_) rfl (by kernel_rfl) (by kernel_rfl) (by kernel_rfl) (fun _ _ _ h => h) (Or.inl ⟨by rfl, ?_⟩) (by assumption) ?_
        rotate_left
        · (intro w0 hSw; (try dsimp only at hSw); (try simp only [List.getElem_toArray, List.getElem_cons_zero, List.getElem_cons_succ]); go_simp; try (with_reducible rfl))
        try simp only [Act.put, List.getElem_toArray, List.getElem_cons_zero, List.getElem_cons_succ, List.setIfInBounds_toArray, List.set_cons_zero, List.set_cons_succ]
        refine wpAnyH_ready (rs := [14]) (by kernel_rfl) (by simp) ?_
        refine AllReadyH.cons (o := _) rfl (fun K hK => ?_) AllReadyH.nil
        (try simp only [List.getElem_toArray, List.getElem_cons_zero, List.getElem_cons_succ])
        go_simp
        refine hK.out _ _ (by (first | assumption | exact ct | exact KT.out _ (grown_ad _ _ _) | exact KT.out _ (grown_refl _ _) | exact KT.out _ (by assumption) | exact (World.cell?_setCell_far _ _ _ _ (fun e => hth (Eq.symm e))).trans (by assumption))) (fun hHeld14 => ?_)
        clear hK K
        (try simp only [Act.put]); (try simp only [List.setIfInBounds_toArray]); (try simp only [List.set_cons_zero, List.set_cons_succ])
        refine wpAnyH_done (by kernel_rfl) ?_ _
        refine NoPanic.normal ?_
        generalize hW6 : World.setCell w5 _ _ = w6
        have HU6 : Hid (w6.cell? ⟨hb, 3, none⟩ = some (.slice (some ⟨g, 0, none⟩) (k + 1) cap)) := by rw [← hW6]; exact World.cell?_setCell_same (h := hc5) ..
        have HF6 : Hid (w6.frozen? ⟨hb, 3, none⟩ = false) := by rw [← hW6]; exact (World.frozen?_setCell _ _ _ _).trans hf5
        have hgs : w5.grownBy w6 (some hb) := by rw [← hW6]; exact grown_set _ _ _ _
        have hgh : g ≠ hb := fun e => by
          rcases hat with h | h
          · have := (HO.out.lt g h).1; omega
          · simp at h; omega
        have HO6 : Hid (w6.ownsRow wc.heap.size 3 1 (.slice (some ⟨g, 0, none⟩) (k + 1) cap) (k + 1) (((G.outs.take (k + 1)).map (litC first nk)).map intV)) := by
          have := hown.kept hgs (.inr (fun e => hgh (by cases e; rfl)))
          rw [HNX.out]; exact this
        have HG6 : Hid (wc.grownBy w6 (some hb)) := grown_thru HG.out HG5 hgs (fun x hx => (HO.out.lt x hx).1)
        have HJ6 : Hid (∀ j, j ≠ 3 → w6.cell? ⟨hb, j, none⟩ = wc.cell? ⟨hb, j, none⟩) := fun j hj => by
          rw [← hW6]
          refine (World.cell?_setCell_other (h := fun e => hj (by cases e; rfl)) ..).trans ?_
          exact (HG5.cell_far ⟨hb, j, none⟩ (by show hb < _; omega) (fun e => by have := (HO.out.lt hb e.symm).1; omega)).trans (HJ.out j hj)
        clear hW6 hgs hgh hown hgrow hat hlt5 HG5 hc5 hf5 HO HG HJ HU HF KP KT KF HNX hu huA
        go_wp2
        go_roundw
        case measure => simp [intOf]; omega
        case rel => exact ⟨k + 1, _, by omega, by simp, HU6.out, HO6.out, HG6.out, HF6.out, HJ6.out⟩
      refine AllReadyH.cons (o := _) rfl (fun K hK => ?_) AllReadyH.nil
      (try simp only [List.getElem_toArray, List.getElem_cons_zero, List.getElem_cons_succ])
      go_simp
      refine hK.out _ _ (by (first | assumption | exact ct | exact KT.out _ (grown_ad _ _ _) | exact KT.out _ (grown_refl _ _) | exact KT.out _ (by assumption) | exact (World.cell?_setCell_far _ _ _ _ (fun e => hth (Eq.symm e))).trans (by assumption))) (fun hHeld11 => ?_)
      clear hK K
      (try simp only [Act.put]); (try simp only [List.setIfInBounds_toArray]); (try simp only [List.set_cons_zero, List.set_cons_succ])
      refine wpAnyH_ready (rs := [1]) (by kernel_rfl) (by simp) ?_
      refine AllReadyH.cons (o := _) rfl (fun K hK => ?_) AllReadyH.nil
      (try simp only [List.getElem_toArray, List.getElem_cons_zero, List.getElem_cons_succ])
      go_simp
      refine hK.out _ _ (by (first | assumption | exact ct | exact KT.out _ (grown_ad _ _ _) | exact KT.out _ (grown_refl _ _) | exact KT.out _ (by assumption) | exact (World.cell?_setCell_far _ _ _ _ (fun e => hth (Eq.symm e))).trans (by assumption))) (fun hHeld1 => ?_)
      clear hK K
      (try simp only [Act.put]); (try simp only [List.setIfInBounds_toArray]); (try simp only [List.set_cons_zero, List.set_cons_succ])
      refine wpAnyH_ready (rs := [12]) (by kernel_rfl) (by simp) ?_
      refine AllReadyH.cons (o := _) rfl (fun K hK => ?_) AllReadyH.nil
      refine step_append_lies _ rfl (.tmp 207) (.tmp 217) 24 rfl wc.heap.size 3 i3 _ 1 8 Try.underlying24 HI2.out HZ2.out HS2.out HBY2.out rfl (by decide) u k _ rfl (HO.out.alloc _).drew ⟨wr.heap.size, 0, none⟩ 1 1 [.int .i64 (2 * (tv : Int) + r)] rfl rfl (World.news_of_block (heap_new _ _)) (by simp [Value.oneCell']) (by decide) hm1 hm2 hm3 _ rfl ?_
      intro g cap w5 hown hgrow hat hlt5
      have HG5 := grown_trans (grown_ad _ _ _) hgrow
      have hc5 := (KP.out w5 HG5).1
      have hf5 := KF.out w5 HG5
      refine hK.out _ _ (by (first | assumption | exact ct | exact KT.out _ (grown_ad _ _ _) | exact KT.out _ (grown_refl _ _) | exact KT.out _ (by assumption) | exact (World.cell?_setCell_far _ _ _ _ (fun e => hth (Eq.symm e))).trans (by assumption))) (fun hHeld12 => ?_)
      clear hK K
      (try simp only [Act.put]); (try simp only [List.setIfInBounds_toArray]); (try simp only [List.set_cons_zero, List.set_cons_succ])
      refine wpAnyH_take (i := 13) (oi := _) (v := ?_) rfl (by kernel_rfl) (by kernel_rfl) (by kernel_rfl) (fun _ _ _ h => h) (Or.inl ⟨by rfl, ?_⟩) (by assumption) ?_
      rotate_left
      · (intro w0 hSw; (try dsimp only at hSw); (try simp only [List.getElem_toArray, List.getElem_cons_zero, List.getElem_cons_succ]); go_simp; try (with_reducible rfl))
      try simp only [Act.put, List.getElem_toArray, List.getElem_cons_zero, List.getElem_cons_succ, List.setIfInBounds_toArray, List.set_cons_zero, List.set_cons_succ]
      refine wpAnyH_ready (rs := [14]) (by kernel_rfl) (by simp) ?_
      refine AllReadyH.cons (o := _) rfl (fun K hK => ?_) AllReadyH.nil
      (try simp only [List.getElem_toArray, List.getElem_cons_zero, List.getElem_cons_succ])
      go_simp
      refine hK.out _ _ (by (first | assumption | exact ct | exact KT.out _ (grown_ad _ _ _) | exact KT.out _ (grown_refl _ _) | exact KT.out _ (by assumption) | exact (World.cell?_setCell_far _ _ _ _ (fun e => hth (Eq.symm e))).trans (by assumption))) (fun hHeld14 => ?_)
      clear hK K
      (try simp only [Act.put]); (try simp only [List.setIfInBounds_toArray]); (try simp only [List.set_cons_zero, List.set_cons_succ])
      refine wpAnyH_done (by kernel_rfl) ?_ _
      refine NoPanic.normal ?_
      generalize hW6 : World.setCell w5 _ _ = w6
      have HU6 : Hid (w6.cell? ⟨hb, 3, none⟩ = some (.slice (some ⟨g, 0, none⟩) (k + 1) cap)) := by rw [← hW6]; exact World.cell?_setCell_same (h := hc5) ..
      have HF6 : Hid (w6.frozen? ⟨hb, 3, none⟩ = false) := by rw [← hW6]; exact (World.frozen?_setCell _ _ _ _).trans hf5
      have hgs : w5.grownBy w6 (some hb) := by rw [← hW6]; exact grown_set _ _ _ _
      have hgh : g ≠ hb := fun e => by
        rcases hat with h | h
        · have := (HO.out.lt g h).1; omega
        · simp at h; omega
      have HO6 : Hid (w6.ownsRow wc.heap.size 3 1 (.slice (some ⟨g, 0, none⟩) (k + 1) cap) (k + 1) (((G.outs.take (k + 1)).map (litC first nk)).map intV)) := by
        have := hown.kept hgs (.inr (fun e => hgh (by cases e; rfl)))
        rw [HNX.out]; exact this
      have HG6 : Hid (wc.grownBy w6 (some hb)) := grown_thru HG.out HG5 hgs (fun x hx => (HO.out.lt x hx).1)
      have HJ6 : Hid (∀ j, j ≠ 3 → w6.cell? ⟨hb, j, none⟩ = wc.cell? ⟨hb, j, none⟩) := fun j hj => by
        rw [← hW6]
        refine (World.cell?_setCell_other (h := fun e => hj (by cases e; rfl)) ..).trans ?_
        exact (HG5.cell_far ⟨hb, j, none⟩ (by show hb < _; omega) (fun e => by have := (HO.out.lt hb e.symm).1; omega)).trans (HJ.out j hj)
      clear hW6 hgs hgh hown hgrow hat hlt5 HG5 hc5 hf5 HO HG HJ HU HF KP KT KF HNX hu huA
      go_wp2
      go_roundw
      case measure => simp [intOf]; omega
      case rel => exact ⟨k + 1, _, by omega, by simp, HU6.out, HO6.out, HG6.out, HF6.out, HJ6.out⟩
    · have hge : ¬ ((k : Int) < (G.outs.length : Int)) := by omega
      have HEN : Hid (wr.ownsRow wc.heap.size 3 1 u G.outs.length ((G.outs.map (litC first nk)).map intV)) := by
        have := HO.out
        rw [List.take_of_length_le (by omega), show k = G.outs.length by omega] at this
        exact this
      clear HO
      go_wp2
      exact HK.out _ _ _ _ _ _ _ _ _ _ _ _ _ _ _ _ _ _ _ _ _ _ _ _ _ _ _ _ _ ⟨⟨u, HU.out, HEN.out⟩, HG.out, HJ.out⟩

end Go.Proofs.Ytpipdmeibfkehaa
