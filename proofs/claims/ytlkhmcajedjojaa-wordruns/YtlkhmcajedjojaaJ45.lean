import Derived.Test.YtlkhmcajedjojaaJ42
import Derived.Test.YtlkhmcajedjojaaJ09
namespace Go.Proofs.Ytlkhmcajedjojaa
open Go.RowKit

def smallN (a : Option Addr) : NetD := ⟨[4], [⟨30, 4, 0, [], none, 0⟩, ⟨31, 4, 0, [], none, 0⟩, ⟨15, 4, 0, [0, 1], a, 2⟩], [⟨4, 3, 2⟩], [], [], [2]⟩
theorem small_ok (a : Option Addr) : NetOk (smallN a) = true := by
  rfl
/-- cells in a block, one after the other -/
theorem rowAt_flat {B : Nat} {w : World} {b sz : Nat} {els : List (List Value)} (hb : b < B) (hs : ∀ l, l ∈ els → l.length = sz) (h : ∀ (m : Nat) (v : Value), els.flatten[m]? = some v → w.cell? ⟨b, m, none⟩ = some v) : RowAt B w (some ⟨b, 0, none⟩) sz els := by
  intro hne
  refine ⟨b, 0, rfl, hb, fun i cs hi j x hx => ?_⟩
  rw [Nat.zero_add]
  apply h
  clear h
  induction els generalizing i with
  | nil => simp at hi
  | cons l r ih =>
    have hl := hs l List.mem_cons_self
    cases i with
    | zero =>
      simp at hi; subst hi
      have hj := (List.getElem?_eq_some_iff.1 hx).1
      rw [List.flatten_cons, List.getElem?_append_left (by omega)]
      simpa using hx
    | succ i =>
      have hi' : r[i]? = some cs := by simpa using hi
      rw [List.flatten_cons, List.getElem?_append_right (by rw [hl, Nat.succ_mul]; omega)]
      have := ih (fun l hl => hs l (List.mem_cons_of_mem _ hl)) (List.ne_nil_of_mem (List.mem_of_getElem? hi')) i hi'
      rw [hl]
      rw [show (i + 1) * sz + j - sz = i * sz + j by rw [Nat.succ_mul]; omega]
      exact this
theorem cell_new {w : World} {cs : Array Value} {t b j : Nat} (h : b = w.heap.size) : (w.alloc (.cells cs t)).cell? ⟨b, j, none⟩ = cs[j]? := by
  subst h; simp
theorem rowAt_nil {B : Nat} {w : World} {a : Option Addr} {sz : Nat} : RowAt B w a sz [] := fun h => absurd rfl h

set_option maxRecDepth 100000 in
set_option maxHeartbeats 8000000 in
theorem small_any (w : World) :
    Calls Try.prog 6 #[] w fun e w' => ∃ S a, e = .returned (.agg (NetS.cells S (smallN a))) ∧ NetAt w'.heap.size w' S (smallN a) ∧ Below w.heap.size w w' := by
  go_enter Try.func6, Try.ntmps6
  go_wp2
  generalize hW : World.alloc _ _ = W
  have HB : Hid (Below w.heap.size w W) := by
    rw [← hW]
    exact ((((((Below.refl _ _).alloc (Nat.le_refl _) _ |>.alloc (by simp) _ |>.alloc (by simp; omega) _) |>.alloc (by simp; omega) _) |>.alloc (by simp; omega) _) |>.alloc (by simp; omega) _) |>.alloc (by simp; omega) _)
  have hs : W.heap.size = w.heap.size + 7 := by rw [← hW]; simp
  have z : ∀ j, W.cell? ⟨w.heap.size, j, none⟩ = (#[.slice (some ⟨w.heap.size + 1 + 1, 0, none⟩) 1 1, .slice (some ⟨w.heap.size + 1 + 1 + 1 + 1, 0, none⟩) 3 3, .slice (some ⟨w.heap.size + 1 + 1 + 1 + 1 + 1, 0, none⟩) 1 1, .slice none 0 0, .slice none 0 0, .slice (some ⟨w.heap.size + 1 + 1 + 1 + 1 + 1 + 1, 0, none⟩) 1 1] : Array Value)[j]? := by intro j; rw [← hW, World.cell?_alloc_lt _ _ _ (by first | (simp; done) | (simp; omega)), World.cell?_alloc_lt _ _ _ (by first | (simp; done) | (simp; omega)), World.cell?_alloc_lt _ _ _ (by first | (simp; done) | (simp; omega)), World.cell?_alloc_lt _ _ _ (by first | (simp; done) | (simp; omega)), World.cell?_alloc_lt _ _ _ (by first | (simp; done) | (simp; omega)), World.cell?_alloc_lt _ _ _ (by first | (simp; done) | (simp; omega))]; exact cell_new (by simp)
  have zi : ∀ j, W.cell? ⟨w.heap.size + 1 + 1, j, none⟩ = (#[.int .i64 4] : Array Value)[j]? := by intro j; rw [← hW, World.cell?_alloc_lt _ _ _ (by first | (simp; done) | (simp; omega)), World.cell?_alloc_lt _ _ _ (by first | (simp; done) | (simp; omega)), World.cell?_alloc_lt _ _ _ (by first | (simp; done) | (simp; omega)), World.cell?_alloc_lt _ _ _ (by first | (simp; done) | (simp; omega))]; exact cell_new (by simp)
  have za : ∀ j, W.cell? ⟨w.heap.size + 1 + 1 + 1, j, none⟩ = (#[.int .i64 0, .int .i64 1] : Array Value)[j]? := by intro j; rw [← hW, World.cell?_alloc_lt _ _ _ (by first | (simp; done) | (simp; omega)), World.cell?_alloc_lt _ _ _ (by first | (simp; done) | (simp; omega)), World.cell?_alloc_lt _ _ _ (by first | (simp; done) | (simp; omega))]; exact cell_new (by simp)
  have zn : ∀ j, W.cell? ⟨w.heap.size + 1 + 1 + 1 + 1, j, none⟩ = (#[.int .i64 30, .int .i64 4, .int .u64 0, .slice none 0 0, .int .i64 31, .int .i64 4, .int .u64 0, .slice none 0 0, .int .i64 15, .int .i64 4, .int .u64 0, .slice (some ⟨w.heap.size + 1 + 1 + 1, 0, none⟩) 2 2] : Array Value)[j]? := by intro j; rw [← hW, World.cell?_alloc_lt _ _ _ (by first | (simp; done) | (simp; omega)), World.cell?_alloc_lt _ _ _ (by first | (simp; done) | (simp; omega))]; exact cell_new (by simp)
  have zr : ∀ j, W.cell? ⟨w.heap.size + 1 + 1 + 1 + 1 + 1, j, none⟩ = (#[.int .i64 4, .int .u64 3, .int .i64 2] : Array Value)[j]? := by intro j; rw [← hW, World.cell?_alloc_lt _ _ _ (by first | (simp; done) | (simp; omega))]; exact cell_new (by simp)
  have zo : ∀ j, W.cell? ⟨w.heap.size + 1 + 1 + 1 + 1 + 1 + 1, j, none⟩ = (#[.int .i64 2] : Array Value)[j]? := by intro j; rw [← hW]; exact cell_new (by simp)
  clear hW
  have z0 := z 0
  have z1 := z 1
  have z2 := z 2
  have z3 := z 3
  have z4 := z 4
  have z5 := z 5
  simp at z0 z1 z2 z3 z4 z5
  refine bodyPost_ret (v := .agg #[.slice (some ⟨w.heap.size + 1 + 1, 0, none⟩) 1 1, .slice (some ⟨w.heap.size + 1 + 1 + 1 + 1, 0, none⟩) 3 3, .slice (some ⟨w.heap.size + 1 + 1 + 1 + 1 + 1, 0, none⟩) 1 1, .slice none 0 0, .slice none 0 0, .slice (some ⟨w.heap.size + 1 + 1 + 1 + 1 + 1 + 1, 0, none⟩) 1 1]) (by simp [results, Try.results6, go_sem, *]) rfl ?_
  refine ⟨⟨some ⟨w.heap.size + 1 + 1, 0, none⟩, 1, some ⟨w.heap.size + 1 + 1 + 1 + 1, 0, none⟩, 3, some ⟨w.heap.size + 1 + 1 + 1 + 1 + 1, 0, none⟩, 1, none, 0, none, 0, some ⟨w.heap.size + 1 + 1 + 1 + 1 + 1 + 1, 0, none⟩, 1⟩, some ⟨w.heap.size + 1 + 1 + 1, 0, none⟩, rfl, ?_, HB.out⟩
  have f : ∀ (b : Nat) (cs : Array Value) (els : List (List Value)), (∀ j, W.cell? ⟨b, j, none⟩ = cs[j]?) → els.flatten = cs.toList → ∀ (m : Nat) (v : Value), els.flatten[m]? = some v → W.cell? ⟨b, m, none⟩ = some v := by
    intro b cs els h1 h2 m v hv
    rw [h1 m, ← Array.getElem?_toList, ← h2]; exact hv
  refine ⟨rowAt_flat (by omega) (by simp [smallN, intC]) (f _ _ _ zi rfl), rowAt_flat (by omega) (by simp [smallN, NodeD.cells]) (f _ _ _ zn rfl), rowAt_flat (by omega) (by simp [smallN, RegD.cells]) (f _ _ _ zr rfl), rowAt_nil, rowAt_nil, rowAt_flat (by omega) (by simp [smallN, intC]) (f _ _ _ zo rfl), ?_, ?_, by simp [smallN, big], by simp [smallN, big], by simp [smallN, big], by simp [smallN, big], by simp [smallN, big], by simp [smallN, big]⟩
  · intro d hd
    simp only [smallN, List.mem_cons, List.not_mem_nil, or_false] at hd
    rcases hd with rfl | rfl | rfl
    · exact ⟨rowAt_nil, by decide, by decide, by decide⟩
    · exact ⟨rowAt_nil, by decide, by decide, by decide⟩
    · exact ⟨rowAt_flat (by omega) (by simp [intC]) (f _ _ _ za rfl), by simp, by simp, by simp [big]⟩
  · intro d hd
    simp only [smallN, List.mem_cons, List.not_mem_nil, or_false] at hd
    subst hd
    exact ⟨by decide, by decide⟩

end Go.Proofs.Ytlkhmcajedjojaa

namespace Go.Proofs.Ytlkhmcajedjojaa
open Go.RowKit

set_option maxRecDepth 100000 in
set_option maxHeartbeats 16000000 in
theorem nvLoop1 (B : Nat) (w W : World) (S : NetS) (N : NetD) (QN : Hid (∀ j, W.cell? ⟨w.heap.size, j, none⟩ = (#[.slice S.a0 N.ins.length S.c0, .slice S.a1 N.nodes.length S.c1, .slice S.a2 N.regs.length S.c2, .slice S.a3 N.mems.length S.c3, .slice S.a4 N.wrs.length S.c4, .slice S.a5 N.outs.length S.c5] : Array Value)[j]?)) (HAW : Hid (NetAt B W S N)) (hN : w.heap.size < W.heap.size) (hBW : B ≤ W.heap.size) (hlen : N.ins.length < big) (c0 : Bool) (wc : World) (HBc : Hid (Below W.heap.size W wc)) (K' : Act → World → Prop) (Q0 : Exit → Act → World → Prop) (x0 x2 x5 x6 x7 x8 x9 x10 x11 x12 x13 x14 x15 x16 x17 x18 x19 x20 x21 x22 x23 x24 x25 x26 x27 x28 x29 x30 x31 x32 x33 x34 x35 x36 x37 x38 x39 x40 x41 x42 x43 x44 x45 x46 x47 x48 x49 x50 x51 x52 x53 x54 x55 x56 x57 x58 x59 x60 x61 x62 x63 x64 x65 x66 x67 x68 x69 x70 x71 x72 x73 x74 x75 x76 x77 x78 x79 x80 x81 x82 x83 x84 x85 x86 x87 x88 x89 x90 x91 x92 x93 x94 x95 x96 x97 x98 x99 x100 x101 x102 x103 x104 x105 x106 x107 x108 x109 x110 x111 x112 x113 x114 x115 x116 x117 x118 x119 x120 x121 x122 x123 x124 x125 x126 x127 x128 x129 x130 x131 x132 x133 x134 x135 x136 x137 x138 x139 x140 x141 x142 x143 x144 x145 x146 x147 x148 x149 x150 x151 x152 x153 x154 x155 x156 x157 x158 x159 x160 x161 x162 x163 x164 x165 x166 x167 x168 x169 x170 x171 x172 x173 x174 x175 x176 x177 x178 x179 x180 x181 x182 x183 x184 x185 x186 x187 x188 x189 x190 x191 x192 x193 x194 x195 x196 x197 x198 x199 x200 x201 x202 x203 x204 x205 x206 x207 x208 x209 x210 x211 x212 x213 x214 x215 x216 x217 x218 x219 : Value)
    (HK : Hid (∀ (s : Value) (w' : World) (v4 v5 v16 v17 v18 v19 v20 v21 v22 v23 v24 v25 v26 v27 v28 v29 v30 v31 v32 : Value), (∃ c : Bool, s = .bool c ∧ Hid (c = (c0 && N.ins.all widthOk)) ∧ Hid (Below W.heap.size W w')) → K' ⟨#[x0, .pointer (some ⟨w.heap.size, 0, none⟩), x2, s, v4, v5, x6, x7, x8, x9, x10, x11, x12, x13, x14, x15, v16, v17, v18, v19, v20, v21, v22, v23, v24, v25, v26, v27, v28, v29, v30, v31, v32, x33, x34, x35, x36, x37, x38, x39, x40, x41, x42, x43, x44, x45, x46, x47, x48, x49, x50, x51, x52, x53, x54, x55, x56, x57, x58, x59, x60, x61, x62, x63, x64, x65, x66, x67, x68, x69, x70, x71, x72, x73, x74, x75, x76, x77, x78, x79, x80, x81, x82, x83, x84, x85, x86, x87, x88, x89, x90, x91, x92, x93, x94, x95, x96, x97, x98, x99, x100, x101, x102, x103, x104, x105, x106, x107, x108, x109, x110, x111, x112, x113, x114, x115, x116, x117, x118, x119, x120, x121, x122, x123, x124, x125, x126, x127, x128, x129, x130, x131, x132, x133, x134, x135, x136, x137, x138, x139, x140, x141, x142, x143, x144, x145, x146, x147, x148, x149, x150, x151, x152, x153, x154, x155, x156, x157, x158, x159, x160, x161, x162, x163, x164, x165, x166, x167, x168, x169, x170, x171, x172, x173, x174, x175, x176, x177, x178, x179, x180, x181, x182, x183, x184, x185, x186, x187, x188, x189, x190, x191, x192, x193, x194, x195, x196, x197, x198, x199, x200, x201, x202, x203, x204, x205, x206, x207, x208, x209, x210, x211, x212, x213, x214, x215, x216, x217, x218, x219], []⟩ w')) :
    Code.wp Try.prog ((Try.f7.body.bind (blockAt 0)).getD .skip) (Exit.then K' Q0) ⟨#[x0, .pointer (some ⟨w.heap.size, 0, none⟩), x2, .bool c0, .int .i64 0, x5, x6, x7, x8, x9, x10, x11, x12, x13, x14, x15, x16, x17, x18, x19, x20, x21, x22, x23, x24, x25, x26, x27, x28, x29, x30, x31, x32, x33, x34, x35, x36, x37, x38, x39, x40, x41, x42, x43, x44, x45, x46, x47, x48, x49, x50, x51, x52, x53, x54, x55, x56, x57, x58, x59, x60, x61, x62, x63, x64, x65, x66, x67, x68, x69, x70, x71, x72, x73, x74, x75, x76, x77, x78, x79, x80, x81, x82, x83, x84, x85, x86, x87, x88, x89, x90, x91, x92, x93, x94, x95, x96, x97, x98, x99, x100, x101, x102, x103, x104, x105, x106, x107, x108, x109, x110, x111, x112, x113, x114, x115, x116, x117, x118, x119, x120, x121, x122, x123, x124, x125, x126, x127, x128, x129, x130, x131, x132, x133, x134, x135, x136, x137, x138, x139, x140, x141, x142, x143, x144, x145, x146, x147, x148, x149, x150, x151, x152, x153, x154, x155, x156, x157, x158, x159, x160, x161, x162, x163, x164, x165, x166, x167, x168, x169, x170, x171, x172, x173, x174, x175, x176, x177, x178, x179, x180, x181, x182, x183, x184, x185, x186, x187, x188, x189, x190, x191, x192, x193, x194, x195, x196, x197, x198, x199, x200, x201, x202, x203, x204, x205, x206, x207, x208, x209, x210, x211, x212, x213, x214, x215, x216, x217, x218, x219], []⟩ wc := by
  simp only [big] at hlen
  conv => arg 2; whnf
  go_wp2_with fail
  go_loopw [3, 4] (fun s i' w' => ∃ (k : Nat) (c : Bool), k ≤ N.ins.length ∧ i' = .int .i64 k ∧ s = .bool c ∧ Hid (c = (c0 && (N.ins.take k).all widthOk)) ∧ Hid (Below W.heap.size W w')) (fun _ i' _ => N.ins.length - (intOf i').toNat)
  case atStart => exact ⟨0, c0, Nat.zero_le _, rfl, rfl, by show _ = _; simp, HBc.out⟩
  case round =>
    obtain ⟨k, c, hk, rfl, rfl, HC, HBr⟩ := hrel
    have q0 : wr.cell? ⟨w.heap.size, 0, none⟩ = some (.slice S.a0 N.ins.length S.c0) := (HBr.out.cell (p := ⟨w.heap.size, 0, none⟩) hN).trans (QN.out 0)
    by_cases hlt : k < N.ins.length
    · obtain ⟨ib, io, ea, hib, hic⟩ := HAW.out.i.int hlt
      have ci : wr.cell? ⟨ib, io + k, none⟩ = some (.int .i64 (at0 N.ins k)) := (HBr.out.cell (p := ⟨ib, io + k, none⟩) (Nat.lt_of_lt_of_le hib hBW)).trans (hic k hlt)
      have HX := hidden (at0_of hlt)
      rw [ea] at q0
      generalize at0 N.ins k = x at ci HX
      have hltI : (k : Int) < (N.ins.length : Int) := by omega
      have e2 : IntKind.i64.wrap ((k : Int) + 1) = (k : Int) + 1 := wrapI _ (by omega) (by omega)

      have HN : Hid ((c && widthOk x) = (c0 && (N.ins.take (k + 1)).all widthOk)) := by show _ = _; rw [all_next _ _ k x HX.out, ← Bool.and_assoc, ← HC.out]
      have WD : Hid (∀ w, Calls Try.prog 18 #[.int .i64 x] w fun e w' => e = .returned (.bool (widthOk x)) ∧ w' = w) := fun w => width_any x w
      generalize widthOk x = wo at WD HN
      clear HC HX hic ea
      cases c
      all_goals
        go_wp2_with (go_at_call 18; refine (WD.out _).mono ?_; rintro e w' ⟨rfl, rfl⟩)
        go_roundw
        case measure => simp [intOf]; omega
        case rel => exact ⟨k + 1, _, by omega, by simp, rfl, HN.out, HBr.out⟩
    · have hge : ¬ ((k : Int) < (N.ins.length : Int)) := by omega
      have HE : Hid (c = (c0 && N.ins.all widthOk)) := by show _ = _; rw [HC.out, List.take_of_length_le (by omega)]
      clear HC
      go_wp2
      exact HK.out _ _ _ _ _ _ _ _ _ _ _ _ _ _ _ _ _ _ _ _ _ ⟨c, rfl, HE.out, HBr.out⟩

end Go.Proofs.Ytlkhmcajedjojaa
