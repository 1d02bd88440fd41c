import Derived.Test.YtpipdmeibfkehaaAcC
import Derived.Deep.Cut
import Derived.Laws.OwnMore
namespace Go.Proofs.Ytpipdmeibfkehaa
open Go.RowKit

def marks (nd : List Bool) (vs : List Nat) : List Bool := vs.foldl (fun l v => l.set v true) nd
theorem marks_snoc (nd : List Bool) (vs : List Nat) (v : Nat) : marks nd (vs ++ [v]) = (marks nd vs).set v true := by unfold marks; rw [List.foldl_append]; rfl
theorem marks_len (nd : List Bool) (vs : List Nat) : (marks nd vs).length = nd.length := by
  induction vs generalizing nd with
  | nil => rfl
  | cons v t ih => show (marks (nd.set v true) t).length = _; rw [ih, List.length_set]
theorem marks_on {nd : List Bool} {vs : List Nat} (h : ∀ v, v ∈ vs → v < nd.length) (x : Nat) : On (marks nd vs) x ↔ x ∈ vs ∨ On nd x := by
  induction vs generalizing nd with
  | nil => simp [marks]
  | cons v t ih =>
    have h1 := ih (nd := nd.set v true) (fun y hy => by rw [List.length_set]; exact h y (List.mem_cons_of_mem _ hy))
    show On (marks (nd.set v true) t) x ↔ _
    rw [h1]
    constructor
    · rintro (h2 | h2)
      · exact .inl (List.mem_cons_of_mem _ h2)
      · rcases on_of h2 with rfl | h2
        · exact .inl List.mem_cons_self
        · exact .inr h2
    · rintro (h2 | h2)
      · rcases List.mem_cons.1 h2 with rfl | h2
        · exact .inr (on_new (h x List.mem_cons_self))
        · exact .inl h2
      · exact .inr (on_set h2)
/-- a block of a text, by its number -/
def blockAt (n : Nat) : Code → Option Code
  | .block m c => if m = n then some (.block m c) else blockAt n c
  | .seq a b => match blockAt n a with
    | some c => some c
    | none => blockAt n b
  | .loop c => blockAt n c
  | .scope c => blockAt n c
  | .cond _ a b => match blockAt n a with
    | some c => some c
    | none => blockAt n b
  | _ => none
def vOf (l : Int) : Nat := l.toNat / 2
def nOf (l : LatD) : Nat := l.next.toNat / 2

set_option maxRecDepth 100000 in
set_option maxHeartbeats 8000000 in
theorem cgOuts (wc : World) (G : GrD) (B C g n nbk : Nat) (a : Option Addr) (c : Nat) (q3 : wc.cell? ⟨nbk, 3, none⟩ = some (.slice a G.outs.length c)) (hnbk : nbk < wc.heap.size) (hng : nbk < g) (HR : Hid (RowAt B wc a 1 (G.outs.map intC))) (hBw : B ≤ wc.heap.size) (hBg : B ≤ g) (hin : ∀ z, z ∈ G.outs → 0 ≤ z ∧ z < 2 * (n : Int)) (hn : n ≤ 60000) (hlen : G.outs.length ≤ 60000) (nd : List Bool) (hnd : nd.length = n) (HO : Hid (wc.ownsRow C 4 1 (.slice (some ⟨g, 0, none⟩) n n) n ((nd).map bV))) (K' : Act → World → Prop) (Q0 : Exit → Act → World → Prop) (x0 x2 x3 x6 x7 x8 x9 x10 x11 x12 x13 x14 x15 x16 x17 x18 x19 x20 x21 x22 x23 x24 x25 x26 x27 x28 x29 x30 x31 x32 x33 x34 x35 x36 x37 x38 x39 x40 x41 x42 x43 x44 x45 x46 x47 x48 x49 x50 x51 x52 x53 x54 x55 x56 x57 x58 x59 x60 x61 x62 x63 x64 x65 x66 x67 x68 x69 x70 x71 x72 x73 x74 x75 x76 x77 x78 x79 x80 x81 x82 x83 x84 x85 x86 x87 x88 x89 x90 x91 x92 x93 x94 x95 x96 x97 x98 x99 x100 x101 x102 x103 x104 x105 x106 x107 x108 x109 x110 x111 x112 x113 x114 x115 x116 x117 x118 x119 x120 x121 x122 x123 x124 x125 x126 x127 x128 x129 x130 x131 x132 x133 x134 x135 x136 x137 x138 x139 x140 x141 x142 x143 x144 x145 x146 x147 x148 x149 x150 x151 x152 x153 x154 x155 x156 x157 x158 x159 x160 x161 x162 x163 x164 x165 x166 x167 x168 x169 x170 x171 x172 x173 x174 x175 x176 x177 x178 x179 x180 x181 x182 x183 x184 x185 x186 x187 x188 x189 x190 x191 x192 x193 x194 x195 x196 x197 x198 x199 x200 x201 x202 x203 x204 x205 x206 x207 x208 x209 x210 x211 x212 x213 x214 x215 x216 x217 x218 x219 x220 : Value)
    (HK : Hid (∀ (w' : World) (s5 s28 s29 s30 s31 s32 s33 s34 s35 s36 s37 s38 s39 s40 s41 s42 : Value), w'.ownsRow C 4 1 (.slice (some ⟨g, 0, none⟩) n n) n ((marks nd (G.outs.map vOf)).map bV) ∧ wc.grownBy w' (some g) → K' ⟨#[x0, .pointer (some ⟨nbk, 0, none⟩), x2, x3, (.slice (some ⟨g, 0, none⟩) n n), s5, x6, x7, x8, x9, x10, x11, x12, x13, x14, x15, x16, x17, x18, x19, x20, x21, x22, x23, x24, x25, x26, x27, s28, s29, s30, s31, s32, s33, s34, s35, s36, s37, s38, s39, s40, s41, s42, x43, x44, x45, x46, x47, x48, x49, x50, x51, x52, x53, x54, x55, x56, x57, x58, x59, x60, x61, x62, x63, x64, x65, x66, x67, x68, x69, x70, x71, x72, x73, x74, x75, x76, x77, x78, x79, x80, x81, x82, x83, x84, x85, x86, x87, x88, x89, x90, x91, x92, x93, x94, x95, x96, x97, x98, x99, x100, x101, x102, x103, x104, x105, x106, x107, x108, x109, x110, x111, x112, x113, x114, x115, x116, x117, x118, x119, x120, x121, x122, x123, x124, x125, x126, x127, x128, x129, x130, x131, x132, x133, x134, x135, x136, x137, x138, x139, x140, x141, x142, x143, x144, x145, x146, x147, x148, x149, x150, x151, x152, x153, x154, x155, x156, x157, x158, x159, x160, x161, x162, x163, x164, x165, x166, x167, x168, x169, x170, x171, x172, x173, x174, x175, x176, x177, x178, x179, x180, x181, x182, x183, x184, x185, x186, x187, x188, x189, x190, x191, x192, x193, x194, x195, x196, x197, x198, x199, x200, x201, x202, x203, x204, x205, x206, x207, x208, x209, x210, x211, x212, x213, x214, x215, x216, x217, x218, x219, x220], []⟩ w')) :
    Code.wp Try.prog ((Try.f9.body.bind (blockAt 0)).getD .skip) (Exit.then K' Q0) ⟨#[x0, .pointer (some ⟨nbk, 0, none⟩), x2, x3, (.slice (some ⟨g, 0, none⟩) n n), .int .i64 0, x6, x7, x8, x9, x10, x11, x12, x13, x14, x15, x16, x17, x18, x19, x20, x21, x22, x23, x24, x25, x26, x27, x28, x29, x30, x31, x32, x33, x34, x35, x36, x37, x38, x39, x40, x41, x42, x43, x44, x45, x46, x47, x48, x49, x50, x51, x52, x53, x54, x55, x56, x57, x58, x59, x60, x61, x62, x63, x64, x65, x66, x67, x68, x69, x70, x71, x72, x73, x74, x75, x76, x77, x78, x79, x80, x81, x82, x83, x84, x85, x86, x87, x88, x89, x90, x91, x92, x93, x94, x95, x96, x97, x98, x99, x100, x101, x102, x103, x104, x105, x106, x107, x108, x109, x110, x111, x112, x113, x114, x115, x116, x117, x118, x119, x120, x121, x122, x123, x124, x125, x126, x127, x128, x129, x130, x131, x132, x133, x134, x135, x136, x137, x138, x139, x140, x141, x142, x143, x144, x145, x146, x147, x148, x149, x150, x151, x152, x153, x154, x155, x156, x157, x158, x159, x160, x161, x162, x163, x164, x165, x166, x167, x168, x169, x170, x171, x172, x173, x174, x175, x176, x177, x178, x179, x180, x181, x182, x183, x184, x185, x186, x187, x188, x189, x190, x191, x192, x193, x194, x195, x196, x197, x198, x199, x200, x201, x202, x203, x204, x205, x206, x207, x208, x209, x210, x211, x212, x213, x214, x215, x216, x217, x218, x219, x220], []⟩ wc := by
  conv => arg 2; whnf
  go_wp2_with fail
  go_loopw [5] (fun i' w' => ∃ (k : Nat), k ≤ G.outs.length ∧ i' = .int .i64 k ∧ Hid (w'.ownsRow C 4 1 (.slice (some ⟨g, 0, none⟩) n n) n ((marks nd ((G.outs.take k).map vOf)).map bV)) ∧ Hid (wc.grownBy w' (some g))) (fun i' _ => G.outs.length - (intOf i').toNat)
  case atStart => exact ⟨0, Nat.zero_le _, rfl, HO.out, grown_refl _ _⟩
  case round =>
    obtain ⟨k, hk, rfl, HOr, HGr⟩ := hrel
    have hnl := (HOr.out.lt g rfl).2
    have q3R := (HGr.out.cell_far ⟨nbk, 3, none⟩ hnbk (by simp; omega)).trans q3
    by_cases hlt : k < G.outs.length
    · obtain ⟨z, hz⟩ : ∃ z, G.outs[k]? = some z := getElem_lt hlt
      obtain ⟨rb, ro, ea, hrb, hrc⟩ := HR.out.el hz
      have hrw : rb < wc.heap.size := Nat.lt_of_lt_of_le hrb hBw
      have c1 : wr.cell? ⟨rb, ro + k, none⟩ = some (.int .i64 z) := (HGr.out.cell_far _ hrw (by simp; omega)).trans (by have := hrc 0 _ rfl; simpa using this)
      have hzi := hin z (List.mem_of_getElem? hz)
      rw [ea] at q3R
      have HNX : Hid (marks nd ((G.outs.take (k + 1)).map vOf) = (marks nd ((G.outs.take k).map vOf)).set (z.toNat / 2) true) := by
        show _ = _
        rw [take_snoc hz, List.map_append]; exact marks_snoc _ _ _
      obtain ⟨v, hv⟩ : ∃ v, v = z.toNat / 2 := ⟨_, rfl⟩
      have hvn : v < n := by omega
      have q1 : Int.tdiv z 2 = (v : Int) := by rw [Int.tdiv_eq_ediv_of_nonneg hzi.1]; omega
      rw [← hv] at HNX
      generalize z = l at *
      clear hrc ea hz hzi hv
      have hvI : (v : Int) < (n : Int) := by omega
      have hltI : (k : Int) < (G.outs.length : Int) := by omega
      have e1 : IntKind.i64.wrap (v : Int) = (v : Int) := wrapI _ (by omega) (by omega)
      have e3 : IntKind.i64.wrap ((k : Int) + 1) = (k : Int) + 1 := wrapI _ (by omega) (by omega)
      have hcl := HOr.out.cellAt v (by omega)
      have hfz := HOr.out.frozenAt v
      have hold : ∃ old, wr.cell? ⟨g, v, none⟩ = some old := by
        rw [hcl]
        have hL : v < ((marks nd ((G.outs.take k).map vOf)).map bV).length := by rw [List.length_map, marks_len, hnd]; exact hvn
        exact ⟨_, List.getElem?_eq_getElem hL⟩
      obtain ⟨old, hold⟩ := hold
      have HST := hidden (HOr.out.stored v (.bool true))
      clear hcl
      go_wp2_with fail
      generalize hW5 : World.setCell wr _ _ = w5
      rw [hW5] at HST
      have HO5 : Hid (w5.ownsRow C 4 1 (.slice (some ⟨g, 0, none⟩) n n) n ((marks nd ((G.outs.take (k + 1)).map vOf)).map bV)) := by
        have := HST.out.1
        rw [HNX.out]
        rw [show Value.bool true = bV true from rfl, ← List.map_set] at this
        exact this
      have HG5 : Hid (wc.grownBy w5 (some g)) := grown_trans HGr.out HST.out.2
      clear hW5 HST hold hfz HOr HGr HNX
      go_wp2
      go_roundw
      case measure => simp [intOf]; omega
      case rel => exact ⟨k + 1, by omega, by simp, HO5.out, HG5.out⟩
    · have hge : ¬ ((k : Int) < (G.outs.length : Int)) := by omega
      have HEN : Hid (wr.ownsRow C 4 1 (.slice (some ⟨g, 0, none⟩) n n) n ((marks nd (G.outs.map vOf)).map bV)) := by
        have := HOr.out
        rw [List.take_of_length_le (by omega)] at this
        exact this
      clear HOr
      go_wp2
      exact HK.out _ _ _ _ _ _ _ _ _ _ _ _ _ _ _ _ _ ⟨HEN.out, HGr.out⟩

set_option maxRecDepth 100000 in
set_option maxHeartbeats 8000000 in
theorem cgLats (wc : World) (G : GrD) (B C g n nbk : Nat) (a : Option Addr) (c : Nat) (q3 : wc.cell? ⟨nbk, 1, none⟩ = some (.slice a G.lats.length c)) (hnbk : nbk < wc.heap.size) (hng : nbk < g) (HR : Hid (RowAt B wc a 2 (G.lats.map LatD.cells))) (hBw : B ≤ wc.heap.size) (hBg : B ≤ g) (hin : ∀ z, z ∈ G.lats → 0 ≤ z.next ∧ z.next < 2 * (n : Int)) (hn : n ≤ 60000) (hlen : G.lats.length ≤ 60000) (nd : List Bool) (hnd : nd.length = n) (HO : Hid (wc.ownsRow C 4 1 (.slice (some ⟨g, 0, none⟩) n n) n ((nd).map bV))) (K' : Act → World → Prop) (Q0 : Exit → Act → World → Prop) (x0 x2 x3 x5 x7 x8 x9 x10 x11 x12 x13 x14 x15 x16 x17 x18 x19 x20 x21 x22 x23 x24 x25 x26 x27 x28 x29 x30 x31 x32 x33 x34 x35 x36 x37 x38 x39 x40 x41 x42 x43 x44 x45 x46 x47 x48 x49 x50 x51 x52 x53 x54 x55 x56 x57 x58 x59 x60 x61 x62 x63 x64 x65 x66 x67 x68 x69 x70 x71 x72 x73 x74 x75 x76 x77 x78 x79 x80 x81 x82 x83 x84 x85 x86 x87 x88 x89 x90 x91 x92 x93 x94 x95 x96 x97 x98 x99 x100 x101 x102 x103 x104 x105 x106 x107 x108 x109 x110 x111 x112 x113 x114 x115 x116 x117 x118 x119 x120 x121 x122 x123 x124 x125 x126 x127 x128 x129 x130 x131 x132 x133 x134 x135 x136 x137 x138 x139 x140 x141 x142 x143 x144 x145 x146 x147 x148 x149 x150 x151 x152 x153 x154 x155 x156 x157 x158 x159 x160 x161 x162 x163 x164 x165 x166 x167 x168 x169 x170 x171 x172 x173 x174 x175 x176 x177 x178 x179 x180 x181 x182 x183 x184 x185 x186 x187 x188 x189 x190 x191 x192 x193 x194 x195 x196 x197 x198 x199 x200 x201 x202 x203 x204 x205 x206 x207 x208 x209 x210 x211 x212 x213 x214 x215 x216 x217 x218 x219 x220 : Value)
    (HK : Hid (∀ (w' : World) (s6 s43 s44 s45 s46 s47 s48 s49 s50 s51 s52 s53 s54 s55 s56 s57 s58 : Value), w'.ownsRow C 4 1 (.slice (some ⟨g, 0, none⟩) n n) n ((marks nd (G.lats.map nOf)).map bV) ∧ wc.grownBy w' (some g) → K' ⟨#[x0, .pointer (some ⟨nbk, 0, none⟩), x2, x3, (.slice (some ⟨g, 0, none⟩) n n), x5, s6, x7, x8, x9, x10, x11, x12, x13, x14, x15, x16, x17, x18, x19, x20, x21, x22, x23, x24, x25, x26, x27, x28, x29, x30, x31, x32, x33, x34, x35, x36, x37, x38, x39, x40, x41, x42, s43, s44, s45, s46, s47, s48, s49, s50, s51, s52, s53, s54, s55, s56, s57, s58, x59, x60, x61, x62, x63, x64, x65, x66, x67, x68, x69, x70, x71, x72, x73, x74, x75, x76, x77, x78, x79, x80, x81, x82, x83, x84, x85, x86, x87, x88, x89, x90, x91, x92, x93, x94, x95, x96, x97, x98, x99, x100, x101, x102, x103, x104, x105, x106, x107, x108, x109, x110, x111, x112, x113, x114, x115, x116, x117, x118, x119, x120, x121, x122, x123, x124, x125, x126, x127, x128, x129, x130, x131, x132, x133, x134, x135, x136, x137, x138, x139, x140, x141, x142, x143, x144, x145, x146, x147, x148, x149, x150, x151, x152, x153, x154, x155, x156, x157, x158, x159, x160, x161, x162, x163, x164, x165, x166, x167, x168, x169, x170, x171, x172, x173, x174, x175, x176, x177, x178, x179, x180, x181, x182, x183, x184, x185, x186, x187, x188, x189, x190, x191, x192, x193, x194, x195, x196, x197, x198, x199, x200, x201, x202, x203, x204, x205, x206, x207, x208, x209, x210, x211, x212, x213, x214, x215, x216, x217, x218, x219, x220], []⟩ w')) :
    Code.wp Try.prog ((Try.f9.body.bind (blockAt 2)).getD .skip) (Exit.then K' Q0) ⟨#[x0, .pointer (some ⟨nbk, 0, none⟩), x2, x3, (.slice (some ⟨g, 0, none⟩) n n), x5, .int .i64 0, x7, x8, x9, x10, x11, x12, x13, x14, x15, x16, x17, x18, x19, x20, x21, x22, x23, x24, x25, x26, x27, x28, x29, x30, x31, x32, x33, x34, x35, x36, x37, x38, x39, x40, x41, x42, x43, x44, x45, x46, x47, x48, x49, x50, x51, x52, x53, x54, x55, x56, x57, x58, x59, x60, x61, x62, x63, x64, x65, x66, x67, x68, x69, x70, x71, x72, x73, x74, x75, x76, x77, x78, x79, x80, x81, x82, x83, x84, x85, x86, x87, x88, x89, x90, x91, x92, x93, x94, x95, x96, x97, x98, x99, x100, x101, x102, x103, x104, x105, x106, x107, x108, x109, x110, x111, x112, x113, x114, x115, x116, x117, x118, x119, x120, x121, x122, x123, x124, x125, x126, x127, x128, x129, x130, x131, x132, x133, x134, x135, x136, x137, x138, x139, x140, x141, x142, x143, x144, x145, x146, x147, x148, x149, x150, x151, x152, x153, x154, x155, x156, x157, x158, x159, x160, x161, x162, x163, x164, x165, x166, x167, x168, x169, x170, x171, x172, x173, x174, x175, x176, x177, x178, x179, x180, x181, x182, x183, x184, x185, x186, x187, x188, x189, x190, x191, x192, x193, x194, x195, x196, x197, x198, x199, x200, x201, x202, x203, x204, x205, x206, x207, x208, x209, x210, x211, x212, x213, x214, x215, x216, x217, x218, x219, x220], []⟩ wc := by
  conv => arg 2; whnf
  go_wp2_with fail
  go_loopw [6] (fun i' w' => ∃ (k : Nat), k ≤ G.lats.length ∧ i' = .int .i64 k ∧ Hid (w'.ownsRow C 4 1 (.slice (some ⟨g, 0, none⟩) n n) n ((marks nd ((G.lats.take k).map nOf)).map bV)) ∧ Hid (wc.grownBy w' (some g))) (fun i' _ => G.lats.length - (intOf i').toNat)
  case atStart => exact ⟨0, Nat.zero_le _, rfl, HO.out, grown_refl _ _⟩
  case round =>
    obtain ⟨k, hk, rfl, HOr, HGr⟩ := hrel
    have hnl := (HOr.out.lt g rfl).2
    have q3R := (HGr.out.cell_far ⟨nbk, 1, none⟩ hnbk (by simp; omega)).trans q3
    by_cases hlt : k < G.lats.length
    · obtain ⟨z, hz⟩ : ∃ z, G.lats[k]? = some z := getElem_lt hlt
      obtain ⟨rb, ro, ea, hrb, hrc⟩ := HR.out.el hz
      have hrw : rb < wc.heap.size := Nat.lt_of_lt_of_le hrb hBw
      have c1 : wr.cell? ⟨rb, ro + k * 2, none⟩ = some (.int .i64 z.next) := (HGr.out.cell_far _ hrw (by simp; omega)).trans (by have := hrc 0 _ rfl; simpa using this)
      have hzi := hin z (List.mem_of_getElem? hz)
      rw [ea] at q3R
      have HNX : Hid (marks nd ((G.lats.take (k + 1)).map nOf) = (marks nd ((G.lats.take k).map nOf)).set (z.next.toNat / 2) true) := by
        show _ = _
        rw [take_snoc hz, List.map_append]; exact marks_snoc _ _ _
      obtain ⟨v, hv⟩ : ∃ v, v = z.next.toNat / 2 := ⟨_, rfl⟩
      have hvn : v < n := by omega
      have q1 : Int.tdiv z.next 2 = (v : Int) := by rw [Int.tdiv_eq_ediv_of_nonneg hzi.1]; omega
      rw [← hv] at HNX
      generalize z.next = l at *
      clear hrc ea hz hzi hv
      have hvI : (v : Int) < (n : Int) := by omega
      have hltI : (k : Int) < (G.lats.length : Int) := by omega
      have e1 : IntKind.i64.wrap (v : Int) = (v : Int) := wrapI _ (by omega) (by omega)
      have e3 : IntKind.i64.wrap ((k : Int) + 1) = (k : Int) + 1 := wrapI _ (by omega) (by omega)
      have hcl := HOr.out.cellAt v (by omega)
      have hfz := HOr.out.frozenAt v
      have hold : ∃ old, wr.cell? ⟨g, v, none⟩ = some old := by
        rw [hcl]
        have hL : v < ((marks nd ((G.lats.take k).map nOf)).map bV).length := by rw [List.length_map, marks_len, hnd]; exact hvn
        exact ⟨_, List.getElem?_eq_getElem hL⟩
      obtain ⟨old, hold⟩ := hold
      have HST := hidden (HOr.out.stored v (.bool true))
      clear hcl
      go_wp2_with fail
      generalize hW5 : World.setCell wr _ _ = w5
      rw [hW5] at HST
      have HO5 : Hid (w5.ownsRow C 4 1 (.slice (some ⟨g, 0, none⟩) n n) n ((marks nd ((G.lats.take (k + 1)).map nOf)).map bV)) := by
        have := HST.out.1
        rw [HNX.out]
        rw [show Value.bool true = bV true from rfl, ← List.map_set] at this
        exact this
      have HG5 : Hid (wc.grownBy w5 (some g)) := grown_trans HGr.out HST.out.2
      clear hW5 HST hold hfz HOr HGr HNX
      go_wp2
      go_roundw
      case measure => simp [intOf]; omega
      case rel => exact ⟨k + 1, by omega, by simp, HO5.out, HG5.out⟩
    · have hge : ¬ ((k : Int) < (G.lats.length : Int)) := by omega
      have HEN : Hid (wr.ownsRow C 4 1 (.slice (some ⟨g, 0, none⟩) n n) n ((marks nd (G.lats.map nOf)).map bV)) := by
        have := HOr.out
        rw [List.take_of_length_le (by omega)] at this
        exact this
      clear HOr
      go_wp2
      exact HK.out _ _ _ _ _ _ _ _ _ _ _ _ _ _ _ _ _ _ ⟨HEN.out, HGr.out⟩

set_option maxRecDepth 100000 in
set_option maxHeartbeats 8000000 in
theorem cgSweep (wc : World) (G : GrD) (B C g n first nbk : Nat) (a : Option Addr) (c : Nat) (q3 : wc.cell? ⟨nbk, 2, none⟩ = some (.slice a G.ands.length c)) (hnbk : nbk < wc.heap.size) (hng : nbk < g) (HR : Hid (RowAt B wc a 2 (G.ands.map AndD.cells))) (hBw : B ≤ wc.heap.size) (hBg : B ≤ g) (hin : ∀ (k : Nat) (d : AndD), G.ands[k]? = some d → (0 ≤ d.x ∧ d.x < 2 * ((first + k : Nat) : Int)) ∧ (0 ≤ d.y ∧ d.y < 2 * ((first + k : Nat) : Int))) (hn : n ≤ 60000) (hfn : first + G.ands.length = n) (nd R : List Bool) (hnd : nd.length = n) (HRR : Hid (sweepC first (opsOf G) G.ands.length nd = R)) (HO : Hid (wc.ownsRow C 4 1 (.slice (some ⟨g, 0, none⟩) n n) n ((nd).map bV))) (K' : Act → World → Prop) (Q0 : Exit → Act → World → Prop) (x0 x2 x5 x6 x8 x9 x10 x11 x12 x13 x14 x15 x16 x17 x18 x19 x20 x21 x22 x23 x24 x25 x26 x27 x28 x29 x30 x31 x32 x33 x34 x35 x36 x37 x38 x39 x40 x41 x42 x43 x44 x45 x46 x47 x48 x49 x50 x51 x52 x53 x54 x55 x56 x57 x58 x59 x60 x61 x62 x63 x64 x65 x66 x67 x68 x69 x70 x71 x72 x73 x74 x75 x76 x77 x78 x79 x80 x81 x82 x83 x84 x85 x86 x87 x88 x89 x90 x91 x92 x93 x94 x95 x96 x97 x98 x99 x100 x101 x102 x103 x104 x105 x106 x107 x108 x109 x110 x111 x112 x113 x114 x115 x116 x117 x118 x119 x120 x121 x122 x123 x124 x125 x126 x127 x128 x129 x130 x131 x132 x133 x134 x135 x136 x137 x138 x139 x140 x141 x142 x143 x144 x145 x146 x147 x148 x149 x150 x151 x152 x153 x154 x155 x156 x157 x158 x159 x160 x161 x162 x163 x164 x165 x166 x167 x168 x169 x170 x171 x172 x173 x174 x175 x176 x177 x178 x179 x180 x181 x182 x183 x184 x185 x186 x187 x188 x189 x190 x191 x192 x193 x194 x195 x196 x197 x198 x199 x200 x201 x202 x203 x204 x205 x206 x207 x208 x209 x210 x211 x212 x213 x214 x215 x216 x217 x218 x219 x220 : Value)
    (HK : Hid (∀ (w' : World) (s7 s63 s64 s65 s66 s67 s68 s69 s70 s71 s72 s73 s74 s75 s76 s77 s78 s79 s80 s81 s82 s83 s84 s85 s86 s87 s88 s89 s90 : Value), w'.ownsRow C 4 1 (.slice (some ⟨g, 0, none⟩) n n) n ((R).map bV) ∧ wc.grownBy w' (some g) → K' ⟨#[x0, .pointer (some ⟨nbk, 0, none⟩), x2, .int .i64 (first : Int), (.slice (some ⟨g, 0, none⟩) n n), x5, x6, s7, x8, x9, x10, x11, x12, x13, x14, x15, x16, x17, x18, x19, x20, x21, x22, x23, x24, x25, x26, x27, x28, x29, x30, x31, x32, x33, x34, x35, x36, x37, x38, x39, x40, x41, x42, x43, x44, x45, x46, x47, x48, x49, x50, x51, x52, x53, x54, x55, x56, x57, x58, x59, x60, x61, x62, s63, s64, s65, s66, s67, s68, s69, s70, s71, s72, s73, s74, s75, s76, s77, s78, s79, s80, s81, s82, s83, s84, s85, s86, s87, s88, s89, s90, x91, x92, x93, x94, x95, x96, x97, x98, x99, x100, x101, x102, x103, x104, x105, x106, x107, x108, x109, x110, x111, x112, x113, x114, x115, x116, x117, x118, x119, x120, x121, x122, x123, x124, x125, x126, x127, x128, x129, x130, x131, x132, x133, x134, x135, x136, x137, x138, x139, x140, x141, x142, x143, x144, x145, x146, x147, x148, x149, x150, x151, x152, x153, x154, x155, x156, x157, x158, x159, x160, x161, x162, x163, x164, x165, x166, x167, x168, x169, x170, x171, x172, x173, x174, x175, x176, x177, x178, x179, x180, x181, x182, x183, x184, x185, x186, x187, x188, x189, x190, x191, x192, x193, x194, x195, x196, x197, x198, x199, x200, x201, x202, x203, x204, x205, x206, x207, x208, x209, x210, x211, x212, x213, x214, x215, x216, x217, x218, x219, x220], []⟩ w')) :
    Code.wp Try.prog ((Try.f9.body.bind (blockAt 4)).getD .skip) (Exit.then K' Q0) ⟨#[x0, .pointer (some ⟨nbk, 0, none⟩), x2, .int .i64 (first : Int), (.slice (some ⟨g, 0, none⟩) n n), x5, x6, .int .i64 ((G.ands.length : Int) - 1), x8, x9, x10, x11, x12, x13, x14, x15, x16, x17, x18, x19, x20, x21, x22, x23, x24, x25, x26, x27, x28, x29, x30, x31, x32, x33, x34, x35, x36, x37, x38, x39, x40, x41, x42, x43, x44, x45, x46, x47, x48, x49, x50, x51, x52, x53, x54, x55, x56, x57, x58, x59, x60, x61, x62, x63, x64, x65, x66, x67, x68, x69, x70, x71, x72, x73, x74, x75, x76, x77, x78, x79, x80, x81, x82, x83, x84, x85, x86, x87, x88, x89, x90, x91, x92, x93, x94, x95, x96, x97, x98, x99, x100, x101, x102, x103, x104, x105, x106, x107, x108, x109, x110, x111, x112, x113, x114, x115, x116, x117, x118, x119, x120, x121, x122, x123, x124, x125, x126, x127, x128, x129, x130, x131, x132, x133, x134, x135, x136, x137, x138, x139, x140, x141, x142, x143, x144, x145, x146, x147, x148, x149, x150, x151, x152, x153, x154, x155, x156, x157, x158, x159, x160, x161, x162, x163, x164, x165, x166, x167, x168, x169, x170, x171, x172, x173, x174, x175, x176, x177, x178, x179, x180, x181, x182, x183, x184, x185, x186, x187, x188, x189, x190, x191, x192, x193, x194, x195, x196, x197, x198, x199, x200, x201, x202, x203, x204, x205, x206, x207, x208, x209, x210, x211, x212, x213, x214, x215, x216, x217, x218, x219, x220], []⟩ wc := by
  conv => arg 2; whnf
  go_wp2_with fail
  go_loopw [7] (fun i' w' => ∃ (k : Nat) (ndk : List Bool), k ≤ G.ands.length ∧ i' = .int .i64 ((k : Int) - 1) ∧ ndk.length = n ∧ Hid (sweepC first (opsOf G) k ndk = R) ∧ Hid (w'.ownsRow C 4 1 (.slice (some ⟨g, 0, none⟩) n n) n ((ndk).map bV)) ∧ Hid (wc.grownBy w' (some g))) (fun i' _ => (intOf i' + 1).toNat)
  case atStart => exact ⟨G.ands.length, nd, Nat.le_refl _, rfl, hnd, HRR.out, HO.out, grown_refl _ _⟩
  case round =>
    obtain ⟨k, ndk, hk, rfl, hndk, HSW, HOr, HGr⟩ := hrel
    have hnl := (HOr.out.lt g rfl).2
    rcases k with _ | j
    · have hge : ¬ ((0 : Int) ≤ ((0 : Nat) : Int) - 1) := by omega
      have HEN : Hid (wr.ownsRow C 4 1 (.slice (some ⟨g, 0, none⟩) n n) n ((R).map bV)) := by
        have := HOr.out
        rw [show ndk = R from HSW.out] at this
        exact this
      clear HOr HSW
      go_wp2
      exact HK.out _ _ _ _ _ _ _ _ _ _ _ _ _ _ _ _ _ _ _ _ _ _ _ _ _ _ _ _ _ _ ⟨HEN.out, HGr.out⟩
    · have eJ : (((j + 1 : Nat) : Int) - 1) = (j : Int) := by omega
      rw [eJ]
      have hgeI : (0 : Int) ≤ (j : Int) := by omega
      have eD : IntKind.i64.wrap ((j : Int) - 1) = (j : Int) - 1 := wrapI _ (by omega) (by omega)
      have eF : IntKind.i64.wrap ((first : Int) + (j : Int)) = ((first + j : Nat) : Int) := by rw [wrapI _ (by omega) (by omega)]; omega
      obtain ⟨z, hz⟩ : ∃ z, G.ands[j]? = some z := getElem_lt (by omega)
      obtain ⟨rb, ro, ea, hrb, hrc⟩ := HR.out.el hz
      have hrw : rb < wc.heap.size := Nat.lt_of_lt_of_le hrb hBw
      have HC : Hid (∀ w', wc.grownBy w' (some g) → w'.cell? ⟨nbk, 2, none⟩ = some (.slice (some ⟨rb, ro, none⟩) G.ands.length c) ∧ w'.cell? ⟨rb, ro + j * 2, none⟩ = some (.int .i64 z.x) ∧ w'.cell? ⟨rb, ro + j * 2 + 1, none⟩ = some (.int .i64 z.y)) := fun w' hg => ⟨by
        rw [← ea]; exact (hg.cell_far ⟨nbk, 2, none⟩ hnbk (by simp; omega)).trans q3, (hg.cell_far _ hrw (by simp; omega)).trans (hrc 0 _ rfl), (hg.cell_far _ hrw (by simp; omega)).trans (hrc 1 _ rfl)⟩
      obtain ⟨hzx, hzy⟩ := hin j z hz
      obtain ⟨x, y⟩ := z
      simp only at hzx hzy HC
      obtain ⟨va, hva⟩ : ∃ v, v = x.toNat / 2 := ⟨_, rfl⟩
      obtain ⟨vb, hvb⟩ : ∃ v, v = y.toNat / 2 := ⟨_, rfl⟩
      have qa : Int.tdiv x 2 = (va : Int) := by rw [Int.tdiv_eq_ediv_of_nonneg hzx.1]; omega
      have qb : Int.tdiv y 2 = (vb : Int) := by rw [Int.tdiv_eq_ediv_of_nonneg hzy.1]; omega
      have hvn : va < n := by omega
      have hvn' : vb < n := by omega
      have hop : (opsOf G)[j]? = some (va, vb) := by unfold opsOf; rw [List.getElem?_map, hz, hva, hvb]; rfl
      obtain ⟨b, hb⟩ : ∃ b, ndk[first + j]? = some b := getElem_lt (by omega)
      have HNX : Hid (sweepC first (opsOf G) j (if b then (ndk.set va true).set vb true else ndk) = R) := by
        show _ = _
        rw [← HSW.out]
        show _ = sweepC first (opsOf G) j (stepC first (opsOf G) j ndk)
        unfold stepC
        rw [hb, hop]
        cases b <;> simp
      have cB : wr.cell? ⟨g, first + j, none⟩ = some (.bool b) := by
        rw [HOr.out.cellAt (first + j) (by omega), List.getElem?_map, hb]; rfl
      have hvI : (va : Int) < (n : Int) := by omega
      have hvI' : (vb : Int) < (n : Int) := by omega
      have hfj : ((first + j : Nat) : Int) < (n : Int) := by omega
      have hjI : (j : Int) < (G.ands.length : Int) := by omega
      have e1 : IntKind.i64.wrap (va : Int) = (va : Int) := wrapI _ (by omega) (by omega)
      have e2 : IntKind.i64.wrap (vb : Int) = (vb : Int) := wrapI _ (by omega) (by omega)
      obtain ⟨q3R, c0, c1⟩ := HC.out _ HGr.out
      clear hrc ea hz hzx hzy hva hvb hop hb HSW eJ
      cases b
      · clear HC c0 c1 q3R
        go_wp2
        go_roundw
        case measure => simp [intOf]
        case rel => exact ⟨j, ndk, by omega, by simp, hndk, HNX.out, HOr.out, HGr.out⟩
      · have hcl5 := HOr.out.cellAt va (by omega)
        have hfz5 := HOr.out.frozenAt va
        have hold5 : ∃ old, wr.cell? ⟨g, va, none⟩ = some old := by
          rw [hcl5]
          have hL : va < ((ndk).map bV).length := by simp; omega
          exact ⟨_, List.getElem?_eq_getElem hL⟩
        obtain ⟨old5, hold5⟩ := hold5
        have HST5 := hidden (HOr.out.stored va (.bool true))
        clear hcl5
        go_upto_region 16 with fail
        generalize hW5 : World.setCell wr _ _ = w5
        rw [hW5] at HST5
        have HO5 : Hid (w5.ownsRow C 4 1 (.slice (some ⟨g, 0, none⟩) n n) n ((ndk.set va true).map bV)) := by
          have := HST5.out.1
          rw [show Value.bool true = bV true from rfl, ← List.map_set] at this
          exact this
        have HG5 : Hid (wc.grownBy w5 (some g)) := grown_trans HGr.out HST5.out.2
        clear hW5 HST5 hold5 hfz5
        clear q3R c0 c1 cB
        obtain ⟨q3R, c0, c1⟩ := HC.out _ HG5.out
        have hcl6 := HO5.out.cellAt vb (by omega)
        have hfz6 := HO5.out.frozenAt vb
        have hold6 : ∃ old, w5.cell? ⟨g, vb, none⟩ = some old := by
          rw [hcl6]
          have hL : vb < ((ndk.set va true).map bV).length := by simp; omega
          exact ⟨_, List.getElem?_eq_getElem hL⟩
        obtain ⟨old6, hold6⟩ := hold6
        have HST6 := hidden (HO5.out.stored vb (.bool true))
        clear hcl6
        clear HC
        go_wp2_with fail
        generalize hW6 : World.setCell w5 _ _ = w6
        rw [hW6] at HST6
        have HO6 : Hid (w6.ownsRow C 4 1 (.slice (some ⟨g, 0, none⟩) n n) n (((ndk.set va true).set vb true).map bV)) := by
          have := HST6.out.1
          rw [show Value.bool true = bV true from rfl, ← List.map_set] at this
          exact this
        have HG6 : Hid (wc.grownBy w6 (some g)) := grown_trans HG5.out HST6.out.2
        clear hW6 HST6 hold6 hfz6
        clear HO5 HG5 HOr HGr q3R c0 c1
        go_wp2
        go_roundw
        case measure => simp [intOf]
        case rel => exact ⟨j, _, by omega, by simp, by simp [hndk], HNX.out, HO6.out, HG6.out⟩

end Go.Proofs.Ytpipdmeibfkehaa
