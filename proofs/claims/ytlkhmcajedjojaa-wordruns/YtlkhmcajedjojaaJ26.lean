import Derived.Test.YtlkhmcajedjojaaJ25
import Derived.Deep.RegionHeld3
namespace Go.Proofs.Ytlkhmcajedjojaa
open Go.RowKit

theorem set_mid {α : Type} (a : List α) (x y : α) (r : List α) : (a ++ x :: r).set a.length y = a ++ y :: r := by
  induction a with
  | nil => rfl
  | cons h t ih => simp only [List.cons_append, List.length_cons, List.set_cons_succ, ih]
theorem set_next (a b : List Nat) (k y : Nat) (ha : a.length = k) (hb : k < b.length) : ((a ++ b.drop k).map uV).set k (.int .u64 (y : Int)) = (a ++ [y] ++ b.drop (k + 1)).map uV := by
  have := set_mid (a.map uV) (uV b[k]) (.int .u64 (y : Int)) ((b.drop (k + 1)).map uV)
  rw [List.length_map, ha] at this
  rw [List.drop_eq_getElem_cons hb, List.map_append, List.map_cons, this, List.map_append, List.map_append, List.append_assoc]
  rfl
theorem grown_refl (w : World) (row : Option Nat) : w.grownBy w row := ⟨rfl, rfl, rfl, Nat.le_refl _, fun _ _ _ => rfl⟩
theorem grown_trans {a b c : World} {row : Option Nat} (h : a.grownBy b row) (h2 : b.grownBy c row) : a.grownBy c row :=
  ⟨h2.os.trans h.os, h2.tape.trans h.tape, h2.output.trans h.output, Nat.le_trans h.size h2.size, fun k hk hr => (h2.block k (Nat.lt_of_lt_of_le hk h.size) hr).trans (h.block k hk hr)⟩
theorem below_grown {wc w' : World} {row : Option Nat} {C : Nat} (hg : wc.grownBy w' row) (hC : C ≤ wc.heap.size) (hr : ∀ k, row = some k → C ≤ k) : Below C wc w' :=
  (Below.refl C wc).grown hg hC hr

set_option maxRecDepth 100000 in
set_option maxHeartbeats 8000000 in
theorem nrNext (wc : World) (N : NetD) (C nbk : Nat) (hCw : C ≤ wc.heap.size) (a2 : Option Addr) (c2 : Nat) (q2 : wc.cell? ⟨nbk, 2, none⟩ = some (.slice a2 N.regs.length c2)) (hnbk : nbk < C) (HR : Hid (RowAt C wc a2 3 (N.regs.map RegD.cells))) (r : Value) (regs : List Nat) (hrl : regs.length = N.regs.length) (HO0 : Hid (wc.ownsRow C 33 1 r N.regs.length (regs.map uV))) (vs : List Nat) (vb vo cv : Nat) (hvb : vb < wc.heap.size) (hsep : r.ownBlock ≠ some vb) (HV : Hid (∀ (i x : Nat), vs[i]? = some x → wc.cell? ⟨vb, vo + i, none⟩ = some (.int .u64 (x : Int)))) (hin : ∀ z, z ∈ N.regs → 0 ≤ z.next ∧ z.next < (vs.length : Int)) (hlen : N.regs.length < 17592186044416) (K' : Act → World → Prop) (Q0 : Exit → Act → World → Prop) (x0 x1 x3 x4 x6 x7 x8 x9 x10 x12 x13 x15 x16 x17 x18 x19 x20 x21 x22 x23 x24 x25 x26 x27 x28 x29 x30 x31 x32 x33 x34 x35 x36 x37 x38 x39 x40 x41 x42 x43 x44 x45 x46 x47 x48 x49 x50 x51 x52 x53 x54 x55 x56 x57 x58 x59 x60 x61 x62 x63 x64 x65 x66 x67 x68 x69 x70 x71 x72 x73 x74 x75 x76 x77 x78 x79 x80 x81 x82 x83 x84 x85 x86 x87 x88 x89 x90 x91 x92 x93 x94 x95 x96 x97 x98 x99 x100 x101 x102 x103 x104 x105 x106 x107 x108 x109 x110 x111 x112 x113 x114 x115 x116 x117 x118 x119 x120 x121 x122 x123 x124 x125 x126 x127 x128 x129 x130 x131 x132 x133 x134 x135 x136 x137 x138 x139 x140 x141 x142 x143 x144 x145 x146 x147 x148 x149 x150 x151 x152 x153 x154 x155 : Value)
    (HK : Hid (∀ (w' : World) (s14 s86 s87 s88 s89 s90 s91 s92 s93 s94 s95 s96 s97 s98 s99 s100 s101 s102 s103 s104 : Value), (w'.ownsRow C 33 1 r N.regs.length ((N.regs.map fun z => vAt vs z.next).map uV) ∧ wc.grownBy w' r.ownBlock) → K' ⟨#[x0, x1, .pointer (some ⟨nbk, 0, none⟩), x3, x4, r, x6, x7, x8, x9, x10, .slice (some ⟨vb, vo, none⟩) vs.length cv, x12, x13, s14, x15, x16, x17, x18, x19, x20, x21, x22, x23, x24, x25, x26, x27, x28, x29, x30, x31, x32, x33, x34, x35, x36, x37, x38, x39, x40, x41, x42, x43, x44, x45, x46, x47, x48, x49, x50, x51, x52, x53, x54, x55, x56, x57, x58, x59, x60, x61, x62, x63, x64, x65, x66, x67, x68, x69, x70, x71, x72, x73, x74, x75, x76, x77, x78, x79, x80, x81, x82, x83, x84, x85, s86, s87, s88, s89, s90, s91, s92, s93, s94, s95, s96, s97, s98, s99, s100, s101, s102, s103, s104, x105, x106, x107, x108, x109, x110, x111, x112, x113, x114, x115, x116, x117, x118, x119, x120, x121, x122, x123, x124, x125, x126, x127, x128, x129, x130, x131, x132, x133, x134, x135, x136, x137, x138, x139, x140, x141, x142, x143, x144, x145, x146, x147, x148, x149, x150, x151, x152, x153, x154, x155], []⟩ w')) :
    Code.wp Try.prog ((Try.f24.body.bind (blockAt 8)).getD .skip) (Exit.then K' Q0) ⟨#[x0, x1, .pointer (some ⟨nbk, 0, none⟩), x3, x4, r, x6, x7, x8, x9, x10, .slice (some ⟨vb, vo, none⟩) vs.length cv, x12, x13, .int .i64 0, x15, x16, x17, x18, x19, x20, x21, x22, x23, x24, x25, x26, x27, x28, x29, x30, x31, x32, x33, x34, x35, x36, x37, x38, x39, x40, x41, x42, x43, x44, x45, x46, x47, x48, x49, x50, x51, x52, x53, x54, x55, x56, x57, x58, x59, x60, x61, x62, x63, x64, x65, x66, x67, x68, x69, x70, x71, x72, x73, x74, x75, x76, x77, x78, x79, x80, x81, x82, x83, x84, x85, x86, x87, x88, x89, x90, x91, x92, x93, x94, x95, x96, x97, x98, x99, x100, x101, x102, x103, x104, x105, x106, x107, x108, x109, x110, x111, x112, x113, x114, x115, x116, x117, x118, x119, x120, x121, x122, x123, x124, x125, x126, x127, x128, x129, x130, x131, x132, x133, x134, x135, x136, x137, x138, x139, x140, x141, x142, x143, x144, x145, x146, x147, x148, x149, x150, x151, x152, x153, x154, x155], []⟩ wc := by
  conv => arg 2; whnf
  have hC := hCw
  have HC : Hid (∀ k, r.ownBlock = some k → C ≤ k) := fun k hk => (HO0.out.lt k hk).1
  rcases HO0.out.2 with ⟨hr0, hn0⟩ | ⟨g, cap, cur, rfl, -⟩
  · subst hr0
    go_wp2_with fail
    go_loopw [14] (fun i' w' => ∃ (k : Nat), k ≤ N.regs.length ∧ i' = .int .i64 k ∧ Hid (w'.ownsRow C 33 1 (.slice none 0 0) N.regs.length ((((N.regs.take k).map fun z => vAt vs z.next) ++ regs.drop k).map uV)) ∧ Hid (wc.grownBy w' (Value.ownBlock (.slice none 0 0)))) (fun i' _ => N.regs.length - (intOf i').toNat)
    case atStart => exact ⟨0, Nat.zero_le _, rfl, by show World.ownsRow _ _ _ _ _ _ _; simpa using HO0.out, grown_refl _ _⟩
    case round =>
      obtain ⟨k, hk, rfl, HO, HG⟩ := hrel
      have q2R := (below_grown HG.out hC HC.out).cell (p := ⟨nbk, 2, none⟩) hnbk |>.trans q2
      by_cases hlt : k < N.regs.length
      · omega
      · have hge : ¬ ((k : Int) < (N.regs.length : Int)) := by omega
        have HO6 : Hid (wr.ownsRow C 33 1 (.slice none 0 0) N.regs.length ((N.regs.map fun z => vAt vs z.next).map uV)) := by
          have := HO.out
          rw [List.take_of_length_le (by omega), List.drop_eq_nil_of_le (by omega), List.append_nil] at this
          exact this
        clear HO
        go_wp2
        exact HK.out _ _ _ _ _ _ _ _ _ _ _ _ _ _ _ _ _ _ _ _ _ ⟨HO6.out, HG.out⟩
  · go_wp2_with fail
    go_loopw [14] (fun i' w' => ∃ (k : Nat), k ≤ N.regs.length ∧ i' = .int .i64 k ∧ Hid (w'.ownsRow C 33 1 (.slice (some ⟨g, 0, none⟩) N.regs.length cap) N.regs.length ((((N.regs.take k).map fun z => vAt vs z.next) ++ regs.drop k).map uV)) ∧ Hid (wc.grownBy w' (Value.ownBlock (.slice (some ⟨g, 0, none⟩) N.regs.length cap)))) (fun i' _ => N.regs.length - (intOf i').toNat)
    case atStart => exact ⟨0, Nat.zero_le _, rfl, by show World.ownsRow _ _ _ _ _ _ _; simpa using HO0.out, grown_refl _ _⟩
    case round =>
      obtain ⟨k, hk, rfl, HO, HG⟩ := hrel
      have q2R := (below_grown HG.out hC HC.out).cell (p := ⟨nbk, 2, none⟩) hnbk |>.trans q2
      by_cases hlt : k < N.regs.length
      · obtain ⟨z, hz⟩ : ∃ z, N.regs[k]? = some z := ⟨N.regs[k], List.getElem?_eq_getElem hlt⟩
        obtain ⟨rb, ro, ea, hrb, hrc⟩ := HR.out.el hz
        have c2 := ((below_grown HG.out hC HC.out).cell (p := ⟨rb, ro + k * 3 + 2, none⟩) hrb).trans (hrc 2 _ rfl)
        have hr := hin z (List.mem_of_getElem? hz)
        obtain ⟨y, hy⟩ : ∃ y, vs[z.next.toNat]? = some y := ⟨vs[z.next.toNat]'(by omega), List.getElem?_eq_getElem (by omega)⟩
        have cy : wr.cell? ⟨vb, vo + z.next.toNat, none⟩ = some (.int .u64 (y : Int)) := (World.cell?_of_block (w := wc) (HG.out.block vb hvb (by intro e; exact hsep (by simpa [Value.ownBlock] using e.symm)))).trans (HV.out _ y hy)
        have ev : vAt vs z.next = y := by unfold vAt; rw [hy]; rfl
        rw [ea] at q2R
        have hcl := HO.out.cellAt k (by omega)
        have hfz := HO.out.frozenAt k
        have hold : ∃ old, wr.cell? ⟨g, k, none⟩ = some old := by
          rw [hcl]
          have hL : k < ((((N.regs.take k).map fun z => vAt vs z.next) ++ regs.drop k).map uV).length := by simp; omega
          exact ⟨_, List.getElem?_eq_getElem hL⟩
        obtain ⟨old, hold⟩ := hold
        have HST := hidden (HO.out.stored k (.int .u64 (y : Int)))
        have HNX : Hid (((((N.regs.take k).map fun z => vAt vs z.next) ++ regs.drop k).map uV).set k (.int .u64 (y : Int)) = ((((N.regs.take (k + 1)).map fun z => vAt vs z.next) ++ regs.drop (k + 1)).map uV)) := by
          show _ = _
          have e : ((N.regs.take k ++ [z]).map fun z => vAt vs z.next) = ((N.regs.take k).map fun z => vAt vs z.next) ++ [y] := by rw [List.map_append]; simp [ev]
          rw [take_next _ k z hz, e]
          exact set_next _ _ k y (by simp; omega) (by omega)
        generalize z.next = a at *
        obtain ⟨ha0, ha1⟩ := hr
        have hltI : (k : Int) < (N.regs.length : Int) := by omega
        have e3 : IntKind.i64.wrap ((k : Int) + 1) = (k : Int) + 1 := wrapI _ (by omega) (by omega)
        clear hrc ea hz hy ev hcl HO
        go_wp2
        go_roundw
        case measure => simp [intOf]; omega
        case rel => exact ⟨k + 1, by omega, by simp, by show World.ownsRow _ _ _ _ _ _ _; rw [← HNX.out]; exact HST.out.1, grown_trans HG.out HST.out.2⟩
      · have hge : ¬ ((k : Int) < (N.regs.length : Int)) := by omega
        have HO6 : Hid (wr.ownsRow C 33 1 (.slice (some ⟨g, 0, none⟩) N.regs.length cap) N.regs.length ((N.regs.map fun z => vAt vs z.next).map uV)) := by
          have := HO.out
          rw [List.take_of_length_le (by omega), List.drop_eq_nil_of_le (by omega), List.append_nil] at this
          exact this
        clear HO
        go_wp2
        exact HK.out _ _ _ _ _ _ _ _ _ _ _ _ _ _ _ _ _ _ _ _ _ ⟨HO6.out, HG.out⟩

end Go.Proofs.Ytlkhmcajedjojaa

namespace Go.Proofs.Ytlkhmcajedjojaa
open Go.RowKit

/-- a memory: its block, its words -/
structure MB where
  b : Nat
  l : List Nat
def MB.val (m : MB) : Value := .slice (some ⟨m.b, 0, none⟩) m.l.length m.l.length
structure MsIn (C : Nat) (w : World) (ms : List MB) : Prop where
  own : ∀ m, m ∈ ms → w.ownsRow C 33 1 m.val m.l.length (m.l.map uV)
  apart : ∀ (i j : Nat) (m m' : MB), ms[i]? = some m → ms[j]? = some m' → m.b = m'.b → i = j
/-- other blocks are as they were -/
structure Oth (bs : List Nat) (w w' : World) : Prop where
  os : w'.os = w.os
  tape : w'.tape = w.tape
  output : w'.output = w.output
  size : w.heap.size ≤ w'.heap.size
  block : ∀ k, k < w.heap.size → k ∉ bs → w'.heap[k]? = w.heap[k]?
theorem Oth.refl (bs : List Nat) (w : World) : Oth bs w w := ⟨rfl, rfl, rfl, Nat.le_refl _, fun _ _ _ => rfl⟩
theorem Oth.trans {bs : List Nat} {a b c : World} (h : Oth bs a b) (h2 : Oth bs b c) : Oth bs a c :=
  ⟨h2.os.trans h.os, h2.tape.trans h.tape, h2.output.trans h.output, Nat.le_trans h.size h2.size, fun k hk hr => (h2.block k (Nat.lt_of_lt_of_le hk h.size) hr).trans (h.block k hk hr)⟩
theorem Oth.of_below {bs : List Nat} {w w' : World} (h : Below w.heap.size w w') : Oth bs w w' := ⟨h.os, h.tape, h.output, h.size, fun k hk _ => h.block k hk⟩
theorem Oth.of_grown {bs : List Nat} {w w' : World} {g : Nat} (hg : w.grownBy w' (some g)) (hb : g ∈ bs) : Oth bs w w' := ⟨hg.os, hg.tape, hg.output, hg.size, fun k hk hr => hg.block k hk (by intro e; cases e; exact hr hb)⟩
theorem Oth.cell {bs : List Nat} {w w' : World} (h : Oth bs w w') {p : Addr} (hp : p.block < w.heap.size) (hn : p.block ∉ bs) : w'.cell? p = w.cell? p := World.cell?_of_block (w := w) (h.block p.block hp hn)
theorem MsIn.to {C : Nat} {w w' : World} {ms : List MB} (h : MsIn C w ms) (hb : Below w.heap.size w w') : MsIn C w' ms := ⟨fun m hm => own_below (h.own m hm) hb, h.apart⟩
/-- one word of one memory -/
theorem MsIn.set {C : Nat} {w : World} {ms : List MB} (h : MsIn C w ms) {i a y : Nat} {m : MB} (hm : ms[i]? = some m) :
    MsIn C (w.setCell ⟨m.b, a, none⟩ (.int .u64 (y : Int))) (ms.set i ⟨m.b, m.l.set a y⟩) ∧ w.grownBy (w.setCell ⟨m.b, a, none⟩ (.int .u64 (y : Int))) (some m.b) := by
  have hs := (h.own m (List.mem_of_getElem? hm)).stored a (.int .u64 (y : Int))
  have hi : i < ms.length := (List.getElem?_eq_some_iff.1 hm).1
  refine ⟨⟨fun m' hm' => ?_, fun j k p p' hp hp' he => ?_⟩, hs.2⟩
  · obtain ⟨j, hj, rfl⟩ := List.getElem_of_mem hm'
    rw [List.length_set] at hj
    by_cases hji : j = i
    · subst hji
      have := hs.1
      rw [List.getElem_set_self]
      show World.ownsRow _ _ _ _ (Value.slice (some ⟨m.b, 0, none⟩) (m.l.set a y).length (m.l.set a y).length) _ _
      rw [List.length_set, List.map_set]
      exact this
    · rw [List.getElem_set_ne (Ne.symm hji)]
      refine (h.own ms[j] (List.getElem_mem hj)).kept hs.2 (.inr ?_)
      show some ms[j].b ≠ some m.b
      intro e
      exact hji (h.apart j i ms[j] m (List.getElem?_eq_getElem hj) hm (Option.some.inj e))
  · have nb : ∀ (j : Nat) (p : MB), (ms.set i ⟨m.b, m.l.set a y⟩)[j]? = some p → ∃ p0, ms[j]? = some p0 ∧ p0.b = p.b := by
      intro j p hp
      by_cases hji : j = i
      · subst hji
        rw [List.getElem?_set_self hi] at hp
        cases hp
        exact ⟨m, hm, rfl⟩
      · rw [List.getElem?_set_ne (Ne.symm hji)] at hp
        exact ⟨p, hp, rfl⟩
    obtain ⟨p0, h0, e0⟩ := nb j p hp
    obtain ⟨p1, h1, e1⟩ := nb k p' hp'
    exact h.apart j k p0 p1 h0 h1 (by rw [e0, e1]; exact he)
/-- what a write does -/
def wrStep (vs : List Nat) (ms : List MB) (z : WrD) : List MB :=
  match ms[z.mem.toNat]? with
  | some m => if vAt vs z.when_ ≠ 0 ∧ vAt vs z.addr < m.l.length then ms.set z.mem.toNat ⟨m.b, m.l.set (vAt vs z.addr) (vAt vs z.data)⟩ else ms
  | none => ms
theorem wr_blocks (vs : List Nat) (ms : List MB) (z : WrD) : (wrStep vs ms z).map MB.b = ms.map MB.b := by
  unfold wrStep
  cases hm : ms[z.mem.toNat]? with
  | none => rfl
  | some m =>
    simp only
    split
    · apply List.ext_getElem?
      intro j
      rw [List.getElem?_map, List.getElem?_map]
      by_cases hj : j = z.mem.toNat
      · subst hj
        rw [List.getElem?_set_self (List.getElem?_eq_some_iff.1 hm).1, hm]; rfl
      · rw [List.getElem?_set_ne (Ne.symm hj)]
    · rfl
theorem wr_lens (vs : List Nat) (ms : List MB) (z : WrD) : (wrStep vs ms z).map (fun m => m.l.length) = ms.map (fun m => m.l.length) := by
  unfold wrStep
  cases hm : ms[z.mem.toNat]? with
  | none => rfl
  | some m =>
    simp only
    split
    · apply List.ext_getElem?
      intro j
      rw [List.getElem?_map, List.getElem?_map]
      by_cases hj : j = z.mem.toNat
      · subst hj
        rw [List.getElem?_set_self (List.getElem?_eq_some_iff.1 hm).1, hm]; simp
      · rw [List.getElem?_set_ne (Ne.symm hj)]
    · rfl

end Go.Proofs.Ytlkhmcajedjojaa
