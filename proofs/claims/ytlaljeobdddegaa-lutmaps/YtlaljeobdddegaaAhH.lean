import Derived.Test.YtlaljeobdddegaaAhG
import Derived.Deep.Cut
import Derived.Laws.OwnMore
namespace Go.Proofs.Ytlaljeobdddegaa
open Go.RowKit

def zH (x : Int) : Value := .int .i64 x
def blockAt (n : Nat) : Code → Option Code
  | .block m c => if m = n then some (.block m c) else blockAt n c
  | .seq a b => match blockAt n a with
    | some c => some c
    | none => blockAt n b
  | .loop c => blockAt n c
  | .scope c => blockAt n c
  | .cond _ a b => match blockAt n a with
    | some c => some c
    | none => blockAt n b
  | _ => none

set_option maxRecDepth 100000 in
set_option maxHeartbeats 8000000 in
theorem hsInit (wc : World) (C first n qb lb : Nat) (L0 : List Int) (HL0 : Hid (L0.length = n)) (q5 : wc.cell? ⟨qb, 0, none⟩ = some (.slice (some ⟨lb, 0, none⟩) n n)) (hqb : qb < wc.heap.size) (hne : qb ≠ lb) (hn : n ≤ 60000) (hfn : first ≤ n) (HO : Hid (wc.ownsRow C 3 1 (.slice (some ⟨lb, 0, none⟩) n n) n ((L0).map zH))) (K' : Act → World → Prop) (Q0 : Exit → Act → World → Prop) (x0 x1 x2 x3 x4 x6 x7 x8 x9 x10 x11 x12 x13 x14 x15 x16 x17 x18 x19 x20 x21 x24 x25 x26 x27 x28 x29 x30 x31 x32 x33 x34 x35 x36 x37 x38 x39 x40 x41 x42 x43 x44 x45 x46 x47 x48 x49 x50 x51 x52 x53 x54 x55 x56 x57 x58 x59 x60 x61 x62 x63 x64 x65 x66 x67 x68 x69 x70 x71 x72 x73 x74 x75 x76 x77 x78 x79 x80 x81 x82 x83 x84 x85 x86 x87 x88 x89 x90 x91 x92 x93 x94 x95 x96 x97 x98 x99 x100 x101 x102 x103 x104 x105 x106 x107 x108 : Value)
    (HK : Hid (∀ (w' : World) (s6 s23 s24 s25 s26 s27 s28 s29 s30 s31 : Value), (∃ L : List Int, L.length = n ∧ (∀ v : Nat, v < first → L[v]? = some (2 * (v : Int))) ∧ w'.ownsRow C 3 1 (.slice (some ⟨lb, 0, none⟩) n n) n ((L).map zH) ∧ wc.grownBy w' (some lb)) → K' ⟨#[x0, x1, x2, x3, x4, .pointer (some ⟨qb, 0, none⟩), s6, x7, x8, x9, x10, x11, x12, x13, x14, x15, x16, x17, x18, x19, x20, x21, .int .i64 first, s23, s24, s25, s26, s27, s28, s29, s30, s31, x32, x33, x34, x35, x36, x37, x38, x39, x40, x41, x42, x43, x44, x45, x46, x47, x48, x49, x50, x51, x52, x53, x54, x55, x56, x57, x58, x59, x60, x61, x62, x63, x64, x65, x66, x67, x68, x69, x70, x71, x72, x73, x74, x75, x76, x77, x78, x79, x80, x81, x82, x83, x84, x85, x86, x87, x88, x89, x90, x91, x92, x93, x94, x95, x96, x97, x98, x99, x100, x101, x102, x103, x104, x105, x106, x107, x108], []⟩ w')) :
    Code.wp Try.prog ((Try.f33.body.bind (blockAt 0)).getD .skip) (Exit.then K' Q0) ⟨#[x0, x1, x2, x3, x4, .pointer (some ⟨qb, 0, none⟩), x6, x7, x8, x9, x10, x11, x12, x13, x14, x15, x16, x17, x18, x19, x20, x21, .int .i64 first, .int .i64 0, x24, x25, x26, x27, x28, x29, x30, x31, x32, x33, x34, x35, x36, x37, x38, x39, x40, x41, x42, x43, x44, x45, x46, x47, x48, x49, x50, x51, x52, x53, x54, x55, x56, x57, x58, x59, x60, x61, x62, x63, x64, x65, x66, x67, x68, x69, x70, x71, x72, x73, x74, x75, x76, x77, x78, x79, x80, x81, x82, x83, x84, x85, x86, x87, x88, x89, x90, x91, x92, x93, x94, x95, x96, x97, x98, x99, x100, x101, x102, x103, x104, x105, x106, x107, x108], []⟩ wc := by
  conv => arg 2; whnf
  go_wp2_with fail
  go_loopw [23] (fun i' w' => ∃ (k : Nat) (L : List Int), k ≤ first ∧ i' = .int .i64 k ∧ Hid (L.length = n) ∧ Hid (∀ v : Nat, v < k → L[v]? = some (2 * (v : Int))) ∧ Hid (w'.ownsRow C 3 1 (.slice (some ⟨lb, 0, none⟩) n n) n ((L).map zH)) ∧ Hid (wc.grownBy w' (some lb))) (fun i' _ => first - (intOf i').toNat)
  case atStart => exact ⟨0, L0, Nat.zero_le _, rfl, HL0, fun v hv => absurd hv (Nat.not_lt_zero _), HO, grown_refl _ _⟩
  case round =>
    obtain ⟨k, L, hk, rfl, HLn, HLv, HOr, HGr⟩ := hrel
    have q5R := (HGr.out.cell_far ⟨qb, 0, none⟩ hqb (by simp; omega)).trans q5
    by_cases hlt : k < first
    · have hltI : (k : Int) < (first : Int) := by omega
      have hkn : (k : Int) < (n : Int) := by omega
      have e1 : IntKind.i64.wrap (2 * (k : Int)) = 2 * (k : Int) := wrapI _ (by omega) (by omega)
      have e3 : IntKind.i64.wrap ((k : Int) + 1) = (k : Int) + 1 := wrapI _ (by omega) (by omega)
      have hcl := HOr.out.cellAt k (by omega)
      have hfz := HOr.out.frozenAt k
      have hold : ∃ old, wr.cell? ⟨lb, k, none⟩ = some old := by
        rw [hcl]
        have hL : k < (L.map zH).length := by rw [List.length_map, HLn.out]; omega
        exact ⟨_, List.getElem?_eq_getElem hL⟩
      obtain ⟨old, hold⟩ := hold
      have HST := hidden (HOr.out.stored k (.int .i64 (2 * (k : Int))))
      clear hcl
      go_wp2_with fail
      generalize hW5 : World.setCell wr _ _ = w5
      rw [hW5] at HST
      clear hW5 hold hfz
      go_wp2
      go_roundw
      case measure => simp [intOf]; omega
      case rel =>
        refine ⟨k + 1, L.set k (2 * (k : Int)), by omega, by simp, by show _ = _; rw [List.length_set]; exact HLn.out, ?_, ?_, grown_trans HGr.out HST.out.2⟩
        · intro v hv
          by_cases e : v = k
          · subst e
            rw [List.getElem?_set_self (by rw [HLn.out]; omega)]
          · rw [List.getElem?_set_ne (fun h => e h.symm)]
            exact HLv.out v (by omega)
        · have := HST.out.1
          rw [show Value.int .i64 (2 * (k : Int)) = zH (2 * (k : Int)) from rfl, ← List.map_set] at this
          exact this
    · have hge : ¬ ((k : Int) < (first : Int)) := by omega
      have hke : k = first := by omega
      subst hke
      go_wp2
      exact HK.out _ _ _ _ _ _ _ _ _ _ _ ⟨L, HLn.out, HLv.out, HOr.out, HGr.out⟩

end Go.Proofs.Ytlaljeobdddegaa
