import Derived.Test.YtcmfiamejncboaaLrF
import Derived.Laws.BitsAllLaws
import Derived.Laws.BitsLemmas
namespace Go.Proofs.Ytcmfiamejncboaa
open Go.RowKit

/-- a machine in memory -/
structure MkT (w : World) (mk gb g : Nat) (S : NtS) (N : NtD) (vals : List Bool) : Prop where
  m0 : w.cell? ⟨mk, 0, none⟩ = some (.pointer (some ⟨gb, 0, none⟩))
  m1 : w.cell? ⟨mk, 1, none⟩ = some (.slice (some ⟨g, 0, none⟩) vals.length vals.length)
  mlt : mk < w.heap.size
  glt : g < w.heap.size
  box : BoxAt w gb S N
  row : w.heap[g]? = some (.cells (vals.map bV).toArray 4 (0, 0))
theorem MkT.to {w w' : World} {mk gb g : Nat} {S : NtS} {N : NtD} {vals : List Bool} (h : MkT w mk gb g S N vals) (hb : Below w.heap.size w w') : MkT w' mk gb g S N vals :=
  ⟨(hb.cell (p := ⟨mk, 0, none⟩) h.mlt).trans h.m0, (hb.cell (p := ⟨mk, 1, none⟩) h.mlt).trans h.m1, Nat.lt_of_lt_of_le h.mlt hb.size, Nat.lt_of_lt_of_le h.glt hb.size, h.box.to h.box.lt hb, (hb.block g h.glt).trans h.row⟩
theorem MkT.cell {w : World} {mk gb g : Nat} {S : NtS} {N : NtD} {vals : List Bool} (h : MkT w mk gb g S N vals) {i : Nat} {x : Bool} (hx : vals[i]? = some x) : w.cell? ⟨g, i, none⟩ = some (.bool x) := by
  rw [cell_of_row w g i _ _ _ h.row]
  simp [hx, bV]
theorem or_pow (sp i : Nat) (h : sp < 2 ^ i) : sp ||| 2 ^ i = sp + 2 ^ i := by
  have := Nat.two_pow_add_eq_or_of_lt h 1
  rw [Nat.mul_one] at this
  rw [Nat.or_comm, ← this, Nat.add_comm]
theorem or_two (a b : Nat) (ha : a < 9223372036854775808) (hb : b < 9223372036854775808) : bits BinOp.or IntKind.i64 (a : Int) (b : Int) = ((a ||| b : Nat) : Int) := by
  show IntKind.i64.wrap ((BitVec.ofInt 64 (a : Int) ||| BitVec.ofInt 64 (b : Int)).toNat : Int) = _
  have hx : a ||| b < 2 ^ 63 := Nat.or_lt_two_pow (by omega) (by omega)
  rw [BitVec.toNat_or, ofInt_u64 a (by omega), ofInt_u64 b (by omega), IntKind.wrap_i64]
  omega
theorem and_one (n : Int) : bits BinOp.and IntKind.i64 n 1 = n % 2 := by
  have h1 : (BitVec.ofInt 64 1).toNat = 2 ^ 1 - 1 := by decide
  have key : (BitVec.ofInt 64 n &&& BitVec.ofInt 64 1).toNat = (n % ((2 ^ 64 : Nat) : Int)).toNat % 2 ^ 1 := by
    rw [BitVec.toNat_and, BitVec.toNat_ofInt, h1, Nat.and_two_pow_sub_one_eq_mod]
  show IntKind.i64.wrap ((BitVec.ofInt 64 n &&& BitVec.ofInt 64 1).toNat : Nat) = n % 2
  rw [key, IntKind.wrap_i64]
  omega

set_option maxRecDepth 100000 in
set_option maxHeartbeats 8000000 in
theorem worthT_any (w : World) (mk gb g : Nat) (S : NtS) (N : NtD) (vals : List Bool) (h : MkT w mk gb g S N vals) (hlen : vals.length < huge) (b o : Nat) (d : TbD) (R : RowAt w.heap.size w d.a 1 (d.ins.map intC)) (c0 : w.cell? ⟨b, o, none⟩ = some (.slice d.a d.ins.length d.c)) (c1 : w.cell? ⟨b, o + 1, none⟩ = some (.int .i64 d.bits)) (h4 : d.ins.length ≤ 4) (hb0 : 0 ≤ d.bits) (hsb : ∀ s, s ∈ d.ins → 0 ≤ s ∧ s < (vals.length : Int)) :
    Calls Try.prog 29 #[.pointer (some ⟨mk, 0, none⟩), .pointer (some ⟨b, o, none⟩)] w fun e w' => e = .returned (.bool (tabV d vals)) ∧ w' = w := by
  obtain ⟨r, HRR⟩ : ∃ r, Hid (bitAt d.bits (spell (d.ins.map (sV vals))) = r) := ⟨_, rfl⟩
  rw [show tabV d vals = r from HRR.out]
  have HM := hidden h
  have HR := hidden R
  have HSB := hidden hsb
  simp only [huge] at hlen
  obtain ⟨da, dc, ins, bits⟩ := d
  dsimp only at *
  obtain ⟨m, HMM⟩ : ∃ m, Hid (m = ins.length) := ⟨_, rfl⟩
  rw [← HMM.out] at c0 h4
  have HC1 := hidden c1
  obtain ⟨nv, HNV⟩ : ∃ n, Hid (n = vals.length) := ⟨_, rfl⟩
  have m1 := h.m1
  rw [← HNV.out] at hlen m1 HSB
  clear h R hsb c1
  go_enter Try.func29, Try.ntmps29
  go_wp2_with fail
  clear c0
  go_loopw [5, 13] (fun s' i' w' => ∃ (k sp : Nat), k ≤ m ∧ i' = .int .i64 k ∧ s' = .int .i64 sp ∧ Hid (sp = spell ((ins.take k).map (sV vals))) ∧ Hid (w' = w)) (fun _ i' _ => m - (intOf i').toNat)
  case atStart => exact ⟨0, 0, Nat.zero_le _, rfl, rfl, rfl, rfl⟩
  case round =>
    obtain ⟨k, sp, hk, rfl, rfl, HSP, HW⟩ := hrel
    have hspk : sp < 2 ^ k := by
      rw [HSP.out]
      have := spell_lt ((ins.take k).map (sV vals))
      rw [List.length_map, List.length_take, Nat.min_eq_left (by have := HMM.out; omega)] at this
      exact this
    have hsp : sp < 16 := by
      have := Nat.pow_le_pow_right (show 0 < 2 by decide) (show k ≤ 4 by omega)
      omega
    by_cases hlt : k < m
    · have hltI : (k : Int) < (m : Int) := by omega
      obtain ⟨s, hs⟩ := getElem_lt (show k < ins.length by rw [← HMM.out]; exact hlt)
      obtain ⟨b', o', ea, hlb, hc⟩ := HR.out.int hs
      have cs : wr.cell? ⟨b', o' + k, none⟩ = some (.int .i64 s) := by rw [HW.out]; exact hc
      have hs0 := (HSB.out s (List.mem_of_getElem? hs)).1
      have hs1 := (HSB.out s (List.mem_of_getElem? hs)).2
      obtain ⟨x, hx⟩ := getElem_lt (l := vals) (k := s.toNat) (by have := HNV.out; omega)
      have cx : wr.cell? ⟨g, s.toNat, none⟩ = some (.bool x) := by rw [HW.out]; exact HM.out.cell hx
      have m1' : wr.cell? ⟨mk, 1, none⟩ = some (.slice (some ⟨g, 0, none⟩) nv nv) := by rw [HW.out]; exact m1
      have hsx : sV vals s = x := by unfold sV; rw [hx]; rfl
      have e2 : IntKind.i64.wrap ((k : Int) + 1) = (k : Int) + 1 := wrapI _ (by omega) (by omega)
      have HNX : Hid (spell ((ins.take (k + 1)).map (sV vals)) = sp + (if x then 2 ^ k else 0)) := by
        show _ = _
        rw [take_next _ k _ hs, List.map_append, show [s].map (sV vals) = [x] by simp [hsx], spell_snoc, ← HSP.out, List.length_map, List.length_take]
        congr 2
        rw [Nat.min_eq_left (by have := HMM.out; omega)]
      rw [ea]
      clear hs hc hlb ea HSP hx hsx
      cases x
      · go_wp2
        go_roundw
        case measure => simp [intOf]; omega
        case rel => exact ⟨k + 1, sp, by omega, by simp, rfl, HNX.out.symm, HW.out⟩
      · have hk3 : (2 : Nat) ^ k ≤ 8 := Nat.pow_le_pow_right (show 0 < 2 by decide) (show k ≤ 3 by omega)
        have hor : Go.bits BinOp.or IntKind.i64 (sp : Int) (wrap64 (2 ^ k)) = ((sp + 2 ^ k : Nat) : Int) := by
          rw [show ((2 : Int) ^ k) = ((2 ^ k : Nat) : Int) by simp, wrap64_of _ (by omega) (by omega), or_two _ _ (by omega) (by omega), or_pow sp k hspk]
        obtain ⟨P, HP⟩ : ∃ P : Nat, Hid (P = sp + 2 ^ k) := ⟨_, rfl⟩
        rw [← HP.out] at hor
        go_wp2
        go_roundw
        case measure => simp [intOf]; omega
        case rel => exact ⟨k + 1, P, by omega, by simp, rfl, by show _ = _; rw [HNX.out, HP.out]; rfl, HW.out⟩
    · have hge : ¬ ((k : Int) < (m : Int)) := by omega
      have c1 : wr.cell? ⟨b, o + 1, none⟩ = some (.int .i64 bits) := by rw [HW.out]; exact HC1.out
      have HF : Hid (r = decide (bits / 2 ^ sp % 2 = 1)) := by
        have := HSP.out
        rw [List.take_of_length_le (by have := HMM.out; omega)] at this
        rw [← HRR.out, ← this]
        exact rfl
      have HQ : Hid ((Go.bits BinOp.and IntKind.i64 (bits / 2 ^ sp) 1 == 1) = r) := by
        show _ = _
        rw [HF.out, and_one, Bool.eq_iff_iff]
        simp
      clear HSP HF
      go_wp2
      go_ret
      exact ⟨ret_bool HQ.out, HW.out⟩

end Go.Proofs.Ytcmfiamejncboaa
