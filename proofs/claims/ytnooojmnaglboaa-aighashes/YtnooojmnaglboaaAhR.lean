import Derived.Test.YtnooojmnaglboaaAhQ
namespace Go.Proofs.Ytnooojmnaglboaa
open Go.RowKit Go.WideMaps

theorem pair_lits (x y : Int) (hx : 0 ≤ x ∧ x < 4000000) (hy : 0 ≤ y ∧ y < 4000000) : Try.prog.keyLits 2 36 [.int .i64 x, .int .i64 y] = some [.int .i64 x, .int .i64 y] := by
  have wx := wfI x (by omega)
  have wy := wfI y (by omega)
  unfold Program.keyLits
  simp only [pairU]
  rw [if_pos (by rw [pairArr.size]; rfl), show List.range 2 = [0, 1] from rfl, List.mapM_cons, List.mapM_cons, List.mapM_nil]
  simp [pairArr.one, Program.keyLits, wx, wy]
theorem pair_formed (x y : Int) : (Value.agg #[.int .i64 x, .int .i64 y]).formed Try.prog 36 = true := by simp [Value.formed, pairArr.size]
/-- two pairs that are not the same are not the same -/
theorem pair_ne (w : World) (p q x y : Int) (hp : 0 ≤ p ∧ p < 4000000) (hq : 0 ≤ q ∧ q < 4000000) (hx : 0 ≤ x ∧ x < 4000000) (hy : 0 ≤ y ∧ y < 4000000) (h : ¬ (p = x ∧ q = y)) : (Op.equalIn 10000 36 (.agg #[.int .i64 p, .int .i64 q]) (.agg #[.int .i64 x, .int .i64 y])).run Try.prog w = .ok false w := by
  have hk : Try.prog.keyTypeAt 2 36 = true := by kernel_rfl
  obtain ⟨r, hr, hiff⟩ := run_equalIn_deep 9998 2 36 hk w 2 2 _ _ _ _ (pair_formed p q) (pair_formed x y) (pair_lits p q hp hq) (pair_lits x y hx hy)
  rw [hr]
  cases r with
  | false => rfl
  | true => exact absurd (by have := hiff.1 rfl; simpa using this) h

set_option maxRecDepth 100000 in
set_option maxHeartbeats 8000000 in
theorem hdIn (wc : World) (ands : List AndD) (B i bx kb : Nat) (a : Option Addr) (c : Nat) (x y : Int) (q2 : wc.cell? ⟨bx, 2, none⟩ = some (.slice a ands.length c)) (hbx : bx < wc.heap.size) (k0 : wc.cell? ⟨kb, 0, none⟩ = some (.int .i64 x)) (k1 : wc.cell? ⟨kb, 1, none⟩ = some (.int .i64 y)) (hkb : kb < wc.heap.size) (HR : Hid (RowAt B wc a 2 (ands.map AndD.cells))) (hBw : B ≤ wc.heap.size) (hi : i < ands.length) (hl : ands.length ≤ 60000) (HD : Hid (∀ (k : Nat) (d : AndD), k < i → ands[k]? = some d → ¬ (d.x = x ∧ d.y = y))) (HZ : Hid (∀ (k : Nat) (d : AndD), ands[k]? = some d → (0 ≤ d.x ∧ d.x < 4000000) ∧ (0 ≤ d.y ∧ d.y < 4000000))) (hx : 0 ≤ x ∧ x < 4000000) (hy : 0 ≤ y ∧ y < 4000000) (Q0 : Exit → Act → World → Prop) (x0 x2 x6 x7 x8 x9 x10 x11 x12 x13 x14 x15 x16 x17 x18 x19 x20 x21 x22 x23 x24 x25 x26 x27 x28 x29 x30 x31 x32 x33 x34 x35 x36 x37 x38 x39 x40 x41 x42 x43 x44 x45 x46 x47 x48 : Value)
    (HK : Hid (∀ (w' : World) (s2 s5 s37 s38 s39 s40 s41 s42 s43 s44 s45 s46 s47 s48 : Value), Below wc.heap.size wc w' → Q0 .normal ⟨#[x0, .pointer (some ⟨bx, 0, none⟩), s2, .int .i64 i, .pointer (some ⟨kb, 0, none⟩), s5, x6, x7, x8, x9, x10, x11, x12, x13, x14, x15, x16, x17, x18, x19, x20, x21, x22, x23, x24, x25, x26, x27, x28, x29, x30, x31, x32, x33, x34, x35, x36, s37, s38, s39, s40, s41, s42, s43, s44, s45, s46, s47, s48], []⟩ w')) :
    Code.wp Try.prog ((Try.f8.body.bind (blockAt 2)).getD .skip) Q0 ⟨#[x0, .pointer (some ⟨bx, 0, none⟩), x2, .int .i64 i, .pointer (some ⟨kb, 0, none⟩), .int .i64 0, x6, x7, x8, x9, x10, x11, x12, x13, x14, x15, x16, x17, x18, x19, x20, x21, x22, x23, x24, x25, x26, x27, x28, x29, x30, x31, x32, x33, x34, x35, x36, x37, x38, x39, x40, x41, x42, x43, x44, x45, x46, x47, x48], []⟩ wc := by
  conv => arg 2; whnf
  go_wp2_with fail
  go_loopw [5] (fun i' w' => ∃ (k : Nat), k ≤ i ∧ i' = .int .i64 k ∧ Hid (Below wc.heap.size wc w')) (fun i' _ => i - (intOf i').toNat)
  case atStart => exact ⟨0, Nat.zero_le _, rfl, Below.refl _ _⟩
  case round =>
    obtain ⟨k, hk, rfl, HBr⟩ := hrel
    have q2R := (HBr.out.cell (p := ⟨bx, 2, none⟩) hbx).trans q2
    have k0R := (HBr.out.cell (p := ⟨kb, 0, none⟩) hkb).trans k0
    have k1R := (HBr.out.cell (p := ⟨kb, 1, none⟩) hkb).trans k1
    by_cases hlt : k < i
    · obtain ⟨z, hz⟩ : ∃ z, ands[k]? = some z := getElem_lt (by omega)
      obtain ⟨rb, ro, ea, hrb, hrc⟩ := HR.out.el hz
      subst ea
      have hne := HD.out k z hlt hz
      obtain ⟨p, q⟩ := z
      have c1 : wr.cell? ⟨rb, ro + k * 2, none⟩ = some (.int .i64 p) := (HBr.out.cell (p := ⟨rb, ro + k * 2, none⟩) (by show rb < _; omega)).trans (hrc 0 _ rfl)
      have c2 : wr.cell? ⟨rb, ro + k * 2 + 1, none⟩ = some (.int .i64 q) := (HBr.out.cell (p := ⟨rb, ro + k * 2 + 1, none⟩) (by show rb < _; omega)).trans (hrc 1 _ rfl)
      have hzr := HZ.out k _ hz
      simp only at hne hzr
      have EQ : ∀ w, (Op.equalIn 10000 36 (.agg #[.int .i64 p, .int .i64 q]) (.agg #[.int .i64 x, .int .i64 y])).run Try.prog w = .ok false w := fun w => pair_ne w p q x y hzr.1 hzr.2 hx hy hne
      have hltI : (k : Int) < (i : Int) := by omega
      have hlI : (k : Int) < (ands.length : Int) := by omega
      have e3 : IntKind.i64.wrap ((k : Int) + 1) = (k : Int) + 1 := wrapI _ (by omega) (by omega)
      clear hrc hz
      go_upto_region 10 with fail
      go_quiet (fail)
      have HBn : Hid (Below wc.heap.size wc (wr.drewN nq)) := Below.drewN HBr.out _
      go_wp2
      go_roundw
      case measure => simp [intOf]; omega
      case rel => exact ⟨k + 1, by omega, by simp, HBn.out⟩
    · have hge : ¬ ((k : Int) < (i : Int)) := by omega
      go_wp2
      exact HK.out _ _ _ _ _ _ _ _ _ _ _ _ _ _ _ HBr.out

end Go.Proofs.Ytnooojmnaglboaa
