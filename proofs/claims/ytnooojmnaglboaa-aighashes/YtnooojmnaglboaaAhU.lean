import Derived.Test.YtnooojmnaglboaaAhT
namespace Go.Proofs.Ytnooojmnaglboaa
open Go.RowKit

/-! As AgQ has it (that seat is another one) -/
set_option maxRecDepth 100000 in
set_option maxHeartbeats 8000000 in
theorem sameBools_any (w : World) (a1 a2 : Option Addr) (c1 c2 : Nat) (l : List Bool) (hl : l.length < big) (R1 : Hid (RowAt w.heap.size w a1 1 (l.map bC))) (R2 : Hid (RowAt w.heap.size w a2 1 (l.map bC))) :
    Calls Try.prog 13 #[.slice a1 l.length c1, .slice a2 l.length c2] w fun e w' => e = .returned (.bool true) ∧ ∃ q, w' = w.drewN q := by
  simp only [big] at hl
  go_enter Try.func13, Try.ntmps13
  go_wp2_with fail
  go_loopw [5] (fun i' w' => ∃ (k : Nat), k ≤ l.length ∧ i' = .int .i64 k ∧ Hid (∃ q, w' = w.drewN q)) (fun i' _ => l.length - (intOf i').toNat)
  case atStart => exact ⟨0, Nat.zero_le _, rfl, ⟨0, rfl⟩⟩
  case round =>
    obtain ⟨k, hk, rfl, HQ⟩ := hrel
    obtain ⟨q, rfl⟩ := HQ.out
    by_cases hlt : k < l.length
    · obtain ⟨x, hx⟩ := getElem_lt hlt
      obtain ⟨d1, p1, rfl, -, cx1⟩ := rowB R1.out hx
      obtain ⟨d2, p2, rfl, -, cx2⟩ := rowB R2.out hx
      have hltI : (k : Int) < (l.length : Int) := by omega
      have e3 : IntKind.i64.wrap ((k : Int) + 1) = (k : Int) + 1 := wrapI _ (by omega) (by omega)
      clear hx HQ
      cases x
      · go_wp2_with fail
        go_quiet (fail)
        go_wp2
        go_roundw
        case measure => simp [intOf]; omega
        case rel => exact ⟨k + 1, by omega, by simp, ⟨_, rfl⟩⟩
      · go_wp2_with fail
        go_quiet (fail)
        go_wp2
        go_roundw
        case measure => simp [intOf]; omega
        case rel => exact ⟨k + 1, by omega, by simp, ⟨_, rfl⟩⟩
    · have hge : ¬ ((k : Int) < (l.length : Int)) := by omega
      clear HQ
      go_wp2
      go_ret
      exact ⟨rfl, _, rfl⟩

end Go.Proofs.Ytnooojmnaglboaa
