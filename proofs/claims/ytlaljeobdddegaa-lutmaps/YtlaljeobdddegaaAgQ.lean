import Derived.Test.YtlaljeobdddegaaAgP
namespace Go.Proofs.Ytlaljeobdddegaa
open Go.RowKit

set_option maxRecDepth 100000 in
set_option maxHeartbeats 8000000 in
theorem sameBools_any (w : World) (a1 a2 : Option Addr) (c1 c2 : Nat) (l : List Bool) (hl : l.length < big) (R1 : Hid (RowAt w.heap.size w a1 1 (l.map bC))) (R2 : Hid (RowAt w.heap.size w a2 1 (l.map bC))) :
    Calls Try.prog 9 #[.slice a1 l.length c1, .slice a2 l.length c2] w fun e w' => e = .returned (.bool true) ∧ ∃ q, w' = w.drewN q := by
  simp only [big] at hl
  go_enter Try.func9, Try.ntmps9
  go_wp2_with fail
  go_loopw [5] (fun i' w' => ∃ (k : Nat), k ≤ l.length ∧ i' = .int .i64 k ∧ Hid (∃ q, w' = w.drewN q)) (fun i' _ => l.length - (intOf i').toNat)
  case atStart => exact ⟨0, Nat.zero_le _, rfl, ⟨0, rfl⟩⟩
  case round =>
    obtain ⟨k, hk, rfl, HQ⟩ := hrel
    obtain ⟨q, rfl⟩ := HQ.out
    by_cases hlt : k < l.length
    · obtain ⟨x, hx⟩ := getElem_lt hlt
      obtain ⟨d1, p1, rfl, -, cx1⟩ := rowB R1.out hx
      obtain ⟨d2, p2, rfl, -, cx2⟩ := rowB R2.out hx
      have hltI : (k : Int) < (l.length : Int) := by omega
      have e3 : IntKind.i64.wrap ((k : Int) + 1) = (k : Int) + 1 := wrapI _ (by omega) (by omega)
      clear hx HQ
      cases x
      · go_wp2_with fail
        go_quiet (fail)
        go_wp2
        go_roundw
        case measure => simp [intOf]; omega
        case rel => exact ⟨k + 1, by omega, by simp, ⟨_, rfl⟩⟩
      · go_wp2_with fail
        go_quiet (fail)
        go_wp2
        go_roundw
        case measure => simp [intOf]; omega
        case rel => exact ⟨k + 1, by omega, by simp, ⟨_, rfl⟩⟩
    · have hge : ¬ ((k : Int) < (l.length : Int)) := by omega
      clear HQ
      go_wp2
      go_ret
      exact ⟨rfl, _, rfl⟩

/-- rows of booleans behind an address -/
def RowsAt (w : World) (a : Option Addr) (rows : List RD) : Prop := ∀ (i : Nat) (r : RD), rows[i]? = some r → ∃ b o, a = some ⟨b, o, none⟩ ∧ b < w.heap.size ∧ w.cell? ⟨b, o + i, none⟩ = some r.v ∧ BS w r.v r.l

set_option maxRecDepth 100000 in
set_option maxHeartbeats 8000000 in
theorem sameRows_any (w : World) (a1 a2 : Option Addr) (c1 c2 : Nat) (ra rb : List RD) (n : Nat) (hn1 : ra.length = n) (hn2 : rb.length = n) (hl : n < big) (H1 : Hid (RowsAt w a1 ra)) (H2 : Hid (RowsAt w a2 rb)) (HE : Hid (ra.map RD.l = rb.map RD.l)) (hbig : ∀ r, r ∈ ra → r.l.length < big) :
    Calls Try.prog 11 #[.slice a1 n c1, .slice a2 n c2] w fun e w' => e = .returned (.bool true) ∧ ∃ q, w' = w.drewN q := by
  simp only [big] at hl
  go_enter Try.func11, Try.ntmps11
  go_wp2_with fail
  go_loopw [5] (fun i' w' => ∃ (k : Nat), k ≤ n ∧ i' = .int .i64 k ∧ Hid (∃ q, w' = w.drewN q)) (fun i' _ => n - (intOf i').toNat)
  case atStart => exact ⟨0, Nat.zero_le _, rfl, ⟨0, rfl⟩⟩
  case round =>
    obtain ⟨k, hk, rfl, HQ⟩ := hrel
    have HBw : Hid (Below w.heap.size w wr) := by obtain ⟨q, rfl⟩ := HQ.out; exact Below.drewN (Below.refl _ _) _
    by_cases hlt : k < n
    · obtain ⟨r1, hr1⟩ : ∃ r, ra[k]? = some r := getElem_lt (by omega)
      obtain ⟨r2, hr2⟩ : ∃ r, rb[k]? = some r := getElem_lt (by omega)
      obtain ⟨d1, p1, rfl, l1, cx1, b1⟩ := H1.out k r1 hr1
      obtain ⟨d2, p2, rfl, l2, cx2, b2⟩ := H2.out k r2 hr2
      have el : r1.l = r2.l := by
        have := congrArg (fun l => l[k]?) HE.out
        simpa [hr1, hr2] using this
      have hbl := hbig r1 (List.mem_of_getElem? hr1)
      rw [← el] at b2
      obtain ⟨x1, z1, e1, w1⟩ := b1.row
      obtain ⟨x2, z2, e2, w2⟩ := b2.row
      replace cx1 := (HBw.out.cell (p := ⟨d1, p1 + k, none⟩) l1).trans cx1
      replace cx2 := (HBw.out.cell (p := ⟨d2, p2 + k, none⟩) l2).trans cx2
      rw [e1] at cx1
      rw [e2] at cx2
      have SB : Hid (∀ v, Below w.heap.size w v → Calls Try.prog 9 #[.slice x1 r1.l.length z1, .slice x2 r1.l.length z2] v fun e w' => e = .returned (.bool true) ∧ ∃ q, w' = v.drewN q) := fun v hv => sameBools_any v x1 x2 z1 z2 r1.l hbl ((w1.to hv).mono hv.size) ((w2.to hv).mono hv.size)
      generalize r1.l.length = ln at *
      have hltI : (k : Int) < (n : Int) := by omega
      have e3 : IntKind.i64.wrap ((k : Int) + 1) = (k : Int) + 1 := wrapI _ (by omega) (by omega)
      clear hr1 hr2 el b1 b2 w1 w2 e1 e2 hbl l1 l2
      go_wp2_with fail
      go_quiet ((go_at_call 9; exact Calls.quiet_of (SB.out _ (Below.drewN HBw.out _))))
      go_wp2
      go_roundw
      case measure => simp [intOf]; omega
      case rel =>
        obtain ⟨q, hq⟩ := HQ.out
        exact ⟨k + 1, by omega, by simp, ⟨q + nq, by rw [hq, World.drewN_drewN]⟩⟩
    · have hge : ¬ ((k : Int) < (n : Int)) := by omega
      go_wp2
      go_ret
      exact ⟨rfl, HQ.out⟩

end Go.Proofs.Ytlaljeobdddegaa
