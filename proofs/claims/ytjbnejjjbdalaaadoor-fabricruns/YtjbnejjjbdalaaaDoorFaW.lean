import Derived.Test.YtjbnejjjbdalaaaDoorFaV
namespace Go.Proofs.YtjbnejjjbdalaaaDoor
open Go.RowKit

set_option maxRecDepth 100000 in
set_option maxHeartbeats 8000000 in
theorem registersC_any (w : World) (mk gb sb ni nr : Nat) (m0 : w.cell? ⟨mk, 0, none⟩ = some (.pointer (some ⟨gb, 0, none⟩))) (m1 : w.cell? ⟨mk, 1, none⟩ = some (.slice (some ⟨sb, 0, none⟩) (2 + ni + nr) (2 + ni + nr))) (q0 : w.cell? ⟨gb, 0, none⟩ = some (.int .i64 (ni : Int))) (hni : ni ≤ 1000) (hnr : nr ≤ 1000) :
    Calls Tryd.prog 33 #[.pointer (some ⟨mk, 0, none⟩)] w fun e w' => (∃ dp dc, e = .returned (.slice dp nr dc) ∧ (0 < nr → dp = some ⟨sb, 2 + ni, none⟩)) ∧ ∃ q, w' = w.drewN q := by
  obtain ⟨lo, HLO⟩ : ∃ f : Nat, Hid (f = 2 + ni) := ⟨_, rfl⟩
  obtain ⟨nv, HNV⟩ : ∃ f : Nat, Hid (f = 2 + ni + nr) := ⟨_, rfl⟩
  rw [← HNV.out] at m1
  have e1 : IntKind.i64.wrap (2 + (ni : Int)) = (lo : Int) := by rw [HLO.out]; rw [wrapI _ (by omega) (by omega)]; omega
  have e2 : 2 + (ni : Int) = (lo : Int) := by have := HLO.out; omega
  have HD : Hid (nv - lo = nr) := by show _ = _; have := HNV.out; have := HLO.out; omega
  have hln : lo ≤ nv := by have := HNV.out; have := HLO.out; omega
  have hnn : nv ≤ 3000 := by have := HNV.out; omega
  have hcs : lo = nv ∨ lo < nv := by omega
  rcases hcs with hcs | hcs
  · have hz : Hid (nr = 0) := by show _ = _; have := HD.out; omega
    subst hcs
    go_enter Tryd.func33, Tryd.ntmps33
    go_upto_region 1 with fail
    go_quiet (fail)
    go_wp2
    go_ret
    exact ⟨⟨_, _, by rw [hz.out]; exact rfl, fun hp => by have := hz.out; omega⟩, _, rfl⟩
  · go_enter Tryd.func33, Tryd.ntmps33
    go_upto_region 1 with fail
    go_quiet (fail)
    go_wp2
    go_ret
    exact ⟨⟨_, _, by rw [← HD.out]; exact rfl, fun _ => by rw [← HLO.out]⟩, _, rfl⟩

set_option maxRecDepth 100000 in
set_option maxHeartbeats 8000000 in
theorem inputsC_any (w : World) (mk gb sb ni nr : Nat) (m0 : w.cell? ⟨mk, 0, none⟩ = some (.pointer (some ⟨gb, 0, none⟩))) (m1 : w.cell? ⟨mk, 1, none⟩ = some (.slice (some ⟨sb, 0, none⟩) (2 + ni + nr) (2 + ni + nr))) (q0 : w.cell? ⟨gb, 0, none⟩ = some (.int .i64 (ni : Int))) (hni : ni ≤ 1000) (hnr : nr ≤ 1000) :
    Calls Tryd.prog 34 #[.pointer (some ⟨mk, 0, none⟩)] w fun e w' => (∃ dp dc, e = .returned (.slice dp ni dc) ∧ (0 < ni → dp = some ⟨sb, 2, none⟩)) ∧ ∃ q, w' = w.drewN q := by
  obtain ⟨lo, HLO⟩ : ∃ f : Nat, Hid (f = 2 + ni) := ⟨_, rfl⟩
  obtain ⟨nv, HNV⟩ : ∃ f : Nat, Hid (f = 2 + ni + nr) := ⟨_, rfl⟩
  rw [← HNV.out] at m1
  have e1 : IntKind.i64.wrap (2 + (ni : Int)) = (lo : Int) := by rw [HLO.out]; rw [wrapI _ (by omega) (by omega)]; omega
  have e2 : 2 + (ni : Int) = (lo : Int) := by have := HLO.out; omega
  have HD : Hid (lo - 2 = ni) := by show _ = _; have := HLO.out; omega
  have hln : lo ≤ nv := by have := HNV.out; have := HLO.out; omega
  have hl2 : 2 ≤ lo := by have := HLO.out; omega
  have hnn : nv ≤ 3000 := by have := HNV.out; omega
  have hcs : nv = 2 ∨ 2 < nv := by omega
  rcases hcs with hcs | hcs
  · have hz : Hid (ni = 0) := by show _ = _; have := HD.out; omega
    have hlo : lo = 2 := by omega
    subst hlo
    subst hcs
    go_enter Tryd.func34, Tryd.ntmps34
    go_upto_region 1 with fail
    go_quiet (fail)
    go_wp2
    go_ret
    exact ⟨⟨_, _, by rw [hz.out]; exact rfl, fun hp => by have := hz.out; omega⟩, _, rfl⟩
  · go_enter Tryd.func34, Tryd.ntmps34
    go_upto_region 1 with fail
    go_quiet (fail)
    go_wp2
    go_ret
    exact ⟨⟨_, _, by rw [← HD.out]; exact rfl, fun _ => rfl⟩, _, rfl⟩

end Go.Proofs.YtjbnejjjbdalaaaDoor
