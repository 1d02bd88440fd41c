import Derived.Test.YtibjgoigdajkkaaDoorJ18
namespace Go.Proofs.YtibjgoigdajkkaaDoor
open Go.RowKit

set_option maxRecDepth 100000 in
set_option maxHeartbeats 8000000 in
theorem best_any (D : PnS) (T : PnT) (w : World) (h : PlAt D w T) (i : Nat) (hi : i < D.n) (hex : ∃ d, 0 < d ∧ d ≤ D.cc ∧ T.tk i d ≠ 0) (f : Nat) (hf : earL T.col (D.ins i) = f) (hfl : f ≤ latN D T i) (sb : Option Addr) (sc : Nat) (l : List Int) (hl : l.length ≤ 4) (hr : ∀ k x, l[k]? = some x → ∃ b o, sb = some ⟨b, o, none⟩ ∧ w.cell? ⟨b, o + k, none⟩ = some (.int .i64 x)) (tf : Bool) :
    Calls Tryd.prog 72 #[.pointer (some ⟨D.pb, 0, none⟩), .int .i64 i, .slice sb l.length sc, .bool tf] w fun e w' => (∃ b : Nat, f ≤ b ∧ b ≤ latN D T i ∧ e = .returned (.int .i64 b)) ∧ ∃ n, w' = w.drewN n := by
  have EA := hidden (earliest_any D T w h i hi)
  have LA := hidden (latest_any D T w h i hi hex)
  rw [hf] at EA
  have hlc : latN D T i < D.cc := by
    have := (latK_spec (T.tk i) 0 D.cc (by obtain ⟨d, h1, h2, h3⟩ := hex; exact ⟨d, h1, by omega, h3⟩)).2.1
    unfold latN; omega
  have hcc := h.bs.cc.2.2
  have UA : Hid (∀ (n : Nat) (c : Int), Calls Tryd.prog 74 #[.slice sb l.length sc, .int .i64 c] (w.drewN n) fun e w' => ∃ m : Nat, m ≤ 4 ∧ e = .returned (.int .i64 m) ∧ w' = w.drewN n) := fun n c => unheld_any (w.drewN n) sb sc l c hl hr
  have TM : Hid (∀ (n c m : Nat), c < D.cc → m ≤ 4 → Calls Tryd.prog 73 #[.pointer (some ⟨D.pb, 0, none⟩), .int .i64 c, .int .i64 m] (w.drewN n) fun e w' => (∃ r : Int, 0 ≤ r ∧ r ≤ 2097160 ∧ e = .returned (.int .i64 r)) ∧ ∃ k, w' = (w.drewN n).drewN k) := fun n c m hc hm => tooMany_any D T (w.drewN n) (h.heap rfl) c hc m hm
  generalize D.pb = pb at *
  generalize D.cc = cc at *
  obtain ⟨ln, eln⟩ := exq l.length
  rw [← eln] at UA
  rw [← eln]
  generalize latN D T i = la at *
  have hdr : Hid (∀ a b, (w.drewN a).drewN b = w.drewN (a + b)) := fun a b => by
    simp [World.drewN, Nat.add_assoc]
  clear h hi hex hf hl hr eln
  go_enter Tryd.func72, Tryd.ntmps72
  go_wp2_with fail
  go_at_call 61
  refine EA.out.mono ?_
  rintro e v ⟨rfl, hv⟩
  rw [hv]
  clear hv v
  go_wp2_with fail
  go_at_call 57
  refine LA.out.mono ?_
  rintro e v ⟨rfl, hv⟩
  rw [hv]
  clear hv v EA LA
  go_wp2_with fail
  go_loopw [11, 12, 13, 14] (fun b' l' s' c' w' => ∃ (b c q : Nat) (le s : Int), f ≤ b ∧ b ≤ c ∧ c ≤ la ∧ f ≤ c ∧ (-2097160 * (c : Int) ≤ s ∧ s ≤ 2097160 * (c : Int)) ∧ (-2097160 * (c : Int) ≤ le ∧ le ≤ 2097160 * (c : Int)) ∧ b' = .int .i64 (b : Int) ∧ l' = .int .i64 le ∧ s' = .int .i64 s ∧ c' = .int .i64 (c : Int) ∧ Hid (w' = w.drewN q)) (fun _ _ _ c' _ => la - (intOf c').toNat)
  case atStart => exact ⟨f, f, 0, 0, 0, by omega, by omega, by omega, by omega, by omega, by omega, rfl, rfl, rfl, rfl, rfl⟩
  case round =>
    obtain ⟨b, c, q, le, s, h1, h2, h3, h4, h5, h6, rfl, rfl, rfl, rfl, HW⟩ := hrel
    by_cases hlt : c < la
    · have hltI : (c : Int) < (la : Int) := by omega
      rw [HW.out]
      clear HW
      go_wp2_with fail
      go_at_call 74
      refine (UA.out q c).mono ?_
      rintro e v ⟨m, hm, rfl, hv⟩
      rw [hv]
      clear hv v
      go_wp2_with fail
      go_at_call 73
      refine (TM.out q c m (by omega) hm).mono ?_
      rintro e v ⟨⟨r1, hr1, hr2, rfl⟩, q1, hv⟩
      rw [hdr.out] at hv
      rw [hv]
      clear hv v
      go_wp2_with fail
      go_at_call 73
      refine (TM.out _ c 1 (by omega) (by omega)).mono ?_
      rintro e v ⟨⟨r2, hr3, hr4, rfl⟩, q2, hv⟩
      rw [hdr.out] at hv
      rw [hv]
      clear hv v
      obtain ⟨q3, hq3⟩ := exq (q + q1 + q2)
      rw [← hq3]
      have HQ := hidden hq3
      clear hq3
      have e1 : IntKind.i64.wrap (r1 - r2) = r1 - r2 := wrapI _ (by omega) (by omega)
      have e2 : IntKind.i64.wrap (s + (r1 - r2)) = s + (r1 - r2) := wrapI _ (by omega) (by omega)
      have e3 : IntKind.i64.wrap ((c : Int) + 1) = (c : Int) + 1 := wrapI _ (by omega) (by omega)
      have hb2 : -2097160 * ((c + 1 : Nat) : Int) ≤ s + (r1 - r2) ∧ s + (r1 - r2) ≤ 2097160 * ((c + 1 : Nat) : Int) := by omega
      have hb3 : -2097160 * ((c + 1 : Nat) : Int) ≤ le ∧ le ≤ 2097160 * ((c + 1 : Nat) : Int) := by omega
      by_cases c1 : s + (r1 - r2) < le
      · clear hb3
        go_wp2
        go_roundw
        case measure => simp [intOf]; omega
        case rel => exact ⟨c + 1, c + 1, q3, _, _, by omega, by omega, by omega, by omega, hb2, hb2, by simp, rfl, rfl, by simp, rfl⟩
      · by_cases c2 : s + (r1 - r2) = le
        · cases tf with
          | true =>
            go_wp2
            go_roundw
            case measure => simp [intOf]; omega
            case rel => exact ⟨b, c + 1, q3, le, _, by omega, by omega, by omega, by omega, hb2, hb3, rfl, rfl, (by rw [c2]), by simp, rfl⟩
          | false =>
            go_wp2
            go_roundw
            case measure => simp [intOf]; omega
            case rel => exact ⟨c + 1, c + 1, q3, _, _, by omega, by omega, by omega, by omega, hb2, hb2, by simp, (by rw [c2]), (by rw [c2]), by simp, rfl⟩
        · skip
          go_wp2
          go_roundw
          case measure => simp [intOf]; omega
          case rel => exact ⟨b, c + 1, q3, le, _, by omega, by omega, by omega, by omega, hb2, hb3, rfl, rfl, rfl, by simp, rfl⟩
    · have hnI : ¬ (c : Int) < (la : Int) := by omega
      have HQ : Hid (wr = w.drewN q) := HW
      clear HW
      go_wp2
      go_ret
      exact ⟨⟨b, by omega, by omega, rfl⟩, q, HQ.out⟩


end Go.Proofs.YtibjgoigdajkkaaDoor
