import Derived.Test.YtjbnejjjbdalaaaDoorFaM
namespace Go.Proofs.YtjbnejjjbdalaaaDoor
open Go.RowKit

/-- was something wrong, the end with it? -/
def endBad (bs : List Nat) (p : Nat) (wrong : Bool) : Bool := (wrong || decide (8 * bs.length < p)) || decide (8 ≤ 8 * bs.length - p) || decide (numN bs p (8 * bs.length - p) ≠ 0)
def EndP (w' : World) (lb : Nat) (a : Option Addr) (n c : Nat) (f : Bool) : Prop := ∃ at' : Int, Blk w' lb 79 (ldA a n c at' f)

set_option maxRecDepth 100000 in
set_option maxHeartbeats 16000000 in
theorem end_any (B : Nat) (w : World) (lb : Nat) (hB : B ≤ lb) (a : Option Addr) (c : Nat) (bs : List Nat) (p : Nat) (wrong : Bool) (hb : Blk w lb 79 (ldQ a bs c p wrong)) (R : RowAt B w a 1 (bs.map byteC)) (hl : bs.length < 281474976710656) (hby : ∀ x, x ∈ bs → x < 256) :
    Calls Tryd.prog 31 #[.pointer (some ⟨lb, 0, none⟩)] w fun e w' => (∃ v, e = .returned v) ∧ But lb w w' ∧ EndP w' lb a bs.length c (endBad bs p wrong) := by
  have HBK := hidden hb
  have q0 : w.cell? ⟨lb, 0, none⟩ = some (.slice a bs.length c) := hb.cell rfl
  have q1 : w.cell? ⟨lb, 1, none⟩ = some (.int .i64 ((min p (8 * bs.length) : Nat) : Int)) := hb.cell rfl
  have q2 : w.cell? ⟨lb, 2, none⟩ = some (.bool (wrong || decide (8 * bs.length < p))) := hb.cell rfl
  have f2 := hb.frozen 2
  have e8 : IntKind.i64.wrap (8 * (bs.length : Int)) = 8 * (bs.length : Int) := wrapI _ (by omega) (by omega)
  obtain ⟨r, HR⟩ : ∃ r, Hid (endBad bs p wrong = r) := ⟨_, rfl⟩
  rw [HR.out]
  obtain ⟨m, HMN⟩ : ∃ m, Hid (min p (8 * bs.length) = m) := ⟨_, rfl⟩
  rw [HMN.out] at q1
  have hm : m ≤ 8 * bs.length := by rw [← HMN.out]; exact Nat.min_le_right _ _
  have e9 : IntKind.i64.wrap (8 * (bs.length : Int) - (m : Int)) = ((8 * bs.length - m : Nat) : Int) := by rw [wrapI _ (by omega) (by omega)]; omega
  have HNU : Hid (∀ (q n : Nat), n ≤ 7 → Calls Tryd.prog 39 #[.pointer (some ⟨lb, 0, none⟩), .int .i64 (n : Int)] (w.drewN q) fun e w' => e = .returned (.int .i64 ((numN bs p n : Nat) : Int)) ∧ But lb (w.drewN q) w' ∧ Blk w' lb 79 (ldQ a bs c (p + n) wrong)) := fun q n hn => number_any B (w.drewN q) lb hB a c bs p n wrong (HBK.out.drewN q) (R.to (Below.drewN (Below.refl _ _) q)) hl hby (by omega)
  obtain ⟨x, HX⟩ : ∃ x, Hid ((wrong || decide (8 * bs.length < p)) = x) := ⟨_, rfl⟩
  rw [HX.out] at q2
  have HRX : Hid (r = (x || decide (8 ≤ 8 * bs.length - p) || decide (numN bs p (8 * bs.length - p) ≠ 0))) := by show _ = _; rw [← HR.out, endBad, HX.out]
  obtain ⟨n, HN⟩ : ∃ n, Hid (8 * bs.length - m = n) := ⟨_, rfl⟩
  rw [HN.out] at e9
  clear hb R hby hB
  cases x
  · have HP : Hid (p = m) := by
      have h1 := HX.out
      simp at h1
      have := HMN.out
      show p = m
      omega
    rw [HP.out, HN.out] at HRX
    rw [HP.out] at HNU
    by_cases h8 : 8 ≤ n
    · have h8I : (8 : Int) ≤ (n : Int) := by omega
      have HF := hidden (show r = true by rw [HRX.out, decide_eq_true h8]; simp)
      go_enter Tryd.func31, Tryd.ntmps31
      go_upto_region 0 with fail
      go_quiet (fail)
      go_wp2
      go_end0
      refine ⟨⟨_, rfl⟩, (But.drewN (But.refl _ _) _).trans (But.set _ _ _ _), ?_⟩
      rw [HF.out]
      exact ⟨_, (Blk.drewN HBK.out _).set 2 _⟩
    · have h8I : decide ((8 : Int) ≤ (n : Int)) = false := decide_eq_false (by omega)
      replace HNU := hidden (fun q => HNU.out q n (by omega))
      generalize numN bs m n = v at *
      by_cases hv : v = 0
      · have hvI : ((v : Int) != 0) = false := by simp [hv]
        have HF := hidden (show r = false by rw [HRX.out, decide_eq_false h8, decide_eq_false (by simpa using hv)]; rfl)
        clear hv
        go_enter Tryd.func31, Tryd.ntmps31
        go_upto_region 0 with fail
        go_quiet (fail)
        go_wp2_with (go_at_call 39; refine (HNU.out _).mono ?_; rintro e v1 ⟨rfl, h1, h2⟩; have HB1 := hidden h1; have HB2 := hidden h2; have z2 : v1.cell? ⟨lb, 2, none⟩ = some _ := h2.cell rfl; have g2 := h2.frozen 2; clear h1 h2)
        go_end0
        refine ⟨⟨_, rfl⟩, ((But.drewN (But.refl _ _) _).trans HB1.out).trans (But.set _ _ _ _), ?_⟩
        rw [HF.out]
        exact ⟨_, HB2.out.set 2 _⟩
      · have hvI : ((v : Int) != 0) = true := by simp [hv]
        have HF := hidden (show r = true by rw [HRX.out, decide_eq_true (p := v ≠ 0) hv]; simp)
        clear hv
        go_enter Tryd.func31, Tryd.ntmps31
        go_upto_region 0 with fail
        go_quiet (fail)
        go_wp2_with (go_at_call 39; refine (HNU.out _).mono ?_; rintro e v1 ⟨rfl, h1, h2⟩; have HB1 := hidden h1; have HB2 := hidden h2; have z2 : v1.cell? ⟨lb, 2, none⟩ = some _ := h2.cell rfl; have g2 := h2.frozen 2; clear h1 h2)
        go_end0
        refine ⟨⟨_, rfl⟩, ((But.drewN (But.refl _ _) _).trans HB1.out).trans (But.set _ _ _ _), ?_⟩
        rw [HF.out]
        exact ⟨_, HB2.out.set 2 _⟩
  · have HF := hidden (show r = true by rw [HRX.out]; simp)
    go_enter Tryd.func31, Tryd.ntmps31
    go_upto_region 0 with fail
    go_quiet (fail)
    go_wp2
    go_end0
    refine ⟨⟨_, rfl⟩, (But.drewN (But.refl _ _) _).trans (But.set _ _ _ _), ?_⟩
    rw [HF.out]
    exact ⟨_, (Blk.drewN HBK.out _).set 2 _⟩

end Go.Proofs.YtjbnejjjbdalaaaDoor
