import Derived.Test.YtjbnejjjbdalaaaDoorFaG
namespace Go.Proofs.YtjbnejjjbdalaaaDoor
open Go.RowKit

theorem ldQ_bad (a : Option Addr) (bs : List Nat) (c p : Nat) (wrong bad : Bool) : (ldQ a bs c p wrong).setIfInBounds 2 (.bool ((wrong || decide (8 * bs.length < p)) || bad)) = ldQ a bs c p (wrong || bad) := by
  unfold ldQ ldA
  have : ((wrong || decide (8 * bs.length < p)) || bad) = ((wrong || bad) || decide (8 * bs.length < p)) := by cases wrong <;> cases bad <;> simp
  rw [this]; rfl
theorem ldQ_cell {w : World} {lb c p : Nat} {a : Option Addr} {bs : List Nat} {wrong : Bool} (h : Blk w lb 79 (ldQ a bs c p wrong)) : w.cell? ⟨lb, 2, none⟩ = some (.bool (wrong || decide (8 * bs.length < p))) := h.cell rfl

set_option maxRecDepth 100000 in
set_option maxHeartbeats 8000000 in
theorem selector_any (B : Nat) (w : World) (lb : Nat) (hB : B ≤ lb) (a : Option Addr) (c : Nat) (bs : List Nat) (p s : Nat) (wrong : Bool) (hb : Blk w lb 79 (ldQ a bs c p wrong)) (R : RowAt B w a 1 (bs.map byteC)) (hl : bs.length < 281474976710656) (hby : ∀ x, x ∈ bs → x < 256) (hs : s ≤ 65536) :
    Calls Tryd.prog 40 #[.pointer (some ⟨lb, 0, none⟩), .int .i64 (s : Int)] w fun e w' => e = .returned (.int .i64 ((numN bs p (wid s) : Nat) : Int)) ∧ But lb w w' ∧ Blk w' lb 79 (ldQ a bs c (p + wid s) (wrong || decide (s ≤ numN bs p (wid s)))) := by
  have WD := hidden (width_any w s hs)
  have NM := hidden (number_any B w lb hB a c bs p (wid s) wrong hb R hl hby (wid_lt s hs))
  generalize wid s = k at *
  generalize numN bs p k = v at *
  clear hb R hby hB hl
  obtain ⟨x, HX⟩ : ∃ x, Hid ((wrong || decide (8 * bs.length < p + k)) = x) := ⟨_, rfl⟩
  have LQ := hidden (ldQ_bad a bs c (p + k) wrong (decide (s ≤ v)))
  rw [HX.out] at LQ
  cases x
  · by_cases hv : s ≤ v
    · have hvI : (s : Int) ≤ (v : Int) := by omega
      rw [decide_eq_true hv] at LQ ⊢
      go_enter Tryd.func40, Tryd.ntmps40
      go_wp2_with (first | (go_at_call 46; refine WD.out.mono ?_; rintro e v1 ⟨rfl, rfl⟩) | (go_at_call 39; refine NM.out.mono ?_; rintro e v2 ⟨rfl, h1, h2⟩; have HB1 := hidden h1; have HB2 := hidden h2; have q2 := ldQ_cell h2; have f2 := h2.frozen 2; rw [HX.out] at q2; clear h1 h2))
      go_ret
      exact ⟨rfl, HB1.out.trans (But.set _ _ _ _), by rw [← LQ.out]; exact HB2.out.set 2 _⟩
    · have hvI : decide ((s : Int) ≤ (v : Int)) = false := decide_eq_false (by omega)
      rw [decide_eq_false hv] at LQ ⊢
      go_enter Tryd.func40, Tryd.ntmps40
      go_wp2_with (first | (go_at_call 46; refine WD.out.mono ?_; rintro e v1 ⟨rfl, rfl⟩) | (go_at_call 39; refine NM.out.mono ?_; rintro e v2 ⟨rfl, h1, h2⟩; have HB1 := hidden h1; have HB2 := hidden h2; have q2 := ldQ_cell h2; have f2 := h2.frozen 2; rw [HX.out] at q2; clear h1 h2))
      go_ret
      exact ⟨rfl, HB1.out.trans (But.set _ _ _ _), by rw [← LQ.out]; exact HB2.out.set 2 _⟩
  · rw [Bool.true_or] at LQ
    go_enter Tryd.func40, Tryd.ntmps40
    go_wp2_with (first | (go_at_call 46; refine WD.out.mono ?_; rintro e v1 ⟨rfl, rfl⟩) | (go_at_call 39; refine NM.out.mono ?_; rintro e v2 ⟨rfl, h1, h2⟩; have HB1 := hidden h1; have HB2 := hidden h2; have q2 := ldQ_cell h2; have f2 := h2.frozen 2; rw [HX.out] at q2; clear h1 h2))
    go_ret
    exact ⟨rfl, HB1.out.trans (But.set _ _ _ _), by rw [← LQ.out]; exact HB2.out.set 2 _⟩

set_option maxRecDepth 100000 in
set_option maxHeartbeats 8000000 in
theorem size_any (B : Nat) (w : World) (lb : Nat) (hB : B ≤ lb) (a : Option Addr) (c : Nat) (bs : List Nat) (p : Nat) (s t : Int) (wrong : Bool) (hb : Blk w lb 79 (ldQ a bs c p wrong)) (R : RowAt B w a 1 (bs.map byteC)) (hl : bs.length < 281474976710656) (hby : ∀ x, x ∈ bs → x < 256) :
    Calls Tryd.prog 37 #[.pointer (some ⟨lb, 0, none⟩), .int .i64 s, .int .i64 t] w fun e w' => e = .returned (.int .i64 ((numN bs p 16 : Nat) : Int)) ∧ But lb w w' ∧ Blk w' lb 79 (ldQ a bs c (p + 16) (wrong || !wi ((numN bs p 16 : Nat) : Int) s t)) := by
  have NM := hidden (number_any B w lb hB a c bs p 16 wrong hb R hl hby (by omega))
  generalize numN bs p 16 = v at *
  clear hb R hby hB hl
  obtain ⟨x, HX⟩ : ∃ x, Hid ((wrong || decide (8 * bs.length < p + 16)) = x) := ⟨_, rfl⟩
  have LQ := hidden (ldQ_bad a bs c (p + 16) wrong (!wi (v : Int) s t))
  rw [HX.out] at LQ
  unfold wi at *
  cases x
  · by_cases hv : (v : Int) < s
    · rw [decide_eq_false (p := s ≤ (v : Int) ∧ (v : Int) ≤ t) (by omega)] at LQ ⊢
      go_enter Tryd.func37, Tryd.ntmps37
      go_wp2_with (go_at_call 39; refine NM.out.mono ?_; rintro e v2 ⟨rfl, h1, h2⟩; have HB1 := hidden h1; have HB2 := hidden h2; have q2 := ldQ_cell h2; have f2 := h2.frozen 2; rw [HX.out] at q2; clear h1 h2)
      go_ret
      exact ⟨rfl, HB1.out.trans (But.set _ _ _ _), by rw [← LQ.out]; exact HB2.out.set 2 _⟩
    · have hv1 : decide ((v : Int) < s) = false := decide_eq_false hv
      by_cases hw : t < (v : Int)
      · rw [decide_eq_false (p := s ≤ (v : Int) ∧ (v : Int) ≤ t) (by omega)] at LQ ⊢
        go_enter Tryd.func37, Tryd.ntmps37
        go_wp2_with (go_at_call 39; refine NM.out.mono ?_; rintro e v2 ⟨rfl, h1, h2⟩; have HB1 := hidden h1; have HB2 := hidden h2; have q2 := ldQ_cell h2; have f2 := h2.frozen 2; rw [HX.out] at q2; clear h1 h2)
        go_ret
        exact ⟨rfl, HB1.out.trans (But.set _ _ _ _), by rw [← LQ.out]; exact HB2.out.set 2 _⟩
      · have hw1 : decide (t < (v : Int)) = false := decide_eq_false hw
        rw [decide_eq_true (p := s ≤ (v : Int) ∧ (v : Int) ≤ t) (by omega)] at LQ ⊢
        go_enter Tryd.func37, Tryd.ntmps37
        go_wp2_with (go_at_call 39; refine NM.out.mono ?_; rintro e v2 ⟨rfl, h1, h2⟩; have HB1 := hidden h1; have HB2 := hidden h2; have q2 := ldQ_cell h2; have f2 := h2.frozen 2; rw [HX.out] at q2; clear h1 h2)
        go_ret
        exact ⟨rfl, HB1.out.trans (But.set _ _ _ _), by rw [← LQ.out]; exact HB2.out.set 2 _⟩
  · rw [Bool.true_or] at LQ
    go_enter Tryd.func37, Tryd.ntmps37
    go_wp2_with (go_at_call 39; refine NM.out.mono ?_; rintro e v2 ⟨rfl, h1, h2⟩; have HB1 := hidden h1; have HB2 := hidden h2; have q2 := ldQ_cell h2; have f2 := h2.frozen 2; rw [HX.out] at q2; clear h1 h2)
    go_ret
    exact ⟨rfl, HB1.out.trans (But.set _ _ _ _), by rw [← LQ.out]; exact HB2.out.set 2 _⟩

end Go.Proofs.YtjbnejjjbdalaaaDoor
