import Derived.Test.YtjbnejjjbdalaaaDoorFaJ
namespace Go.Proofs.YtjbnejjjbdalaaaDoor
open Go.RowKit

/-- the shape that bits tell -/
def shS (nm : Nat → Nat → Nat) : ShD := ⟨(nm 0 16 : Nat), (nm 16 16 : Nat), (nm 32 16 : Nat), (nm 48 16 : Nat), (nm 64 16 : Nat)⟩

set_option maxRecDepth 100000 in
set_option maxHeartbeats 16000000 in
theorem shape_any (B : Nat) (w : World) (lb : Nat) (hB : B ≤ lb) (hBw : B ≤ w.heap.size) (a : Option Addr) (c : Nat) (bs : List Nat) (hb : Blk w lb 79 (ldQ a bs c 0 false)) (R : RowAt B w a 1 (bs.map byteC)) (hl : bs.length < 281474976710656) (hby : ∀ x, x ∈ bs → x < 256) :
    Calls Tryd.prog 29 #[.pointer (some ⟨lb, 0, none⟩)] w fun e w' => e = .returned (.agg (shS (numN bs)).arr) ∧ But lb w w' ∧ Blk w' lb 79 (ldQ a bs c 80 (!(shS (numN bs)).ok)) := by
  have HSZ : Hid (∀ (v : World) (p' : Nat) (s t : Int) (wr' : Bool), Below B w v → Blk v lb 79 (ldQ a bs c p' wr') → Calls Tryd.prog 37 #[.pointer (some ⟨lb, 0, none⟩), .int .i64 s, .int .i64 t] v fun e w' => e = .returned (.int .i64 ((numN bs p' 16 : Nat) : Int)) ∧ But lb v w' ∧ Blk w' lb 79 (ldQ a bs c (p' + 16) (wr' || !wi ((numN bs p' 16 : Nat) : Int) s t))) := fun v p' s t wr' hv hk => size_any B v lb hB a c bs p' s t wr' hk (R.to hv) hl hby
  have HLB := hidden hb
  have hlbw := hb.lt
  clear hb R hl hby
  unfold ShD.ok shS ShD.arr
  dsimp only
  obtain ⟨x0, HX0⟩ : ∃ x, Hid (numN bs 0 16 = x) := ⟨_, rfl⟩
  obtain ⟨x1, HX1⟩ : ∃ x, Hid (numN bs 16 16 = x) := ⟨_, rfl⟩
  obtain ⟨x2, HX2⟩ : ∃ x, Hid (numN bs 32 16 = x) := ⟨_, rfl⟩
  obtain ⟨x3, HX3⟩ : ∃ x, Hid (numN bs 48 16 = x) := ⟨_, rfl⟩
  obtain ⟨x4, HX4⟩ : ∃ x, Hid (numN bs 64 16 = x) := ⟨_, rfl⟩
  rw [HX0.out, HX1.out, HX2.out, HX3.out, HX4.out]
  go_enter Tryd.func29, Tryd.ntmps29
  go_upto_region 2 with fail
  generalize hW : World.alloc (World.alloc w _) _ = W1
  have HB1 : Hid (Below w.heap.size w W1) := by rw [← hW]; exact ((Below.refl _ _).alloc (Nat.le_refl _) _).alloc (by simp) _
  have HS0 : Hid (Blk W1 (w.heap.size + 1) 27 #[.int .i64 0, .int .i64 0, .int .i64 0, .int .i64 0, .int .i64 0]) := by rw [← hW]; have := Blk.new (w.alloc (.cells #[.int .i64 0, .int .i64 0, .int .i64 0, .int .i64 0, .int .i64 0] 27)) 27 #[.int .i64 0, .int .i64 0, .int .i64 0, .int .i64 0, .int .i64 0]; rw [World.size_alloc] at this; exact this
  have HR0 : Hid (Blk W1 w.heap.size 27 #[.int .i64 0, .int .i64 0, .int .i64 0, .int .i64 0, .int .i64 0]) := by rw [← hW]; exact (Blk.new w 27 #[.int .i64 0, .int .i64 0, .int .i64 0, .int .i64 0, .int .i64 0]).below ((Below.refl _ _).alloc (Nat.le_refl _) _)
  obtain ⟨b0, hb0⟩ : ∃ x, x = w.heap.size := ⟨_, rfl⟩
  obtain ⟨b1, hb1⟩ : ∃ x, x = w.heap.size + 1 := ⟨_, rfl⟩
  rw [← hb1] at HS0 ⊢
  rw [← hb0] at HR0 ⊢
  have hbl : b1 ≠ lb := by omega
  have hb01 : b0 ≠ b1 := by omega
  have hbl0 : b0 ≠ lb := by omega
  have HGW := hidden (show w.heap.size ≤ b1 ∧ w.heap.size ≤ b0 by omega)
  clear hW hb1 hb0
  have HL0 : Hid (Blk W1 lb 79 (ldQ a bs c 0 false)) := HLB.out.below HB1.out
  have HK0 : Hid (Kp [lb, b1] W1 W1) := Kp.refl _ _
  have HKB : Hid (∀ v, Kp [lb, b1] W1 v → Below B w v) := fun v hv => (HB1.out.mono hBw).trans (hv.below (by have := HGW.out.1; simp; omega) (by have := HB1.out.size; omega))
  go_upto_region 3 with (go_at_call 37; refine (HSZ.out W1 0 0 500 (false) (HKB.out _ HK0.out) HL0.out).mono ?_; rintro e v0 ⟨he, h1, h2⟩; rw [HX0.out] at he h2; subst he; have HQ0 := hidden h2; have HP0 : Hid (Kp [lb, b1] W1 v0) := HK0.out.trans (h1.kp (by simp)); have HG0 : Hid (Blk v0 b1 27 #[.int .i64 0, .int .i64 0, .int .i64 0, .int .i64 0, .int .i64 0]) := h1.blk HS0.out hbl; have zc : v0.cell? ⟨b1, 0, none⟩ = some (.int .i64 0) := HG0.out.cell rfl; have zf := HG0.out.frozen 0; clear h1 h2)
  clear zc zf
  have HS1 : Hid (Blk (v0.setCell ⟨b1, 0, none⟩ (.int .i64 (x0 : Int))) b1 27 #[.int .i64 (x0 : Int), .int .i64 0, .int .i64 0, .int .i64 0, .int .i64 0]) := HG0.out.set 0 _
  have HL1 : Hid (Blk (v0.setCell ⟨b1, 0, none⟩ (.int .i64 (x0 : Int))) lb 79 (ldQ a bs c (0 + 16) (!(wi (x0 : Int) 0 500)))) := by
    have := (But.set b1 0 v0 (.int .i64 (x0 : Int))).blk HQ0.out (Ne.symm hbl)
    rw [Bool.false_or] at this
    exact this
  have HK1 : Hid (Kp [lb, b1] W1 (v0.setCell ⟨b1, 0, none⟩ (.int .i64 (x0 : Int)))) := HP0.out.trans (Kp.set _ _ _ _ _ (by simp))
  generalize v0.setCell ⟨b1, 0, none⟩ (.int .i64 (x0 : Int)) = V0 at *
  clear HS0 HL0 HK0 HQ0 HP0 HG0
  go_upto_region 4 with (go_at_call 37; refine (HSZ.out V0 16 0 500 (!(wi (x0 : Int) 0 500)) (HKB.out _ HK1.out) HL1.out).mono ?_; rintro e v1 ⟨he, h1, h2⟩; rw [HX1.out] at he h2; subst he; have HQ1 := hidden h2; have HP1 : Hid (Kp [lb, b1] W1 v1) := HK1.out.trans (h1.kp (by simp)); have HG1 : Hid (Blk v1 b1 27 #[.int .i64 (x0 : Int), .int .i64 0, .int .i64 0, .int .i64 0, .int .i64 0]) := h1.blk HS1.out hbl; have zc : v1.cell? ⟨b1, 1, none⟩ = some (.int .i64 0) := HG1.out.cell rfl; have zf := HG1.out.frozen 1; clear h1 h2)
  clear zc zf
  have HS2 : Hid (Blk (v1.setCell ⟨b1, 1, none⟩ (.int .i64 (x1 : Int))) b1 27 #[.int .i64 (x0 : Int), .int .i64 (x1 : Int), .int .i64 0, .int .i64 0, .int .i64 0]) := HG1.out.set 1 _
  have HL2 : Hid (Blk (v1.setCell ⟨b1, 1, none⟩ (.int .i64 (x1 : Int))) lb 79 (ldQ a bs c (16 + 16) (!(wi (x0 : Int) 0 500 && wi (x1 : Int) 0 500)))) := by
    have := (But.set b1 1 v1 (.int .i64 (x1 : Int))).blk HQ1.out (Ne.symm hbl)
    rw [← Bool.not_and] at this
    exact this
  have HK2 : Hid (Kp [lb, b1] W1 (v1.setCell ⟨b1, 1, none⟩ (.int .i64 (x1 : Int)))) := HP1.out.trans (Kp.set _ _ _ _ _ (by simp))
  generalize v1.setCell ⟨b1, 1, none⟩ (.int .i64 (x1 : Int)) = V1 at *
  clear HS1 HL1 HK1 HQ1 HP1 HG1
  go_upto_region 5 with (go_at_call 37; refine (HSZ.out V1 32 0 500 (!(wi (x0 : Int) 0 500 && wi (x1 : Int) 0 500)) (HKB.out _ HK2.out) HL2.out).mono ?_; rintro e v2 ⟨he, h1, h2⟩; rw [HX2.out] at he h2; subst he; have HQ2 := hidden h2; have HP2 : Hid (Kp [lb, b1] W1 v2) := HK2.out.trans (h1.kp (by simp)); have HG2 : Hid (Blk v2 b1 27 #[.int .i64 (x0 : Int), .int .i64 (x1 : Int), .int .i64 0, .int .i64 0, .int .i64 0]) := h1.blk HS2.out hbl; have zc : v2.cell? ⟨b1, 2, none⟩ = some (.int .i64 0) := HG2.out.cell rfl; have zf := HG2.out.frozen 2; clear h1 h2)
  clear zc zf
  have HS3 : Hid (Blk (v2.setCell ⟨b1, 2, none⟩ (.int .i64 (x2 : Int))) b1 27 #[.int .i64 (x0 : Int), .int .i64 (x1 : Int), .int .i64 (x2 : Int), .int .i64 0, .int .i64 0]) := HG2.out.set 2 _
  have HL3 : Hid (Blk (v2.setCell ⟨b1, 2, none⟩ (.int .i64 (x2 : Int))) lb 79 (ldQ a bs c (32 + 16) (!(wi (x0 : Int) 0 500 && wi (x1 : Int) 0 500 && wi (x2 : Int) 0 500)))) := by
    have := (But.set b1 2 v2 (.int .i64 (x2 : Int))).blk HQ2.out (Ne.symm hbl)
    rw [← Bool.not_and] at this
    exact this
  have HK3 : Hid (Kp [lb, b1] W1 (v2.setCell ⟨b1, 2, none⟩ (.int .i64 (x2 : Int)))) := HP2.out.trans (Kp.set _ _ _ _ _ (by simp))
  generalize v2.setCell ⟨b1, 2, none⟩ (.int .i64 (x2 : Int)) = V2 at *
  clear HS2 HL2 HK2 HQ2 HP2 HG2
  go_upto_region 6 with (go_at_call 37; refine (HSZ.out V2 48 1 500 (!(wi (x0 : Int) 0 500 && wi (x1 : Int) 0 500 && wi (x2 : Int) 0 500)) (HKB.out _ HK3.out) HL3.out).mono ?_; rintro e v3 ⟨he, h1, h2⟩; rw [HX3.out] at he h2; subst he; have HQ3 := hidden h2; have HP3 : Hid (Kp [lb, b1] W1 v3) := HK3.out.trans (h1.kp (by simp)); have HG3 : Hid (Blk v3 b1 27 #[.int .i64 (x0 : Int), .int .i64 (x1 : Int), .int .i64 (x2 : Int), .int .i64 0, .int .i64 0]) := h1.blk HS3.out hbl; have zc : v3.cell? ⟨b1, 3, none⟩ = some (.int .i64 0) := HG3.out.cell rfl; have zf := HG3.out.frozen 3; clear h1 h2)
  clear zc zf
  have HS4 : Hid (Blk (v3.setCell ⟨b1, 3, none⟩ (.int .i64 (x3 : Int))) b1 27 #[.int .i64 (x0 : Int), .int .i64 (x1 : Int), .int .i64 (x2 : Int), .int .i64 (x3 : Int), .int .i64 0]) := HG3.out.set 3 _
  have HL4 : Hid (Blk (v3.setCell ⟨b1, 3, none⟩ (.int .i64 (x3 : Int))) lb 79 (ldQ a bs c (48 + 16) (!(wi (x0 : Int) 0 500 && wi (x1 : Int) 0 500 && wi (x2 : Int) 0 500 && wi (x3 : Int) 1 500)))) := by
    have := (But.set b1 3 v3 (.int .i64 (x3 : Int))).blk HQ3.out (Ne.symm hbl)
    rw [← Bool.not_and] at this
    exact this
  have HK4 : Hid (Kp [lb, b1] W1 (v3.setCell ⟨b1, 3, none⟩ (.int .i64 (x3 : Int)))) := HP3.out.trans (Kp.set _ _ _ _ _ (by simp))
  generalize v3.setCell ⟨b1, 3, none⟩ (.int .i64 (x3 : Int)) = V3 at *
  clear HS3 HL3 HK3 HQ3 HP3 HG3
  go_upto_region 7 with (go_at_call 37; refine (HSZ.out V3 64 1 100 (!(wi (x0 : Int) 0 500 && wi (x1 : Int) 0 500 && wi (x2 : Int) 0 500 && wi (x3 : Int) 1 500)) (HKB.out _ HK4.out) HL4.out).mono ?_; rintro e v4 ⟨he, h1, h2⟩; rw [HX4.out] at he h2; subst he; have HQ4 := hidden h2; have HP4 : Hid (Kp [lb, b1] W1 v4) := HK4.out.trans (h1.kp (by simp)); have HG4 : Hid (Blk v4 b1 27 #[.int .i64 (x0 : Int), .int .i64 (x1 : Int), .int .i64 (x2 : Int), .int .i64 (x3 : Int), .int .i64 0]) := h1.blk HS4.out hbl; have zc : v4.cell? ⟨b1, 4, none⟩ = some (.int .i64 0) := HG4.out.cell rfl; have zf := HG4.out.frozen 4; clear h1 h2)
  clear zc zf
  have HS5 : Hid (Blk (v4.setCell ⟨b1, 4, none⟩ (.int .i64 (x4 : Int))) b1 27 #[.int .i64 (x0 : Int), .int .i64 (x1 : Int), .int .i64 (x2 : Int), .int .i64 (x3 : Int), .int .i64 (x4 : Int)]) := HG4.out.set 4 _
  have HL5 : Hid (Blk (v4.setCell ⟨b1, 4, none⟩ (.int .i64 (x4 : Int))) lb 79 (ldQ a bs c (64 + 16) (!(wi (x0 : Int) 0 500 && wi (x1 : Int) 0 500 && wi (x2 : Int) 0 500 && wi (x3 : Int) 1 500 && wi (x4 : Int) 1 100)))) := by
    have := (But.set b1 4 v4 (.int .i64 (x4 : Int))).blk HQ4.out (Ne.symm hbl)
    rw [← Bool.not_and] at this
    exact this
  have HK5 : Hid (Kp [lb, b1] W1 (v4.setCell ⟨b1, 4, none⟩ (.int .i64 (x4 : Int)))) := HP4.out.trans (Kp.set _ _ _ _ _ (by simp))
  generalize v4.setCell ⟨b1, 4, none⟩ (.int .i64 (x4 : Int)) = V4 at *
  clear HS4 HL4 HK4 HQ4 HP4 HG4
  have z0 : V4.cell? ⟨b1, 0, none⟩ = some (.int .i64 (x0 : Int)) := HS5.out.cell rfl
  have z1 : V4.cell? ⟨b1, 1, none⟩ = some (.int .i64 (x1 : Int)) := HS5.out.cell rfl
  have z2 : V4.cell? ⟨b1, 2, none⟩ = some (.int .i64 (x2 : Int)) := HS5.out.cell rfl
  have z3 : V4.cell? ⟨b1, 3, none⟩ = some (.int .i64 (x3 : Int)) := HS5.out.cell rfl
  have z4 : V4.cell? ⟨b1, 4, none⟩ = some (.int .i64 (x4 : Int)) := HS5.out.cell rfl
  have HR5 : Hid (Blk V4 b0 27 #[.int .i64 0, .int .i64 0, .int .i64 0, .int .i64 0, .int .i64 0]) := HK5.out.blk HR0.out (by simp; omega)
  have r0 : V4.cell? ⟨b0, 0, none⟩ = some (.int .i64 0) := HR5.out.cell rfl
  have r1 : V4.cell? ⟨b0, 1, none⟩ = some (.int .i64 0) := HR5.out.cell rfl
  have r2 : V4.cell? ⟨b0, 2, none⟩ = some (.int .i64 0) := HR5.out.cell rfl
  have r3 : V4.cell? ⟨b0, 3, none⟩ = some (.int .i64 0) := HR5.out.cell rfl
  have r4 : V4.cell? ⟨b0, 4, none⟩ = some (.int .i64 0) := HR5.out.cell rfl
  have f0 := HR5.out.frozen 0
  have f1 := HR5.out.frozen 1
  have f2 := HR5.out.frozen 2
  have f3 := HR5.out.frozen 3
  have f4 := HR5.out.frozen 4
  go_wp2
  have HR6 : Hid (Blk (((((V4.setCell ⟨b0, 0, none⟩ (.int .i64 (x0 : Int))).setCell ⟨b0, 1, none⟩ (.int .i64 (x1 : Int))).setCell ⟨b0, 2, none⟩ (.int .i64 (x2 : Int))).setCell ⟨b0, 3, none⟩ (.int .i64 (x3 : Int))).setCell ⟨b0, 4, none⟩ (.int .i64 (x4 : Int))) b0 27 #[.int .i64 (x0 : Int), .int .i64 (x1 : Int), .int .i64 (x2 : Int), .int .i64 (x3 : Int), .int .i64 (x4 : Int)]) := ((((HR5.out.set 0 _).set 1 _).set 2 _).set 3 _).set 4 _
  have HB6 : Hid (But b0 V4 (((((V4.setCell ⟨b0, 0, none⟩ (.int .i64 (x0 : Int))).setCell ⟨b0, 1, none⟩ (.int .i64 (x1 : Int))).setCell ⟨b0, 2, none⟩ (.int .i64 (x2 : Int))).setCell ⟨b0, 3, none⟩ (.int .i64 (x3 : Int))).setCell ⟨b0, 4, none⟩ (.int .i64 (x4 : Int)))) := ((((But.set b0 0 _ _).trans (But.set b0 1 _ _)).trans (But.set b0 2 _ _)).trans (But.set b0 3 _ _)).trans (But.set b0 4 _ _)
  generalize (((((V4.setCell ⟨b0, 0, none⟩ (.int .i64 (x0 : Int))).setCell ⟨b0, 1, none⟩ (.int .i64 (x1 : Int))).setCell ⟨b0, 2, none⟩ (.int .i64 (x2 : Int))).setCell ⟨b0, 3, none⟩ (.int .i64 (x3 : Int))).setCell ⟨b0, 4, none⟩ (.int .i64 (x4 : Int))) = X at *
  clear z0 z1 z2 z3 z4 r0 r1 r2 r3 r4 f0 f1 f2 f3 f4
  have z0 : X.cell? ⟨b0, 0, none⟩ = some (.int .i64 (x0 : Int)) := HR6.out.cell rfl
  have z1 : X.cell? ⟨b0, 1, none⟩ = some (.int .i64 (x1 : Int)) := HR6.out.cell rfl
  have z2 : X.cell? ⟨b0, 2, none⟩ = some (.int .i64 (x2 : Int)) := HR6.out.cell rfl
  have z3 : X.cell? ⟨b0, 3, none⟩ = some (.int .i64 (x3 : Int)) := HR6.out.cell rfl
  have z4 : X.cell? ⟨b0, 4, none⟩ = some (.int .i64 (x4 : Int)) := HR6.out.cell rfl
  refine bodyPost_ret (v := .agg #[.int .i64 (x0 : Int), .int .i64 (x1 : Int), .int .i64 (x2 : Int), .int .i64 (x3 : Int), .int .i64 (x4 : Int)]) (by simp [results, Tryd.results29, go_sem, *]) rfl ?_
  refine ⟨rfl, ?_, HB6.out.blk HL5.out (Ne.symm hbl0)⟩
  refine ((((Below.kp HB1.out).trans ((HK5.out).less (hs := [lb, b1, b0]) (fun x hx hn => by simp at hx hn; omega))).trans (HB6.out.kp (by simp))).less (hs := [lb]) (fun x hx hn => ?_)).but
  have := HGW.out
  simp at hx hn
  omega

end Go.Proofs.YtjbnejjjbdalaaaDoor
