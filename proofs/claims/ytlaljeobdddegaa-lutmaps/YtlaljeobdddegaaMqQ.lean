import Derived.Test.YtlaljeobdddegaaMqP
namespace Go.Proofs.Ytlaljeobdddegaa
open Go.RowKit Mp

theorem mkM_one (v : Nat) : mkM [v] = 2 ^ (v % 64) := by
  refine nat_eq (fun i => ?_)
  rw [mkM_bit, Nat.testBit_two_pow]
  have h : v % 64 < 64 := Nat.mod_lt _ (by omega)
  by_cases e : v % 64 = i
  · have : i < 64 := by omega
    simp [e, this]
  · simp [e]
set_option maxRecDepth 100000 in
set_option maxHeartbeats 8000000 in
theorem itself_any (w : World) (v d : Nat) (hv : v ≤ 1000000) :
    Calls Try.prog 56 #[.int .i64 (v : Nat), .int .i64 (d : Nat)] w fun e w' => e = .returned (.agg (ctC ⟨[v], d, 43690⟩).toArray) ∧ Bl w w' := by
  obtain ⟨g, HG⟩ := exh w.heap.size
  have hbk := Blk.new w 114 #[.int .i64 0, .int .i64 0, .int .i64 0, .int .i64 0, .int .i64 0, .int .u64 0, .int .i64 0, .int .u16 0]
  have HB0 : Hid (Below g w (w.alloc (.cells #[.int .i64 0, .int .i64 0, .int .i64 0, .int .i64 0, .int .i64 0, .int .u64 0, .int .i64 0, .int .u16 0] 114))) := by rw [HG.out]; exact (Below.refl w.heap.size w).alloc (Nat.le_refl _) _
  have LF : Hid (∀ u : World, Calls Try.prog 69 #[.int .i64 0] u fun e w' => e = .returned (.int .u16 43690) ∧ w' = u) := fun u => leafTable_any u 0 (by omega)
  have hm := mkM_one v
  have HM := hidden hm
  obtain ⟨q, Hq⟩ := exh (v % 64)
  have hq : q < 64 := by rw [Hq.out]; omega
  have hsh : IntKind.u64.wrap (2 ^ q) = ((mkM [v] : Nat) : Int) := by
    rw [HM.out, ← Hq.out]
    have h1 : (2 : Nat) ^ q ≤ 2 ^ 63 := Nat.pow_le_pow_right (by omega) (by omega)
    have e1 : ((2 : Int) ^ q) = ((2 ^ q : Nat) : Int) := by push_cast; rfl
    rw [e1]
    generalize (2 : Nat) ^ q = r at *
    exact wrapU _ (by omega) (by omega)
  have hsh2 : IntKind.u64.wrap (2 ^ min q 64) = ((mkM [v] : Nat) : Int) := by rw [Nat.min_eq_left (by omega)]; exact hsh
  have hrem : ((v : Int)).tmod 64 = (q : Int) := by rw [Int.tmod_eq_emod_of_nonneg (by omega), Hq.out]; omega
  have hq0 : (0 : Int) ≤ (q : Int) := by omega
  have HQ := hidden hq
  clear hq
  have HF : Hid (∀ u, Below g w u → Bl w u) := fun u hu => by rw [HG.out] at hu; exact hu
  have HE : Hid ((ctC ⟨[v], d, 43690⟩).toArray = #[.int .i64 (v : Nat), .int .i64 0, .int .i64 0, .int .i64 0, .int .i64 1, .int .u64 (mkM [v] : Nat), .int .i64 (d : Nat), .int .u16 43690]) := rfl
  rw [HE.out]
  generalize mkM [v] = M at *
  generalize (43690 : Int) = T at LF ⊢
  clear hm HM HE
  go_enter Try.func56, Try.ntmps56
  go_upto_region 1 with fail
  rw [← HG.out] at hbk ⊢
  generalize w.alloc (.cells #[.int .i64 0, .int .i64 0, .int .i64 0, .int .i64 0, .int .i64 0, .int .u64 0, .int .i64 0, .int .u16 0] 114) = w0 at *
  have f0 : w0.frozen? ⟨g, 0, none⟩ = false := hbk.frozen 0
  have f1 : w0.frozen? ⟨g, 1, none⟩ = false := hbk.frozen 1
  have f2 : w0.frozen? ⟨g, 2, none⟩ = false := hbk.frozen 2
  have f3 : w0.frozen? ⟨g, 3, none⟩ = false := hbk.frozen 3
  have f4 : w0.frozen? ⟨g, 4, none⟩ = false := hbk.frozen 4
  have f5 : w0.frozen? ⟨g, 5, none⟩ = false := hbk.frozen 5
  have f6 : w0.frozen? ⟨g, 6, none⟩ = false := hbk.frozen 6
  have f7 : w0.frozen? ⟨g, 7, none⟩ = false := hbk.frozen 7
  have z0 : w0.cell? ⟨g, 0, none⟩ = some (.int .i64 0) := hbk.cell (i := 0) rfl
  have z1 : w0.cell? ⟨g, 1, none⟩ = some (.int .i64 0) := hbk.cell (i := 1) rfl
  have z2 : w0.cell? ⟨g, 2, none⟩ = some (.int .i64 0) := hbk.cell (i := 2) rfl
  have z3 : w0.cell? ⟨g, 3, none⟩ = some (.int .i64 0) := hbk.cell (i := 3) rfl
  have z4 : w0.cell? ⟨g, 4, none⟩ = some (.int .i64 0) := hbk.cell (i := 4) rfl
  have z5 : w0.cell? ⟨g, 5, none⟩ = some (.int .u64 0) := hbk.cell (i := 5) rfl
  have z6 : w0.cell? ⟨g, 6, none⟩ = some (.int .i64 0) := hbk.cell (i := 6) rfl
  have z7 : w0.cell? ⟨g, 7, none⟩ = some (.int .u16 0) := hbk.cell (i := 7) rfl
  go_wp2_with fail
  refine wp_region_noPanic ?_
  refine wp_region_held_drew (S := fun wz => True) (by kernel_rfl) (by exact True.intro) (fun hHeld => ?_)
  refine tk 0 ?_
  refine tk 1 ?_
  refine tk 2 ?_
  refine tk 3 ?_
  refine tk 4 ?_
  refine tk 5 ?_
  refine rd 6 fun K hK => ?_
  (try simp only [gA, gB, gC]); go_simp
  go_at_call 69
  refine (LF.out w0.drew).mono ?_
  rintro e u ⟨rfl, hu⟩
  rw [hu]
  clear hu u
  go_wp2_with fail
  refine wo hK True.intro fun hHeld2 => ?_
  clear hK K
  refine tk 7 ?_
  refine rd 8 fun K hK => ?_
  (try simp only [gA, gB, gC]); go_simp
  refine wo hK True.intro fun hHeld3 => ?_
  clear hK K
  refine wpAnyH_done (by kernel_rfl) ?_ _
  refine NoPanic.normal ?_
  have hbz := Blk.eight (v0 := .int .i64 (v : Nat)) (v1 := .int .i64 0) (v2 := .int .i64 0) (v3 := .int .i64 0) (v4 := .int .i64 1) (v5 := .int .u64 (M : Nat)) (v6 := .int .i64 (d : Nat)) (v7 := .int .u16 T) hbk
  have HBZ : Hid (Bl w ((((((((w0.setCell ⟨g, 0, none⟩ (.int .i64 (v : Nat))).setCell ⟨g, 1, none⟩ (.int .i64 0)).setCell ⟨g, 2, none⟩ (.int .i64 0)).setCell ⟨g, 3, none⟩ (.int .i64 0)).setCell ⟨g, 4, none⟩ (.int .i64 1)).setCell ⟨g, 5, none⟩ (.int .u64 (M : Nat))).setCell ⟨g, 6, none⟩ (.int .i64 (d : Nat))).setCell ⟨g, 7, none⟩ (.int .u16 T)).drew) := HF.out _ (Below.drew (HB0.out.trans ((But.eight w0 g _ _ _ _ _ _ _ _).below (Nat.le_refl _) (Nat.le_of_lt hbk.lt))))
  have hbz2 : Blk ((((((((w0.setCell ⟨g, 0, none⟩ (.int .i64 (v : Nat))).setCell ⟨g, 1, none⟩ (.int .i64 0)).setCell ⟨g, 2, none⟩ (.int .i64 0)).setCell ⟨g, 3, none⟩ (.int .i64 0)).setCell ⟨g, 4, none⟩ (.int .i64 1)).setCell ⟨g, 5, none⟩ (.int .u64 (M : Nat))).setCell ⟨g, 6, none⟩ (.int .i64 (d : Nat))).setCell ⟨g, 7, none⟩ (.int .u16 T)).drew g 114 #[.int .i64 (v : Nat), .int .i64 0, .int .i64 0, .int .i64 0, .int .i64 1, .int .u64 (M : Nat), .int .i64 (d : Nat), .int .u16 T] := Blk.drew hbz
  clear f0 f1 f2 f3 f4 f5 f6 f7 z0 z1 z2 z3 z4 z5 z6 z7 hbk hbz HB0 hHeld hHeld2 hHeld3
  generalize ((((((((w0.setCell ⟨g, 0, none⟩ (.int .i64 (v : Nat))).setCell ⟨g, 1, none⟩ (.int .i64 0)).setCell ⟨g, 2, none⟩ (.int .i64 0)).setCell ⟨g, 3, none⟩ (.int .i64 0)).setCell ⟨g, 4, none⟩ (.int .i64 1)).setCell ⟨g, 5, none⟩ (.int .u64 (M : Nat))).setCell ⟨g, 6, none⟩ (.int .i64 (d : Nat))).setCell ⟨g, 7, none⟩ (.int .u16 T)).drew = w4 at *
  have y0 : w4.cell? ⟨g, 0, none⟩ = some (.int .i64 (v : Nat)) := hbz2.cell (i := 0) rfl
  have y1 : w4.cell? ⟨g, 1, none⟩ = some (.int .i64 0) := hbz2.cell (i := 1) rfl
  have y2 : w4.cell? ⟨g, 2, none⟩ = some (.int .i64 0) := hbz2.cell (i := 2) rfl
  have y3 : w4.cell? ⟨g, 3, none⟩ = some (.int .i64 0) := hbz2.cell (i := 3) rfl
  have y4 : w4.cell? ⟨g, 4, none⟩ = some (.int .i64 1) := hbz2.cell (i := 4) rfl
  have y5 : w4.cell? ⟨g, 5, none⟩ = some (.int .u64 (M : Nat)) := hbz2.cell (i := 5) rfl
  have y6 : w4.cell? ⟨g, 6, none⟩ = some (.int .i64 (d : Nat)) := hbz2.cell (i := 6) rfl
  have y7 : w4.cell? ⟨g, 7, none⟩ = some (.int .u16 T) := hbz2.cell (i := 7) rfl
  go_wp2_with fail
  refine bodyPost_ret (v := .agg #[.int .i64 (v : Nat), .int .i64 0, .int .i64 0, .int .i64 0, .int .i64 1, .int .u64 (M : Nat), .int .i64 (d : Nat), .int .u16 T]) (by simp [results, Try.results56, go_sem, y0, y1, y2, y3, y4, y5, y6, y7]) rfl ?_
  exact ⟨rfl, HBZ.out⟩
end Go.Proofs.Ytlaljeobdddegaa
