import Derived.Test.YtibjgoigdajkkaaDoorJ44
import Derived.Test.YtibjgoigdajkkaaDoorJ45
namespace Go.Proofs.YtibjgoigdajkkaaDoor
open Go.RowKit

set_option maxRecDepth 100000 in
set_option maxHeartbeats 8000000 in
theorem fit_any (w : World) (B : Nat) (S : NtS) (N : NtD) (h : NtAt B w S N) (hB : B ≤ w.heap.size) (hok : NtOk N = true) (hin : NtIn N) (R1 : InL3 w S.a4 S.c4 N.outs) (R2 : InL3 w S.a3 S.c3 N.next) (hnt : N.tabs.length ≤ 1000000) (sh : ShD) :
    Calls Tryd.prog 7 #[.agg (S.cells N), .agg sh.arr] w fun e w' => ∃ cs ev, e = .returned (.tuple #[.agg cs, ev]) ∧ Below w.heap.size w w' ∧ ((ev = .nilIface ∧ ∃ SC M, cs = CnS.cells SC M ∧ FitD w' N sh SC M) ∨ ∃ p, ev = .iface 60 (.pointer (some ⟨p, 0, none⟩)) ∧ FtAt w' p 17 0 ∧ fitsB sh N = false ∧ cs = #[.int .i64 0, .int .i64 0, .int .i64 0, .int .i64 0, .int .i64 0, .slice none 0 0, .slice none 0 0, .slice none 0 0]) := by
  obtain ⟨x0, x1, x2, x3, x4⟩ := sh
  show Calls Tryd.prog 7 #[.agg #[.int .i64 N.ins, .slice S.a1 N.init.length S.c1, .slice S.a2 N.tabs.length S.c2, .slice S.a3 N.next.length S.c3, .slice S.a4 N.outs.length S.c4], .agg #[.int .i64 x0, .int .i64 x1, .int .i64 x2, .int .i64 x3, .int .i64 x4]] w _
  have HH := hidden h
  have HOK := hidden hok
  have HIN := hidden hin
  have HR1 := hidden R1
  have HR2 := hidden R2
  clear h hok hin R1 R2
  obtain ⟨nb, Enb⟩ := exh w.heap.size
  obtain ⟨sb, Esb⟩ := exh (w.heap.size + 1)
  obtain ⟨rb, Erb⟩ := exh (w.heap.size + 1 + 1)
  have a1 : Below w.heap.size w (w.alloc (.cells #[.int .i64 N.ins, .slice S.a1 N.init.length S.c1, .slice S.a2 N.tabs.length S.c2, .slice S.a3 N.next.length S.c3, .slice S.a4 N.outs.length S.c4] 26)) := (Below.refl _ _).alloc (Nat.le_refl _) _
  have a2 : Below (w.alloc (.cells #[.int .i64 N.ins, .slice S.a1 N.init.length S.c1, .slice S.a2 N.tabs.length S.c2, .slice S.a3 N.next.length S.c3, .slice S.a4 N.outs.length S.c4] 26)).heap.size (w.alloc (.cells #[.int .i64 N.ins, .slice S.a1 N.init.length S.c1, .slice S.a2 N.tabs.length S.c2, .slice S.a3 N.next.length S.c3, .slice S.a4 N.outs.length S.c4] 26)) ((w.alloc (.cells #[.int .i64 N.ins, .slice S.a1 N.init.length S.c1, .slice S.a2 N.tabs.length S.c2, .slice S.a3 N.next.length S.c3, .slice S.a4 N.outs.length S.c4] 26)).alloc (.cells #[.int .i64 x0, .int .i64 x1, .int .i64 x2, .int .i64 x3, .int .i64 x4] 28)) := (Below.refl _ _).alloc (Nat.le_refl _) _
  have a3 : Below ((w.alloc (.cells #[.int .i64 N.ins, .slice S.a1 N.init.length S.c1, .slice S.a2 N.tabs.length S.c2, .slice S.a3 N.next.length S.c3, .slice S.a4 N.outs.length S.c4] 26)).alloc (.cells #[.int .i64 x0, .int .i64 x1, .int .i64 x2, .int .i64 x3, .int .i64 x4] 28)).heap.size ((w.alloc (.cells #[.int .i64 N.ins, .slice S.a1 N.init.length S.c1, .slice S.a2 N.tabs.length S.c2, .slice S.a3 N.next.length S.c3, .slice S.a4 N.outs.length S.c4] 26)).alloc (.cells #[.int .i64 x0, .int .i64 x1, .int .i64 x2, .int .i64 x3, .int .i64 x4] 28)) (((w.alloc (.cells #[.int .i64 N.ins, .slice S.a1 N.init.length S.c1, .slice S.a2 N.tabs.length S.c2, .slice S.a3 N.next.length S.c3, .slice S.a4 N.outs.length S.c4] 26)).alloc (.cells #[.int .i64 x0, .int .i64 x1, .int .i64 x2, .int .i64 x3, .int .i64 x4] 28)).alloc (.cells #[.int .i64 0, .int .i64 0, .int .i64 0, .int .i64 0, .int .i64 0, .slice none 0 0, .slice none 0 0, .slice none 0 0] 36)) := (Below.refl _ _).alloc (Nat.le_refl _) _
  have HB3 : Hid (Below w.heap.size w (((w.alloc (.cells #[.int .i64 N.ins, .slice S.a1 N.init.length S.c1, .slice S.a2 N.tabs.length S.c2, .slice S.a3 N.next.length S.c3, .slice S.a4 N.outs.length S.c4] 26)).alloc (.cells #[.int .i64 x0, .int .i64 x1, .int .i64 x2, .int .i64 x3, .int .i64 x4] 28)).alloc (.cells #[.int .i64 0, .int .i64 0, .int .i64 0, .int .i64 0, .int .i64 0, .slice none 0 0, .slice none 0 0, .slice none 0 0] 36))) := (a1.trans (a2.mono a1.size)).trans (a3.mono (Nat.le_trans a1.size a2.size))
  have HNB : Hid (BoxAt (((w.alloc (.cells #[.int .i64 N.ins, .slice S.a1 N.init.length S.c1, .slice S.a2 N.tabs.length S.c2, .slice S.a3 N.next.length S.c3, .slice S.a4 N.outs.length S.c4] 26)).alloc (.cells #[.int .i64 x0, .int .i64 x1, .int .i64 x2, .int .i64 x3, .int .i64 x4] 28)).alloc (.cells #[.int .i64 0, .int .i64 0, .int .i64 0, .int .i64 0, .int .i64 0, .slice none 0 0, .slice none 0 0, .slice none 0 0] 36)) nb S N) := by
    rw [Enb.out]
    have b1 := BoxAt.new w S N
    have b2 := b1.to b1.lt a2
    exact b2.to b2.lt a3
  have HSB : Hid (Blk (((w.alloc (.cells #[.int .i64 N.ins, .slice S.a1 N.init.length S.c1, .slice S.a2 N.tabs.length S.c2, .slice S.a3 N.next.length S.c3, .slice S.a4 N.outs.length S.c4] 26)).alloc (.cells #[.int .i64 x0, .int .i64 x1, .int .i64 x2, .int .i64 x3, .int .i64 x4] 28)).alloc (.cells #[.int .i64 0, .int .i64 0, .int .i64 0, .int .i64 0, .int .i64 0, .slice none 0 0, .slice none 0 0, .slice none 0 0] 36)) sb 28 #[.int .i64 x0, .int .i64 x1, .int .i64 x2, .int .i64 x3, .int .i64 x4]) := by
    have e : sb = (w.alloc (.cells #[.int .i64 N.ins, .slice S.a1 N.init.length S.c1, .slice S.a2 N.tabs.length S.c2, .slice S.a3 N.next.length S.c3, .slice S.a4 N.outs.length S.c4] 26)).heap.size := by rw [Esb.out]; simp
    rw [e]; exact (Blk.new _ _ _).below a3
  have HRB : Hid (Blk (((w.alloc (.cells #[.int .i64 N.ins, .slice S.a1 N.init.length S.c1, .slice S.a2 N.tabs.length S.c2, .slice S.a3 N.next.length S.c3, .slice S.a4 N.outs.length S.c4] 26)).alloc (.cells #[.int .i64 x0, .int .i64 x1, .int .i64 x2, .int .i64 x3, .int .i64 x4] 28)).alloc (.cells #[.int .i64 0, .int .i64 0, .int .i64 0, .int .i64 0, .int .i64 0, .slice none 0 0, .slice none 0 0, .slice none 0 0] 36)) rb 36 #[.int .i64 0, .int .i64 0, .int .i64 0, .int .i64 0, .int .i64 0, .slice none 0 0, .slice none 0 0, .slice none 0 0]) := by
    have e : rb = ((w.alloc (.cells #[.int .i64 N.ins, .slice S.a1 N.init.length S.c1, .slice S.a2 N.tabs.length S.c2, .slice S.a3 N.next.length S.c3, .slice S.a4 N.outs.length S.c4] 26)).alloc (.cells #[.int .i64 x0, .int .i64 x1, .int .i64 x2, .int .i64 x3, .int .i64 x4] 28)).heap.size := by rw [Erb.out]; simp
    rw [e]; exact Blk.new _ _ _
  have hwn : w.heap.size ≤ nb := by rw [Enb.out]; exact Nat.le_refl _
  have hwr : w.heap.size ≤ rb := by rw [Erb.out]; omega
  clear a1 a2 a3
  go_enter Tryd.func7, Tryd.ntmps7
  go_upto_region 1 with fail
  rename_i Kf hKf Kc hKc
  rw [← Erb.out, ← Esb.out, ← Enb.out]
  generalize (((w.alloc (.cells #[.int .i64 N.ins, .slice S.a1 N.init.length S.c1, .slice S.a2 N.tabs.length S.c2, .slice S.a3 N.next.length S.c3, .slice S.a4 N.outs.length S.c4] 26)).alloc (.cells #[.int .i64 x0, .int .i64 x1, .int .i64 x2, .int .i64 x3, .int .i64 x4] 28)).alloc (.cells #[.int .i64 0, .int .i64 0, .int .i64 0, .int .i64 0, .int .i64 0, .slice none 0 0, .slice none 0 0, .slice none 0 0] 36)) = w3 at *
  have HKF : Hid (∀ (y6 y7 y8 y9 y10 y11 y12 y13 y14 y15 y16 y17 y18 y19 y20 y21 y22 : Value) (w4 : World), Blk w4 rb 36 #[.int .i64 0, .int .i64 0, .int .i64 0, .int .i64 0, .int .i64 0, .slice none 0 0, .slice none 0 0, .slice none 0 0] → Below w.heap.size w w4 → fitsB ⟨x0, x1, x2, x3, x4⟩ N = false → Kf ⟨#[.agg #[.int .i64 N.ins, .slice S.a1 N.init.length S.c1, .slice S.a2 N.tabs.length S.c2, .slice S.a3 N.next.length S.c3, .slice S.a4 N.outs.length S.c4], .agg #[.int .i64 x0, .int .i64 x1, .int .i64 x2, .int .i64 x3, .int .i64 x4], .pointer (some ⟨nb, 0, none⟩), .pointer (some ⟨sb, 0, none⟩), .pointer (some ⟨rb, 0, none⟩), .nilIface, y6, y7, y8, y9, y10, y11, y12, y13, y14, y15, y16, y17, y18, y19, y20, y21, y22, undef, undef, undef, undef], []⟩ w4) := fun y6 y7 y8 y9 y10 y11 y12 y13 y14 y15 y16 y17 y18 y19 y20 y21 y22 w4 hz hb4 hf => by
    refine hKf _ _ ?_
    clear hKf hKc
    have HF := hidden hf
    have HZ := hidden hz
    have HB4 := hidden hb4
    clear hf hz hb4
    go_upto_region 5 with fail
    have hal : Below w4.heap.size w4 (w4.alloc (.cells #[.int .i64 17, .int .i64 0] 62)) := (Below.refl _ _).alloc (Nat.le_refl _) _
    have hft : Blk (w4.alloc (.cells #[.int .i64 17, .int .i64 0] 62)) w4.heap.size 62 #[.int .i64 17, .int .i64 0] := Blk.new _ _ _
    obtain ⟨fp, Efp⟩ := exh w4.heap.size
    obtain ⟨w5, Ew5⟩ := exh (w4.alloc (.cells #[.int .i64 17, .int .i64 0] 62))
    have hrf : rb ≠ fp := by have := HZ.out.lt; rw [Efp.out]; omega
    rw [← Ew5.out] at hal hft
    rw [← Efp.out] at hft
    have b0 := HZ.out.below hal
    have b1 : Blk (w5.setCell ⟨rb, 0, none⟩ (.int .i64 0)) rb 36 #[.int .i64 0, .int .i64 0, .int .i64 0, .int .i64 0, .int .i64 0, .slice none 0 0, .slice none 0 0, .slice none 0 0] := b0.set 0 (.int .i64 0)
    have b2 : Blk ((w5.setCell ⟨rb, 0, none⟩ (.int .i64 0)).setCell ⟨rb, 1, none⟩ (.int .i64 0)) rb 36 #[.int .i64 0, .int .i64 0, .int .i64 0, .int .i64 0, .int .i64 0, .slice none 0 0, .slice none 0 0, .slice none 0 0] := b1.set 1 (.int .i64 0)
    have b3 : Blk (((w5.setCell ⟨rb, 0, none⟩ (.int .i64 0)).setCell ⟨rb, 1, none⟩ (.int .i64 0)).setCell ⟨rb, 2, none⟩ (.int .i64 0)) rb 36 #[.int .i64 0, .int .i64 0, .int .i64 0, .int .i64 0, .int .i64 0, .slice none 0 0, .slice none 0 0, .slice none 0 0] := b2.set 2 (.int .i64 0)
    have b4 : Blk ((((w5.setCell ⟨rb, 0, none⟩ (.int .i64 0)).setCell ⟨rb, 1, none⟩ (.int .i64 0)).setCell ⟨rb, 2, none⟩ (.int .i64 0)).setCell ⟨rb, 3, none⟩ (.int .i64 0)) rb 36 #[.int .i64 0, .int .i64 0, .int .i64 0, .int .i64 0, .int .i64 0, .slice none 0 0, .slice none 0 0, .slice none 0 0] := b3.set 3 (.int .i64 0)
    have b5 : Blk (((((w5.setCell ⟨rb, 0, none⟩ (.int .i64 0)).setCell ⟨rb, 1, none⟩ (.int .i64 0)).setCell ⟨rb, 2, none⟩ (.int .i64 0)).setCell ⟨rb, 3, none⟩ (.int .i64 0)).setCell ⟨rb, 4, none⟩ (.int .i64 0)) rb 36 #[.int .i64 0, .int .i64 0, .int .i64 0, .int .i64 0, .int .i64 0, .slice none 0 0, .slice none 0 0, .slice none 0 0] := b4.set 4 (.int .i64 0)
    have b6 : Blk ((((((w5.setCell ⟨rb, 0, none⟩ (.int .i64 0)).setCell ⟨rb, 1, none⟩ (.int .i64 0)).setCell ⟨rb, 2, none⟩ (.int .i64 0)).setCell ⟨rb, 3, none⟩ (.int .i64 0)).setCell ⟨rb, 4, none⟩ (.int .i64 0)).setCell ⟨rb, 5, none⟩ (.slice none 0 0)) rb 36 #[.int .i64 0, .int .i64 0, .int .i64 0, .int .i64 0, .int .i64 0, .slice none 0 0, .slice none 0 0, .slice none 0 0] := b5.set 5 (.slice none 0 0)
    have b7 : Blk (((((((w5.setCell ⟨rb, 0, none⟩ (.int .i64 0)).setCell ⟨rb, 1, none⟩ (.int .i64 0)).setCell ⟨rb, 2, none⟩ (.int .i64 0)).setCell ⟨rb, 3, none⟩ (.int .i64 0)).setCell ⟨rb, 4, none⟩ (.int .i64 0)).setCell ⟨rb, 5, none⟩ (.slice none 0 0)).setCell ⟨rb, 6, none⟩ (.slice none 0 0)) rb 36 #[.int .i64 0, .int .i64 0, .int .i64 0, .int .i64 0, .int .i64 0, .slice none 0 0, .slice none 0 0, .slice none 0 0] := b6.set 6 (.slice none 0 0)
    have b8 : Blk ((((((((w5.setCell ⟨rb, 0, none⟩ (.int .i64 0)).setCell ⟨rb, 1, none⟩ (.int .i64 0)).setCell ⟨rb, 2, none⟩ (.int .i64 0)).setCell ⟨rb, 3, none⟩ (.int .i64 0)).setCell ⟨rb, 4, none⟩ (.int .i64 0)).setCell ⟨rb, 5, none⟩ (.slice none 0 0)).setCell ⟨rb, 6, none⟩ (.slice none 0 0)).setCell ⟨rb, 7, none⟩ (.slice none 0 0)) rb 36 #[.int .i64 0, .int .i64 0, .int .i64 0, .int .i64 0, .int .i64 0, .slice none 0 0, .slice none 0 0, .slice none 0 0] := b7.set 7 (.slice none 0 0)
    have e0 := b0.cell (i := 0) rfl
    have f0 := b0.frozen 0
    have e1 := b1.cell (i := 1) rfl
    have f1 := b1.frozen 1
    have e2 := b2.cell (i := 2) rfl
    have f2 := b2.frozen 2
    have e3 := b3.cell (i := 3) rfl
    have f3 := b3.frozen 3
    have e4 := b4.cell (i := 4) rfl
    have f4 := b4.frozen 4
    have e5 := b5.cell (i := 5) rfl
    have f5 := b5.frozen 5
    have e6 := b6.cell (i := 6) rfl
    have f6 := b6.frozen 6
    have e7 := b7.cell (i := 7) rfl
    have f7 := b7.frozen 7
    have hbt : But rb w5 ((((((((w5.setCell ⟨rb, 0, none⟩ (.int .i64 0)).setCell ⟨rb, 1, none⟩ (.int .i64 0)).setCell ⟨rb, 2, none⟩ (.int .i64 0)).setCell ⟨rb, 3, none⟩ (.int .i64 0)).setCell ⟨rb, 4, none⟩ (.int .i64 0)).setCell ⟨rb, 5, none⟩ (.slice none 0 0)).setCell ⟨rb, 6, none⟩ (.slice none 0 0)).setCell ⟨rb, 7, none⟩ (.slice none 0 0)) := But.set rb 0 _ _ |>.trans (But.set rb 1 _ _) |>.trans (But.set rb 2 _ _) |>.trans (But.set rb 3 _ _) |>.trans (But.set rb 4 _ _) |>.trans (But.set rb 5 _ _) |>.trans (But.set rb 6 _ _) |>.trans (But.set rb 7 _ _)
    have hB5 : Below w.heap.size w w5 := HB4.out.trans (hal.mono HB4.out.size)
    have HB6 : Hid (Below w.heap.size w ((((((((w5.setCell ⟨rb, 0, none⟩ (.int .i64 0)).setCell ⟨rb, 1, none⟩ (.int .i64 0)).setCell ⟨rb, 2, none⟩ (.int .i64 0)).setCell ⟨rb, 3, none⟩ (.int .i64 0)).setCell ⟨rb, 4, none⟩ (.int .i64 0)).setCell ⟨rb, 5, none⟩ (.slice none 0 0)).setCell ⟨rb, 6, none⟩ (.slice none 0 0)).setCell ⟨rb, 7, none⟩ (.slice none 0 0))) := hB5.trans (hbt.below hwr hB5.size)
    have hft6 := hbt.blk hft (Ne.symm hrf)
    have HFT : Hid (FtAt ((((((((w5.setCell ⟨rb, 0, none⟩ (.int .i64 0)).setCell ⟨rb, 1, none⟩ (.int .i64 0)).setCell ⟨rb, 2, none⟩ (.int .i64 0)).setCell ⟨rb, 3, none⟩ (.int .i64 0)).setCell ⟨rb, 4, none⟩ (.int .i64 0)).setCell ⟨rb, 5, none⟩ (.slice none 0 0)).setCell ⟨rb, 6, none⟩ (.slice none 0 0)).setCell ⟨rb, 7, none⟩ (.slice none 0 0)) fp 17 0) := ⟨hft6.lt, hft6.cell (i := 0) rfl, hft6.cell (i := 1) rfl⟩
    have r0 : ((((((((w5.setCell ⟨rb, 0, none⟩ (.int .i64 0)).setCell ⟨rb, 1, none⟩ (.int .i64 0)).setCell ⟨rb, 2, none⟩ (.int .i64 0)).setCell ⟨rb, 3, none⟩ (.int .i64 0)).setCell ⟨rb, 4, none⟩ (.int .i64 0)).setCell ⟨rb, 5, none⟩ (.slice none 0 0)).setCell ⟨rb, 6, none⟩ (.slice none 0 0)).setCell ⟨rb, 7, none⟩ (.slice none 0 0)).cell? ⟨rb, 0, none⟩ = some (.int .i64 0) := b8.cell (i := 0) rfl
    have r1 : ((((((((w5.setCell ⟨rb, 0, none⟩ (.int .i64 0)).setCell ⟨rb, 1, none⟩ (.int .i64 0)).setCell ⟨rb, 2, none⟩ (.int .i64 0)).setCell ⟨rb, 3, none⟩ (.int .i64 0)).setCell ⟨rb, 4, none⟩ (.int .i64 0)).setCell ⟨rb, 5, none⟩ (.slice none 0 0)).setCell ⟨rb, 6, none⟩ (.slice none 0 0)).setCell ⟨rb, 7, none⟩ (.slice none 0 0)).cell? ⟨rb, 1, none⟩ = some (.int .i64 0) := b8.cell (i := 1) rfl
    have r2 : ((((((((w5.setCell ⟨rb, 0, none⟩ (.int .i64 0)).setCell ⟨rb, 1, none⟩ (.int .i64 0)).setCell ⟨rb, 2, none⟩ (.int .i64 0)).setCell ⟨rb, 3, none⟩ (.int .i64 0)).setCell ⟨rb, 4, none⟩ (.int .i64 0)).setCell ⟨rb, 5, none⟩ (.slice none 0 0)).setCell ⟨rb, 6, none⟩ (.slice none 0 0)).setCell ⟨rb, 7, none⟩ (.slice none 0 0)).cell? ⟨rb, 2, none⟩ = some (.int .i64 0) := b8.cell (i := 2) rfl
    have r3 : ((((((((w5.setCell ⟨rb, 0, none⟩ (.int .i64 0)).setCell ⟨rb, 1, none⟩ (.int .i64 0)).setCell ⟨rb, 2, none⟩ (.int .i64 0)).setCell ⟨rb, 3, none⟩ (.int .i64 0)).setCell ⟨rb, 4, none⟩ (.int .i64 0)).setCell ⟨rb, 5, none⟩ (.slice none 0 0)).setCell ⟨rb, 6, none⟩ (.slice none 0 0)).setCell ⟨rb, 7, none⟩ (.slice none 0 0)).cell? ⟨rb, 3, none⟩ = some (.int .i64 0) := b8.cell (i := 3) rfl
    have r4 : ((((((((w5.setCell ⟨rb, 0, none⟩ (.int .i64 0)).setCell ⟨rb, 1, none⟩ (.int .i64 0)).setCell ⟨rb, 2, none⟩ (.int .i64 0)).setCell ⟨rb, 3, none⟩ (.int .i64 0)).setCell ⟨rb, 4, none⟩ (.int .i64 0)).setCell ⟨rb, 5, none⟩ (.slice none 0 0)).setCell ⟨rb, 6, none⟩ (.slice none 0 0)).setCell ⟨rb, 7, none⟩ (.slice none 0 0)).cell? ⟨rb, 4, none⟩ = some (.int .i64 0) := b8.cell (i := 4) rfl
    have r5 : ((((((((w5.setCell ⟨rb, 0, none⟩ (.int .i64 0)).setCell ⟨rb, 1, none⟩ (.int .i64 0)).setCell ⟨rb, 2, none⟩ (.int .i64 0)).setCell ⟨rb, 3, none⟩ (.int .i64 0)).setCell ⟨rb, 4, none⟩ (.int .i64 0)).setCell ⟨rb, 5, none⟩ (.slice none 0 0)).setCell ⟨rb, 6, none⟩ (.slice none 0 0)).setCell ⟨rb, 7, none⟩ (.slice none 0 0)).cell? ⟨rb, 5, none⟩ = some (.slice none 0 0) := b8.cell (i := 5) rfl
    have r6 : ((((((((w5.setCell ⟨rb, 0, none⟩ (.int .i64 0)).setCell ⟨rb, 1, none⟩ (.int .i64 0)).setCell ⟨rb, 2, none⟩ (.int .i64 0)).setCell ⟨rb, 3, none⟩ (.int .i64 0)).setCell ⟨rb, 4, none⟩ (.int .i64 0)).setCell ⟨rb, 5, none⟩ (.slice none 0 0)).setCell ⟨rb, 6, none⟩ (.slice none 0 0)).setCell ⟨rb, 7, none⟩ (.slice none 0 0)).cell? ⟨rb, 6, none⟩ = some (.slice none 0 0) := b8.cell (i := 6) rfl
    have r7 : ((((((((w5.setCell ⟨rb, 0, none⟩ (.int .i64 0)).setCell ⟨rb, 1, none⟩ (.int .i64 0)).setCell ⟨rb, 2, none⟩ (.int .i64 0)).setCell ⟨rb, 3, none⟩ (.int .i64 0)).setCell ⟨rb, 4, none⟩ (.int .i64 0)).setCell ⟨rb, 5, none⟩ (.slice none 0 0)).setCell ⟨rb, 6, none⟩ (.slice none 0 0)).setCell ⟨rb, 7, none⟩ (.slice none 0 0)).cell? ⟨rb, 7, none⟩ = some (.slice none 0 0) := b8.cell (i := 7) rfl
    rw [Ew5.out] at e0 e1 e2 e3 e4 e5 e6 e7 f0 f1 f2 f3 f4 f5 f6 f7 r0 r1 r2 r3 r4 r5 r6 r7 HFT HB6
    rw [Efp.out] at HFT
    clear b0 b1 b2 b3 b4 b5 b6 b7 b8 hbt hft hft6 hal HZ HB4 hB5
    go_wp2
    generalize (((((((((w4.alloc (.cells #[.int .i64 17, .int .i64 0] 62)).setCell ⟨rb, 0, none⟩ (.int .i64 0)).setCell ⟨rb, 1, none⟩ (.int .i64 0)).setCell ⟨rb, 2, none⟩ (.int .i64 0)).setCell ⟨rb, 3, none⟩ (.int .i64 0)).setCell ⟨rb, 4, none⟩ (.int .i64 0)).setCell ⟨rb, 5, none⟩ (.slice none 0 0)).setCell ⟨rb, 6, none⟩ (.slice none 0 0)).setCell ⟨rb, 7, none⟩ (.slice none 0 0)) = X at HFT HB6 r0 r1 r2 r3 r4 r5 r6 r7 ⊢
    refine bodyPost_ret (v := .tuple #[.agg #[.int .i64 0, .int .i64 0, .int .i64 0, .int .i64 0, .int .i64 0, .slice none 0 0, .slice none 0 0, .slice none 0 0], .iface 60 (.pointer (some ⟨w4.heap.size, 0, none⟩))]) (by simp [results, Tryd.results7, go_sem, r0, r1, r2, r3, r4, r5, r6, r7]) rfl ?_
    exact ⟨_, _, rfl, HB6.out, Or.inr ⟨_, rfl, HFT.out, HF.out, rfl⟩⟩
  clear hKf
  have HVL := hidden (valid_any B w3 S N (HH.out.to (HB3.out.mono hB)) (Nat.le_trans hB HB3.out.size))
  rw [HOK.out] at HVL
  unfold NtS.cells at HVL
  have HBX : Hid (∀ v : World, Below w3.heap.size w3 v → v.cell? ⟨nb, 0, none⟩ = some (.int .i64 N.ins) ∧ v.cell? ⟨nb, 1, none⟩ = some (.slice S.a1 N.init.length S.c1) ∧ v.cell? ⟨nb, 2, none⟩ = some (.slice S.a2 N.tabs.length S.c2) ∧ v.cell? ⟨nb, 3, none⟩ = some (.slice S.a3 N.next.length S.c3) ∧ v.cell? ⟨nb, 4, none⟩ = some (.slice S.a4 N.outs.length S.c4)) := fun v hv => by
    have := HNB.out.to HNB.out.lt hv
    exact ⟨this.c0, this.c1, this.c2, this.c3, this.c4⟩
  have HSX : Hid (∀ v : World, Below w3.heap.size w3 v → v.cell? ⟨sb, 0, none⟩ = some (.int .i64 x0) ∧ v.cell? ⟨sb, 1, none⟩ = some (.int .i64 x1) ∧ v.cell? ⟨sb, 2, none⟩ = some (.int .i64 x2) ∧ v.cell? ⟨sb, 3, none⟩ = some (.int .i64 x3) ∧ v.cell? ⟨sb, 4, none⟩ = some (.int .i64 x4)) := fun v hv => by
    have := HSB.out.below hv
    exact ⟨this.cell (i := 0) rfl, this.cell (i := 1) rfl, this.cell (i := 2) rfl, this.cell (i := 3) rfl, this.cell (i := 4) rfl⟩
  obtain ⟨n0, n1, n2, n3, n4⟩ := HBX.out w3 (Below.refl _ _)
  go_wp2_with fail
  go_at_call 16
  refine HVL.out.mono ?_
  rintro e w4 ⟨rfl, hb4⟩
  have HB4 := hidden hb4
  clear hb4 HVL n0 n1 n2 n3 n4
  obtain ⟨s0, s1, s2, s3, s4⟩ := HSX.out w4 HB4.out
  have HIS := hidden (isShape_any w4 ⟨x0, x1, x2, x3, x4⟩)
  unfold ShD.arr at HIS
  cases hso : (⟨x0, x1, x2, x3, x4⟩ : ShD).ok with
  | false =>
    rw [hso] at HIS
    have hff : fitsB ⟨x0, x1, x2, x3, x4⟩ N = false := by unfold fitsB; rw [hso]; rfl
    have HFF := hidden hff
    clear hff hso
    go_wp2_with fail
    go_at_call 17
    refine HIS.out.mono ?_
    rintro e w5 ⟨rfl, hb5⟩
    have hb5' : Below w3.heap.size w3 w5 := HB4.out.trans (hb5.mono HB4.out.size)
    have HB5 := hidden (HB3.out.trans (hb5'.mono HB3.out.size))
    have HRB5 := hidden (HRB.out.below hb5')
    clear hb5 hb5' HIS s0 s1 s2 s3 s4
    go_wp2
    exact HKF.out _ _ _ _ _ _ _ _ _ _ _ _ _ _ _ _ _ _ HRB5.out HB5.out HFF.out
  | true =>
    rw [hso] at HIS
    have HSO := hidden hso
    clear hso
    go_wp2_with fail
    go_at_call 17
    refine HIS.out.mono ?_
    rintro e w5 ⟨rfl, hb5⟩
    have HB5 : Hid (Below w3.heap.size w3 w5) := HB4.out.trans (hb5.mono HB4.out.size)
    clear hb5 HIS s0 s1 s2 s3 s4 HB4
    obtain ⟨s0, s1, s2, s3, s4⟩ := HSX.out w5 HB5.out
    have HBW5 := hidden (HB3.out.trans (HB5.out.mono HB3.out.size))
    have HIL := hidden (isLarge_any w5 nb B S N (HNB.out.to HNB.out.lt HB5.out) (HH.out.to (HBW5.out.mono hB)) (Nat.le_trans hB HBW5.out.size) HOK.out HIN.out ⟨x0, x1, x2, x3, x4⟩)
    unfold ShD.arr at HIL
    cases hlr : larN ⟨x0, x1, x2, x3, x4⟩ N with
    | false =>
      rw [hlr] at HIL
      have hff : fitsB ⟨x0, x1, x2, x3, x4⟩ N = false := by
        cases hf : fitsB ⟨x0, x1, x2, x3, x4⟩ N with
        | false => rfl
        | true =>
          unfold fitsB at hf
          simp only [Bool.and_eq_true, decide_eq_true_eq] at hf
          have h5 := hf.1.2
          have : larN ⟨x0, x1, x2, x3, x4⟩ N = true := by
            unfold larN
            rw [decide_eq_true hf.1.1.1.1.2, decide_eq_true hf.1.1.1.2, decide_eq_true hf.1.1.2, decide_eq_true (by show depN N ≤ x4; unfold mostI at h5; split at h5 <;> omega)]; rfl
          rw [this] at hlr; cases hlr
      have HFF := hidden hff
      clear hff hlr
      go_wp2_with fail
      go_at_call 18
      refine HIL.out.mono ?_
      rintro e w6 ⟨rfl, hb6⟩
      have hb6' : Below w3.heap.size w3 w6 := HB5.out.trans (hb6.mono HB5.out.size)
      have HB6 := hidden (HB3.out.trans (hb6'.mono HB3.out.size))
      have HRB6 := hidden (HRB.out.below hb6')
      clear hb6 hb6' HIL s0 s1 s2 s3 s4
      go_wp2
      exact HKF.out _ _ _ _ _ _ _ _ _ _ _ _ _ _ _ _ _ _ HRB6.out HB6.out HFF.out
    | true =>
      rw [hlr] at HIL
      have HLR := hidden hlr
      clear hlr
      go_wp2_with fail
      go_at_call 18
      refine HIL.out.mono ?_
      rintro e w6 ⟨rfl, hb6⟩
      have HB6 : Hid (Below w3.heap.size w3 w6) := HB5.out.trans (hb6.mono HB5.out.size)
      clear hb6 HIL s0 s1 s2 s3 s4 HB5 HBW5
      obtain ⟨s0, s1, s2, s3, s4⟩ := HSX.out w6 HB6.out
      have HBW6 := hidden (HB3.out.trans (HB6.out.mono HB3.out.size))
      have hl := HLR.out
      unfold larN at hl
      simp only [Bool.and_eq_true, decide_eq_true_eq] at hl
      have ho := HSO.out
      unfold ShD.ok wi at ho
      simp only [Bool.and_eq_true, decide_eq_true_eq] at ho
      have hi0 := HIN.out.i0
      obtain ⟨ni, Eni⟩ : ∃ k : Nat, Hid (N.ins = k) := ⟨N.ins.toNat, by show _ = _; omega⟩
      obtain ⟨nr, Enr⟩ := exh N.init.length
      obtain ⟨nt, Ent⟩ := exh N.tabs.length
      obtain ⟨cc, Ecc⟩ : ∃ k : Nat, Hid (x4 = k) := ⟨x4.toNat, by show _ = _; omega⟩
      have hF : N.first = ((2 + ni + nr : Nat) : Int) := by unfold NtD.first; rw [Eni.out, Enr.out]; omega
      have hni : ni ≤ 500 := by have := Eni.out; omega
      have hnr : nr ≤ 500 := by have := Enr.out; omega
      have hnl := HIN.out.nl
      have hnk := needK_len N (2 + ni + nr) (2 + ni + nr + nt)
      have hnt2 : nt ≤ 1000000 := by rw [Ent.out]; exact hnt
      have HNP := hidden (newPlan_any w6 nb B S N (HNB.out.to HNB.out.lt HB6.out) (HH.out.to (HBW6.out.mono hB)) (Nat.le_trans hB HBW6.out.size) (HR1.out.to HBW6.out) (HR2.out.to HBW6.out) HIN.out (2 + ni + nr) nt (2 + ni + nr + nt) hF Ent.out.symm rfl (by omega) (by omega) (by omega) (by omega) ⟨x0, x1, x2, x3, x4⟩ cc ⟨Ecc.out, by have := Ecc.out; omega, by have := Ecc.out; omega⟩ ho.1.2)
      unfold ShD.arr at HNP
      have HL2 := hidden hl
      have HO2 := hidden ho
      have HFE := hidden hF
      clear hl ho hF hi0 hnl hnk
      go_wp2_with fail
      go_at_call 19
      refine HNP.out.mono ?_
      rintro e w7 ⟨D, rfl, hraw, hnew, hdn, hdsh, hdcc, hge, hb7⟩
      have HPN := hidden (new_net hnew HIN.out HFE.out (by rw [← Ent.out]) (by omega) Eni.out Enr.out.symm)
      have HPO := hidden (new_ok hnew HIN.out HFE.out (by rw [← Ent.out]))
      have HLV := hidden (new_lv hnew HIN.out HFE.out (by rw [← Ent.out]) (by rw [hdcc, ← Ecc.out]; exact HL2.out.2))
      have HSE := hidden (settle_any D w7 _ _ _ hraw _ HLV.out HPO.out w6.heap.size ⟨hge.1, hge.2.1, hge.2.2.1⟩)
      have HB7 : Hid (Below w6.heap.size w6 w7) := hb7
      have HDN := hidden hdn
      have HDS := hidden hdsh
      clear hraw hnew hdn hdsh hdcc hge hb7 HNP s0 s1 s2 s3 s4
      obtain ⟨pb, Epb⟩ := exh D.pb
      rw [← Epb.out] at HSE
      rw [← Epb.out]
      go_wp2_with fail
      go_at_call 20
      refine HSE.out.mono ?_
      rintro e w8 ⟨r, rfl, hgood, hmust, hb8⟩
      have HB8 : Hid (Below w6.heap.size w6 w8) := HB7.out.trans hb8
      have HB83 := hidden (HB6.out.trans (HB8.out.mono HB6.out.size))
      have HBW8 := hidden (HB3.out.trans (HB83.out.mono HB3.out.size))
      have HRB8 := hidden (HRB.out.below HB83.out)
      have HGD := hidden hgood
      have HMU := hidden hmust
      clear hb8 hgood hmust HSE HB7
      cases r with
      | false =>
        have hff : fitsB ⟨x0, x1, x2, x3, x4⟩ N = false := by
          cases hf : fitsB ⟨x0, x1, x2, x3, x4⟩ N with
          | false => rfl
          | true =>
            unfold fitsB at hf
            simp only [Bool.and_eq_true, decide_eq_true_eq] at hf
            have h6 := hf.2
            have h7 := HPN.out.nle
            have := HMU.out (by rw [HDS.out]; rw [Eni.out] at h6; show (D.n : Int) ≤ x3; have := Enr.out; omega)
            cases this
        have HFF := hidden hff
        clear hff HGD HMU
        go_wp2
        exact HKF.out _ _ _ _ _ _ _ _ _ _ _ _ _ _ _ _ _ _ HRB8.out HBW8.out HFF.out
      | true =>
        obtain ⟨T, hpt, hgd, hspr⟩ := HGD.out rfl
        obtain ⟨si, Esi⟩ : ∃ k : Nat, Hid (x0 = k) := ⟨x0.toNat, by have := HO2.out; show _ = _; omega⟩
        obtain ⟨so, Eso⟩ : ∃ k : Nat, Hid (x1 = k) := ⟨x1.toNat, by have := HO2.out; show _ = _; omega⟩
        obtain ⟨rr, Err⟩ : ∃ k : Nat, Hid (x2 = k) := ⟨x2.toNat, by have := HO2.out; show _ = _; omega⟩
        obtain ⟨rows, Erw⟩ : ∃ k : Nat, Hid (x3 = k) := ⟨x3.toNat, by have := HO2.out; show _ = _; omega⟩
        have g1 : D.sh.ins = si := by rw [HDS.out]; exact Esi.out
        have g2 : D.sh.regs = rr := by rw [HDS.out]; exact Err.out
        have g3 : D.sh.outs = so := by rw [HDS.out]; exact Eso.out
        have g4 : D.sh.rows = rows := by rw [HDS.out]; exact Erw.out
        have hl2 := HL2.out
        have ho2 := HO2.out
        rw [Esi.out, Eso.out, Err.out, Eni.out, ← Enr.out] at hl2
        rw [Esi.out, Eso.out, Err.out] at ho2
        have hsg : N.sigs ≤ 4000000 := by unfold NtD.sigs; rw [HFE.out, ← Ent.out]; omega
        have HLA := hidden (laid_any D T w8 hpt B S N (HH.out.to (HBW8.out.mono hB)) (Nat.le_trans hB HBW8.out.size) (by rw [HDN.out]; exact HNB.out.to HNB.out.lt HB83.out) HIN.out ni si nr rr so rows HPN.out hgd hspr g1 g2 g3 g4 (by omega) (by omega) (by omega) (by omega) (by omega) (by omega) hsg)
        have HFD : Hid (∀ (v : World) (SC : CnS) (M : CnD), CnAt v.heap.size v SC M → LaidP D T N ni si nr rr so rows M → FitD v N ⟨x0, x1, x2, x3, x4⟩ SC M) := fun v SC M h1 h2 => by
          rw [← HDS.out]
          exact FitD.of h1 h2 HOK.out HIN.out HPN.out hgd hspr ⟨hpt.bs.cc.1, hpt.bs.cc.2.1⟩ hpt.bs.insn (by rw [HDS.out]; exact HSO.out) (by omega) (by omega) (by omega) g4 g2 g3
        rw [← Epb.out] at HLA
        clear hpt hgd hspr g1 g2 g3 g4 hl2 ho2 hsg HGD HMU
        go_wp2_with fail
        go_at_call 21
        refine HLA.out.mono ?_
        rintro e w9 ⟨SC, M, rfl, hcn, hlp, hb9⟩
        have hRB9 : Blk w9 rb 36 #[.int .i64 0, .int .i64 0, .int .i64 0, .int .i64 0, .int .i64 0, .slice none 0 0, .slice none 0 0, .slice none 0 0] := HRB8.out.below hb9
        have hBW9 : Below w.heap.size w w9 := HBW8.out.trans (hb9.mono HBW8.out.size)
        have hr8 := HRB8.out.lt
        have HCN : Hid (∀ v : World, But rb w9 v → FitD v N ⟨x0, x1, x2, x3, x4⟩ SC M) := fun v hv => HFD.out v SC M (hcn v hv.size (fun k h1 h2 => hv.block k h2 (by omega))) hlp
        have HBW9 := hidden hBW9
        obtain ⟨qa, qb, qc, qd, qe, qf⟩ := SC
        have HCE : Hid (CnS.cells ⟨qa, qb, qc, qd, qe, qf⟩ M = #[.int .i64 M.sh.ins, .int .i64 M.sh.outs, .int .i64 M.sh.regs, .int .i64 M.sh.rows, .int .i64 M.sh.cols, .slice qa M.cols.length qb, .slice qc M.regs.length qd, .slice qe M.outs.length qf]) := rfl
        rw [HCE.out]
        obtain ⟨q0, E0⟩ := exh M.sh.ins
        obtain ⟨q1, E1⟩ := exh M.sh.outs
        obtain ⟨q2, E2⟩ := exh M.sh.regs
        obtain ⟨q3, E3⟩ := exh M.sh.rows
        obtain ⟨q4, E4⟩ := exh M.sh.cols
        obtain ⟨q5, E5⟩ := exh M.cols.length
        obtain ⟨q6, E6⟩ := exh M.regs.length
        obtain ⟨q7, E7⟩ := exh M.outs.length
        rw [← E0.out, ← E1.out, ← E2.out, ← E3.out, ← E4.out, ← E5.out, ← E6.out, ← E7.out] at HCE ⊢
        have b0 := hRB9
        have b1 : Blk (w9.setCell ⟨rb, 0, none⟩ (.int .i64 q0)) rb 36 #[.int .i64 q0, .int .i64 0, .int .i64 0, .int .i64 0, .int .i64 0, .slice none 0 0, .slice none 0 0, .slice none 0 0] := b0.set 0 (.int .i64 q0)
        have b2 : Blk ((w9.setCell ⟨rb, 0, none⟩ (.int .i64 q0)).setCell ⟨rb, 1, none⟩ (.int .i64 q1)) rb 36 #[.int .i64 q0, .int .i64 q1, .int .i64 0, .int .i64 0, .int .i64 0, .slice none 0 0, .slice none 0 0, .slice none 0 0] := b1.set 1 (.int .i64 q1)
        have b3 : Blk (((w9.setCell ⟨rb, 0, none⟩ (.int .i64 q0)).setCell ⟨rb, 1, none⟩ (.int .i64 q1)).setCell ⟨rb, 2, none⟩ (.int .i64 q2)) rb 36 #[.int .i64 q0, .int .i64 q1, .int .i64 q2, .int .i64 0, .int .i64 0, .slice none 0 0, .slice none 0 0, .slice none 0 0] := b2.set 2 (.int .i64 q2)
        have b4 : Blk ((((w9.setCell ⟨rb, 0, none⟩ (.int .i64 q0)).setCell ⟨rb, 1, none⟩ (.int .i64 q1)).setCell ⟨rb, 2, none⟩ (.int .i64 q2)).setCell ⟨rb, 3, none⟩ (.int .i64 q3)) rb 36 #[.int .i64 q0, .int .i64 q1, .int .i64 q2, .int .i64 q3, .int .i64 0, .slice none 0 0, .slice none 0 0, .slice none 0 0] := b3.set 3 (.int .i64 q3)
        have b5 : Blk (((((w9.setCell ⟨rb, 0, none⟩ (.int .i64 q0)).setCell ⟨rb, 1, none⟩ (.int .i64 q1)).setCell ⟨rb, 2, none⟩ (.int .i64 q2)).setCell ⟨rb, 3, none⟩ (.int .i64 q3)).setCell ⟨rb, 4, none⟩ (.int .i64 q4)) rb 36 #[.int .i64 q0, .int .i64 q1, .int .i64 q2, .int .i64 q3, .int .i64 q4, .slice none 0 0, .slice none 0 0, .slice none 0 0] := b4.set 4 (.int .i64 q4)
        have b6 : Blk ((((((w9.setCell ⟨rb, 0, none⟩ (.int .i64 q0)).setCell ⟨rb, 1, none⟩ (.int .i64 q1)).setCell ⟨rb, 2, none⟩ (.int .i64 q2)).setCell ⟨rb, 3, none⟩ (.int .i64 q3)).setCell ⟨rb, 4, none⟩ (.int .i64 q4)).setCell ⟨rb, 5, none⟩ (.slice qa q5 qb)) rb 36 #[.int .i64 q0, .int .i64 q1, .int .i64 q2, .int .i64 q3, .int .i64 q4, .slice qa q5 qb, .slice none 0 0, .slice none 0 0] := b5.set 5 (.slice qa q5 qb)
        have b7 : Blk (((((((w9.setCell ⟨rb, 0, none⟩ (.int .i64 q0)).setCell ⟨rb, 1, none⟩ (.int .i64 q1)).setCell ⟨rb, 2, none⟩ (.int .i64 q2)).setCell ⟨rb, 3, none⟩ (.int .i64 q3)).setCell ⟨rb, 4, none⟩ (.int .i64 q4)).setCell ⟨rb, 5, none⟩ (.slice qa q5 qb)).setCell ⟨rb, 6, none⟩ (.slice qc q6 qd)) rb 36 #[.int .i64 q0, .int .i64 q1, .int .i64 q2, .int .i64 q3, .int .i64 q4, .slice qa q5 qb, .slice qc q6 qd, .slice none 0 0] := b6.set 6 (.slice qc q6 qd)
        have b8 : Blk ((((((((w9.setCell ⟨rb, 0, none⟩ (.int .i64 q0)).setCell ⟨rb, 1, none⟩ (.int .i64 q1)).setCell ⟨rb, 2, none⟩ (.int .i64 q2)).setCell ⟨rb, 3, none⟩ (.int .i64 q3)).setCell ⟨rb, 4, none⟩ (.int .i64 q4)).setCell ⟨rb, 5, none⟩ (.slice qa q5 qb)).setCell ⟨rb, 6, none⟩ (.slice qc q6 qd)).setCell ⟨rb, 7, none⟩ (.slice qe q7 qf)) rb 36 #[.int .i64 q0, .int .i64 q1, .int .i64 q2, .int .i64 q3, .int .i64 q4, .slice qa q5 qb, .slice qc q6 qd, .slice qe q7 qf] := b7.set 7 (.slice qe q7 qf)
        have e0 := b0.cell (i := 0) rfl
        have f0 := b0.frozen 0
        have e1 := b1.cell (i := 1) rfl
        have f1 := b1.frozen 1
        have e2 := b2.cell (i := 2) rfl
        have f2 := b2.frozen 2
        have e3 := b3.cell (i := 3) rfl
        have f3 := b3.frozen 3
        have e4 := b4.cell (i := 4) rfl
        have f4 := b4.frozen 4
        have e5 := b5.cell (i := 5) rfl
        have f5 := b5.frozen 5
        have e6 := b6.cell (i := 6) rfl
        have f6 := b6.frozen 6
        have e7 := b7.cell (i := 7) rfl
        have f7 := b7.frozen 7
        have hbt : But rb w9 ((((((((w9.setCell ⟨rb, 0, none⟩ (.int .i64 q0)).setCell ⟨rb, 1, none⟩ (.int .i64 q1)).setCell ⟨rb, 2, none⟩ (.int .i64 q2)).setCell ⟨rb, 3, none⟩ (.int .i64 q3)).setCell ⟨rb, 4, none⟩ (.int .i64 q4)).setCell ⟨rb, 5, none⟩ (.slice qa q5 qb)).setCell ⟨rb, 6, none⟩ (.slice qc q6 qd)).setCell ⟨rb, 7, none⟩ (.slice qe q7 qf)) := But.set rb 0 _ _ |>.trans (But.set rb 1 _ _) |>.trans (But.set rb 2 _ _) |>.trans (But.set rb 3 _ _) |>.trans (But.set rb 4 _ _) |>.trans (But.set rb 5 _ _) |>.trans (But.set rb 6 _ _) |>.trans (But.set rb 7 _ _)
        have HFI := hidden (HCN.out _ hbt)
        have HBX9 : Hid (Below w.heap.size w ((((((((w9.setCell ⟨rb, 0, none⟩ (.int .i64 q0)).setCell ⟨rb, 1, none⟩ (.int .i64 q1)).setCell ⟨rb, 2, none⟩ (.int .i64 q2)).setCell ⟨rb, 3, none⟩ (.int .i64 q3)).setCell ⟨rb, 4, none⟩ (.int .i64 q4)).setCell ⟨rb, 5, none⟩ (.slice qa q5 qb)).setCell ⟨rb, 6, none⟩ (.slice qc q6 qd)).setCell ⟨rb, 7, none⟩ (.slice qe q7 qf))) := HBW9.out.trans (hbt.below hwr HBW9.out.size)
        have r0 : ((((((((w9.setCell ⟨rb, 0, none⟩ (.int .i64 q0)).setCell ⟨rb, 1, none⟩ (.int .i64 q1)).setCell ⟨rb, 2, none⟩ (.int .i64 q2)).setCell ⟨rb, 3, none⟩ (.int .i64 q3)).setCell ⟨rb, 4, none⟩ (.int .i64 q4)).setCell ⟨rb, 5, none⟩ (.slice qa q5 qb)).setCell ⟨rb, 6, none⟩ (.slice qc q6 qd)).setCell ⟨rb, 7, none⟩ (.slice qe q7 qf)).cell? ⟨rb, 0, none⟩ = some (.int .i64 q0) := b8.cell (i := 0) rfl
        have r1 : ((((((((w9.setCell ⟨rb, 0, none⟩ (.int .i64 q0)).setCell ⟨rb, 1, none⟩ (.int .i64 q1)).setCell ⟨rb, 2, none⟩ (.int .i64 q2)).setCell ⟨rb, 3, none⟩ (.int .i64 q3)).setCell ⟨rb, 4, none⟩ (.int .i64 q4)).setCell ⟨rb, 5, none⟩ (.slice qa q5 qb)).setCell ⟨rb, 6, none⟩ (.slice qc q6 qd)).setCell ⟨rb, 7, none⟩ (.slice qe q7 qf)).cell? ⟨rb, 1, none⟩ = some (.int .i64 q1) := b8.cell (i := 1) rfl
        have r2 : ((((((((w9.setCell ⟨rb, 0, none⟩ (.int .i64 q0)).setCell ⟨rb, 1, none⟩ (.int .i64 q1)).setCell ⟨rb, 2, none⟩ (.int .i64 q2)).setCell ⟨rb, 3, none⟩ (.int .i64 q3)).setCell ⟨rb, 4, none⟩ (.int .i64 q4)).setCell ⟨rb, 5, none⟩ (.slice qa q5 qb)).setCell ⟨rb, 6, none⟩ (.slice qc q6 qd)).setCell ⟨rb, 7, none⟩ (.slice qe q7 qf)).cell? ⟨rb, 2, none⟩ = some (.int .i64 q2) := b8.cell (i := 2) rfl
        have r3 : ((((((((w9.setCell ⟨rb, 0, none⟩ (.int .i64 q0)).setCell ⟨rb, 1, none⟩ (.int .i64 q1)).setCell ⟨rb, 2, none⟩ (.int .i64 q2)).setCell ⟨rb, 3, none⟩ (.int .i64 q3)).setCell ⟨rb, 4, none⟩ (.int .i64 q4)).setCell ⟨rb, 5, none⟩ (.slice qa q5 qb)).setCell ⟨rb, 6, none⟩ (.slice qc q6 qd)).setCell ⟨rb, 7, none⟩ (.slice qe q7 qf)).cell? ⟨rb, 3, none⟩ = some (.int .i64 q3) := b8.cell (i := 3) rfl
        have r4 : ((((((((w9.setCell ⟨rb, 0, none⟩ (.int .i64 q0)).setCell ⟨rb, 1, none⟩ (.int .i64 q1)).setCell ⟨rb, 2, none⟩ (.int .i64 q2)).setCell ⟨rb, 3, none⟩ (.int .i64 q3)).setCell ⟨rb, 4, none⟩ (.int .i64 q4)).setCell ⟨rb, 5, none⟩ (.slice qa q5 qb)).setCell ⟨rb, 6, none⟩ (.slice qc q6 qd)).setCell ⟨rb, 7, none⟩ (.slice qe q7 qf)).cell? ⟨rb, 4, none⟩ = some (.int .i64 q4) := b8.cell (i := 4) rfl
        have r5 : ((((((((w9.setCell ⟨rb, 0, none⟩ (.int .i64 q0)).setCell ⟨rb, 1, none⟩ (.int .i64 q1)).setCell ⟨rb, 2, none⟩ (.int .i64 q2)).setCell ⟨rb, 3, none⟩ (.int .i64 q3)).setCell ⟨rb, 4, none⟩ (.int .i64 q4)).setCell ⟨rb, 5, none⟩ (.slice qa q5 qb)).setCell ⟨rb, 6, none⟩ (.slice qc q6 qd)).setCell ⟨rb, 7, none⟩ (.slice qe q7 qf)).cell? ⟨rb, 5, none⟩ = some (.slice qa q5 qb) := b8.cell (i := 5) rfl
        have r6 : ((((((((w9.setCell ⟨rb, 0, none⟩ (.int .i64 q0)).setCell ⟨rb, 1, none⟩ (.int .i64 q1)).setCell ⟨rb, 2, none⟩ (.int .i64 q2)).setCell ⟨rb, 3, none⟩ (.int .i64 q3)).setCell ⟨rb, 4, none⟩ (.int .i64 q4)).setCell ⟨rb, 5, none⟩ (.slice qa q5 qb)).setCell ⟨rb, 6, none⟩ (.slice qc q6 qd)).setCell ⟨rb, 7, none⟩ (.slice qe q7 qf)).cell? ⟨rb, 6, none⟩ = some (.slice qc q6 qd) := b8.cell (i := 6) rfl
        have r7 : ((((((((w9.setCell ⟨rb, 0, none⟩ (.int .i64 q0)).setCell ⟨rb, 1, none⟩ (.int .i64 q1)).setCell ⟨rb, 2, none⟩ (.int .i64 q2)).setCell ⟨rb, 3, none⟩ (.int .i64 q3)).setCell ⟨rb, 4, none⟩ (.int .i64 q4)).setCell ⟨rb, 5, none⟩ (.slice qa q5 qb)).setCell ⟨rb, 6, none⟩ (.slice qc q6 qd)).setCell ⟨rb, 7, none⟩ (.slice qe q7 qf)).cell? ⟨rb, 7, none⟩ = some (.slice qe q7 qf) := b8.cell (i := 7) rfl
        clear b0 b1 b2 b3 b4 b5 b6 b7 b8 hbt hcn hlp hb9 hRB9 hBW9 HLA HCN HFD
        go_wp2
        generalize ((((((((w9.setCell ⟨rb, 0, none⟩ (.int .i64 q0)).setCell ⟨rb, 1, none⟩ (.int .i64 q1)).setCell ⟨rb, 2, none⟩ (.int .i64 q2)).setCell ⟨rb, 3, none⟩ (.int .i64 q3)).setCell ⟨rb, 4, none⟩ (.int .i64 q4)).setCell ⟨rb, 5, none⟩ (.slice qa q5 qb)).setCell ⟨rb, 6, none⟩ (.slice qc q6 qd)).setCell ⟨rb, 7, none⟩ (.slice qe q7 qf)) = X at HFI HBX9 r0 r1 r2 r3 r4 r5 r6 r7 ⊢
        refine bodyPost_ret (v := .tuple #[.agg #[.int .i64 q0, .int .i64 q1, .int .i64 q2, .int .i64 q3, .int .i64 q4, .slice qa q5 qb, .slice qc q6 qd, .slice qe q7 qf], .nilIface]) (by simp [results, Tryd.results7, go_sem, r0, r1, r2, r3, r4, r5, r6, r7]) rfl ?_
        exact ⟨_, _, rfl, HBX9.out, Or.inl ⟨rfl, _, _, HCE.out.symm, HFI.out⟩⟩


end Go.Proofs.YtibjgoigdajkkaaDoor
