import Derived.Test.YtibjgoigdajkkaaDoorJ47
import Derived.Test.YtibjgoigdajkkaaDoorJ48
namespace Go.Proofs.YtibjgoigdajkkaaDoor
open Go.RowKit

set_option maxRecDepth 100000 in
set_option maxHeartbeats 8000000 in
theorem placed_any (w : World) (B : Nat) (S : NtS) (N : NtD) (h : NtAt B w S N) (hB : B ≤ w.heap.size) (hnt : N.tabs.length ≤ 1000000) (hnil : S.a1 = none → S.c1 = 0 ∧ N.init = []) (R1 : InL3 w S.a4 S.c4 N.outs) (R2 : InL3 w S.a3 S.c3 N.next) (sh : ShD) (ta : Option Addr) (tc : Nat) (trs : List TR) (ht : TrAt B w ta trs) (hV : Vars w) (h1w : 1 ≤ w.heap.size) :
    Calls Tryd.prog 4 #[.agg (S.cells N), .agg sh.arr, .slice ta trs.length tc] w fun e w' => e = .returned (.bool true) ∧ Below w.heap.size w w' := by
  obtain ⟨x0, x1, x2, x3, x4⟩ := sh
  obtain ⟨r, HR⟩ : ∃ r, Hid (NtOk N = r) := ⟨_, rfl⟩
  have VL : Hid (∀ w', Below w.heap.size w w' → Calls Tryd.prog 6 #[.agg #[.int .i64 N.ins, .slice S.a1 N.init.length S.c1, .slice S.a2 N.tabs.length S.c2, .slice S.a3 N.next.length S.c3, .slice S.a4 N.outs.length S.c4]] w' fun e w'' => e = .returned (.bool r) ∧ Below w'.heap.size w' w'') := fun w' hw' => by
    have := tablesValid_any B w' S N (h.to (hw'.mono hB)) (Nat.le_trans hB hw'.size)
    rw [HR.out] at this
    exact this
  have HIN : Hid (r = true → NtIn N) := fun hr => by
    have hok := HR.out.trans hr
    refine ntIn_of hok ?_ (by omega)
    have ho := hok
    unfold NtOk at ho
    rw [Bool.and_eq_true, Bool.and_eq_true, Bool.and_eq_true] at ho
    have hs := (of_decide_eq_true ho.1.1.1).2.2.2
    have := h.ln
    simp only [big] at this
    omega
  have HH := hidden h
  have HR1 := hidden R1
  have HR2 := hidden R2
  have HT := hidden ht
  have HV := hidden hV
  have HNIL := hidden hnil
  have hlen := ht.len
  clear h R1 R2 ht hV hnil
  show Calls Tryd.prog 4 #[.agg #[.int .i64 N.ins, .slice S.a1 N.init.length S.c1, .slice S.a2 N.tabs.length S.c2, .slice S.a3 N.next.length S.c3, .slice S.a4 N.outs.length S.c4], .agg #[.int .i64 x0, .int .i64 x1, .int .i64 x2, .int .i64 x3, .int .i64 x4], .slice ta trs.length tc] w _
  obtain ⟨nb, Enb⟩ := exh w.heap.size
  obtain ⟨sb, Esb⟩ := exh (w.heap.size + 1)
  have a1 : Below w.heap.size w (w.alloc (.cells #[.int .i64 N.ins, .slice S.a1 N.init.length S.c1, .slice S.a2 N.tabs.length S.c2, .slice S.a3 N.next.length S.c3, .slice S.a4 N.outs.length S.c4] 26)) := (Below.refl _ _).alloc (Nat.le_refl _) _
  have a2 : Below (w.alloc (.cells #[.int .i64 N.ins, .slice S.a1 N.init.length S.c1, .slice S.a2 N.tabs.length S.c2, .slice S.a3 N.next.length S.c3, .slice S.a4 N.outs.length S.c4] 26)).heap.size (w.alloc (.cells #[.int .i64 N.ins, .slice S.a1 N.init.length S.c1, .slice S.a2 N.tabs.length S.c2, .slice S.a3 N.next.length S.c3, .slice S.a4 N.outs.length S.c4] 26)) ((w.alloc (.cells #[.int .i64 N.ins, .slice S.a1 N.init.length S.c1, .slice S.a2 N.tabs.length S.c2, .slice S.a3 N.next.length S.c3, .slice S.a4 N.outs.length S.c4] 26)).alloc (.cells #[.int .i64 x0, .int .i64 x1, .int .i64 x2, .int .i64 x3, .int .i64 x4] 28)) := (Below.refl _ _).alloc (Nat.le_refl _) _
  have HB2 : Hid (Below w.heap.size w ((w.alloc (.cells #[.int .i64 N.ins, .slice S.a1 N.init.length S.c1, .slice S.a2 N.tabs.length S.c2, .slice S.a3 N.next.length S.c3, .slice S.a4 N.outs.length S.c4] 26)).alloc (.cells #[.int .i64 x0, .int .i64 x1, .int .i64 x2, .int .i64 x3, .int .i64 x4] 28))) := a1.trans (a2.mono a1.size)
  have HNB : Hid (Blk ((w.alloc (.cells #[.int .i64 N.ins, .slice S.a1 N.init.length S.c1, .slice S.a2 N.tabs.length S.c2, .slice S.a3 N.next.length S.c3, .slice S.a4 N.outs.length S.c4] 26)).alloc (.cells #[.int .i64 x0, .int .i64 x1, .int .i64 x2, .int .i64 x3, .int .i64 x4] 28)) nb 26 #[.int .i64 N.ins, .slice S.a1 N.init.length S.c1, .slice S.a2 N.tabs.length S.c2, .slice S.a3 N.next.length S.c3, .slice S.a4 N.outs.length S.c4]) := by rw [Enb.out]; exact (Blk.new w _ _).below a2
  have HSB : Hid (Blk ((w.alloc (.cells #[.int .i64 N.ins, .slice S.a1 N.init.length S.c1, .slice S.a2 N.tabs.length S.c2, .slice S.a3 N.next.length S.c3, .slice S.a4 N.outs.length S.c4] 26)).alloc (.cells #[.int .i64 x0, .int .i64 x1, .int .i64 x2, .int .i64 x3, .int .i64 x4] 28)) sb 28 #[.int .i64 x0, .int .i64 x1, .int .i64 x2, .int .i64 x3, .int .i64 x4]) := by
    have e : sb = (w.alloc (.cells #[.int .i64 N.ins, .slice S.a1 N.init.length S.c1, .slice S.a2 N.tabs.length S.c2, .slice S.a3 N.next.length S.c3, .slice S.a4 N.outs.length S.c4] 26)).heap.size := by rw [Esb.out]; simp
    rw [e]; exact Blk.new _ _ _
  have HC : Hid (∀ v : World, Below ((w.alloc (.cells #[.int .i64 N.ins, .slice S.a1 N.init.length S.c1, .slice S.a2 N.tabs.length S.c2, .slice S.a3 N.next.length S.c3, .slice S.a4 N.outs.length S.c4] 26)).alloc (.cells #[.int .i64 x0, .int .i64 x1, .int .i64 x2, .int .i64 x3, .int .i64 x4] 28)).heap.size ((w.alloc (.cells #[.int .i64 N.ins, .slice S.a1 N.init.length S.c1, .slice S.a2 N.tabs.length S.c2, .slice S.a3 N.next.length S.c3, .slice S.a4 N.outs.length S.c4] 26)).alloc (.cells #[.int .i64 x0, .int .i64 x1, .int .i64 x2, .int .i64 x3, .int .i64 x4] 28)) v → (v.cell? ⟨nb, 0, none⟩ = some (.int .i64 N.ins) ∧ v.cell? ⟨nb, 1, none⟩ = some (.slice S.a1 N.init.length S.c1) ∧ v.cell? ⟨nb, 2, none⟩ = some (.slice S.a2 N.tabs.length S.c2) ∧ v.cell? ⟨nb, 3, none⟩ = some (.slice S.a3 N.next.length S.c3) ∧ v.cell? ⟨nb, 4, none⟩ = some (.slice S.a4 N.outs.length S.c4)) ∧ v.cell? ⟨sb, 0, none⟩ = some (.int .i64 x0) ∧ v.cell? ⟨sb, 1, none⟩ = some (.int .i64 x1) ∧ v.cell? ⟨sb, 2, none⟩ = some (.int .i64 x2) ∧ v.cell? ⟨sb, 3, none⟩ = some (.int .i64 x3) ∧ v.cell? ⟨sb, 4, none⟩ = some (.int .i64 x4)) := fun v hv => by
    have b1 := HNB.out.below hv
    have b2 := HSB.out.below hv
    exact ⟨⟨b1.cell (i := 0) rfl, b1.cell (i := 1) rfl, b1.cell (i := 2) rfl, b1.cell (i := 3) rfl, b1.cell (i := 4) rfl⟩, b2.cell (i := 0) rfl, b2.cell (i := 1) rfl, b2.cell (i := 2) rfl, b2.cell (i := 3) rfl, b2.cell (i := 4) rfl⟩
  clear a1 a2 HNB HSB
  go_enter Tryd.func4, Tryd.ntmps4
  go_upto_region 1 with fail
  rw [← Esb.out, ← Enb.out]
  generalize ((w.alloc (.cells #[.int .i64 N.ins, .slice S.a1 N.init.length S.c1, .slice S.a2 N.tabs.length S.c2, .slice S.a3 N.next.length S.c3, .slice S.a4 N.outs.length S.c4] 26)).alloc (.cells #[.int .i64 x0, .int .i64 x1, .int .i64 x2, .int .i64 x3, .int .i64 x4] 28)) = w2 at *
  obtain ⟨⟨n0, n1, n2, n3, n4⟩, s0, s1, s2, s3, s4⟩ := HC.out w2 (Below.refl _ _)
  go_wp2_with fail
  go_at_call 6
  refine (VL.out _ HB2.out).mono ?_
  rintro e w3 ⟨rfl, hb3⟩
  have HB3 := hidden hb3
  have HBW3 := hidden (HB2.out.trans (hb3.mono HB2.out.size))
  clear hb3 VL n0 n1 n2 n3 n4 s0 s1 s2 s3 s4
  cases r with
  | false =>
    go_wp2
    go_ret
    exact ⟨rfl, HBW3.out⟩
  | true =>
    have HI := hidden (HIN.out rfl)
    obtain ⟨⟨n0, n1, n2, n3, n4⟩, s0, s1, s2, s3, s4⟩ := HC.out w3 HB3.out
    have FA := hidden (fit_any w3 B S N (HH.out.to (HBW3.out.mono hB)) (Nat.le_trans hB HBW3.out.size) HR.out HI.out (HR1.out.to HBW3.out) (HR2.out.to HBW3.out) hnt ⟨x0, x1, x2, x3, x4⟩)
    unfold NtS.cells ShD.arr at FA
    go_wp2_with fail
    go_at_call 7
    refine FA.out.mono ?_
    rintro e w4 ⟨cs, ev, rfl, hb4, hcase⟩
    have HB4 : Hid (Below w2.heap.size w2 w4) := HB3.out.trans (hb4.mono HB3.out.size)
    have HBW4 := hidden (HB2.out.trans (HB4.out.mono HB2.out.size))
    clear hb4 FA HB3 HBW3 n0 n1 n2 n3 n4 s0 s1 s2 s3 s4
    rcases hcase with ⟨rfl, SC, M, rfl, hfd⟩ | ⟨fp, rfl, hft, hff, rfl⟩
    · have HFD := hidden hfd
      clear hfd
      obtain ⟨qa, qb, qc, qd, qe, qf⟩ := SC
      obtain ⟨q5, E5⟩ := exh M.cols.length
      obtain ⟨q6, E6⟩ := exh M.regs.length
      obtain ⟨q7, E7⟩ := exh M.outs.length
      have HCE : Hid (CnS.cells ⟨qa, qb, qc, qd, qe, qf⟩ M = #[.int .i64 x0, .int .i64 x1, .int .i64 x2, .int .i64 x3, .int .i64 x4, .slice qa q5 qb, .slice qc q6 qd, .slice qe q7 qf]) := by
        show _ = _
        unfold CnS.cells
        rw [HFD.out.shp, ← E5.out, ← E6.out, ← E7.out]
      rw [HCE.out]
      obtain ⟨cb, Ecb⟩ := exh w4.heap.size
      have hal : Below w4.heap.size w4 (w4.alloc (.cells #[.int .i64 x0, .int .i64 x1, .int .i64 x2, .int .i64 x3, .int .i64 x4, .slice qa q5 qb, .slice qc q6 qd, .slice qe q7 qf] 36)) := (Below.refl _ _).alloc (Nat.le_refl _) _
      have HCB : Hid (Blk (w4.alloc (.cells #[.int .i64 x0, .int .i64 x1, .int .i64 x2, .int .i64 x3, .int .i64 x4, .slice qa q5 qb, .slice qc q6 qd, .slice qe q7 qf] 36)) cb 36 #[.int .i64 x0, .int .i64 x1, .int .i64 x2, .int .i64 x3, .int .i64 x4, .slice qa q5 qb, .slice qc q6 qd, .slice qe q7 qf]) := by rw [Ecb.out]; exact Blk.new _ _ _
      have HB5 : Hid (Below w2.heap.size w2 (w4.alloc (.cells #[.int .i64 x0, .int .i64 x1, .int .i64 x2, .int .i64 x3, .int .i64 x4, .slice qa q5 qb, .slice qc q6 qd, .slice qe q7 qf] 36))) := HB4.out.trans (hal.mono HB4.out.size)
      have HAT : Hid (CnAt w4.heap.size (w4.alloc (.cells #[.int .i64 x0, .int .i64 x1, .int .i64 x2, .int .i64 x3, .int .i64 x4, .slice qa q5 qb, .slice qc q6 qd, .slice qe q7 qf] 36)) ⟨qa, qb, qc, qd, qe, qf⟩ M) := HFD.out.at_.to hal
      have hsz4 := hal.size
      clear hal
      go_wp2_with fail
      rw [← Ecb.out]
      rw [← Ecb.out] at HAT hsz4
      generalize w4.alloc (.cells #[.int .i64 x0, .int .i64 x1, .int .i64 x2, .int .i64 x3, .int .i64 x4, .slice qa q5 qb, .slice qc q6 qd, .slice qe q7 qf] 36) = w5 at *
      go_at_call 8
      refine (code_nil w5).mono ?_
      rintro e w5' ⟨rfl, hw5⟩
      rw [hw5]
      clear hw5 w5'
      have HBW5 := hidden (HB2.out.trans (HB5.out.mono HB2.out.size))
      have HCC : Hid (∀ v : World, Below w5.heap.size w5 v → v.cell? ⟨cb, 0, none⟩ = some (.int .i64 x0) ∧ v.cell? ⟨cb, 1, none⟩ = some (.int .i64 x1) ∧ v.cell? ⟨cb, 2, none⟩ = some (.int .i64 x2) ∧ v.cell? ⟨cb, 3, none⟩ = some (.int .i64 x3) ∧ v.cell? ⟨cb, 4, none⟩ = some (.int .i64 x4) ∧ v.cell? ⟨cb, 5, none⟩ = some (.slice qa q5 qb) ∧ v.cell? ⟨cb, 6, none⟩ = some (.slice qc q6 qd) ∧ v.cell? ⟨cb, 7, none⟩ = some (.slice qe q7 qf)) := fun v hv => by
        have b := HCB.out.below hv
        exact ⟨b.cell (i := 0) rfl, b.cell (i := 1) rfl, b.cell (i := 2) rfl, b.cell (i := 3) rfl, b.cell (i := 4) rfl, b.cell (i := 5) rfl, b.cell (i := 6) rfl, b.cell (i := 7) rfl⟩
      have FI := hidden (fits_any w5 B S N (HH.out.to (HBW5.out.mono hB)) (Nat.le_trans hB HBW5.out.size) HI.out ⟨x0, x1, x2, x3, x4⟩)
      unfold NtS.cells ShD.arr at FI
      obtain ⟨mu, Emu⟩ := exh (fitsB ⟨x0, x1, x2, x3, x4⟩ N)
      rw [← Emu.out] at FI
      obtain ⟨⟨n0, n1, n2, n3, n4⟩, s0, s1, s2, s3, s4⟩ := HC.out w5 HB5.out
      go_wp2_with fail
      go_at_call 9
      refine FI.out.mono ?_
      rintro e w6 ⟨rfl, hb6⟩
      have HB65 := hidden hb6
      have HB6 := hidden (HB5.out.trans (hb6.mono HB5.out.size))
      clear hb6 FI n0 n1 n2 n3 n4 s0 s1 s2 s3 s4
      have CV := hidden (configValid_any cb w6 ⟨qa, qb, qc, qd, qe, qf⟩ M (HAT.out.to (HB65.out.mono hsz4)) (Nat.le_trans hsz4 HB65.out.size))
      rw [HFD.out.ok, HCE.out] at CV
      obtain ⟨c0, c1, c2, c3, c4, c5, c6, c7⟩ := HCC.out w6 HB65.out
      go_wp2_with fail
      go_at_call 10
      refine CV.out.mono ?_
      rintro e w7 ⟨rfl, hb7⟩
      have HB75 := hidden (HB65.out.trans (hb7.mono HB65.out.size))
      have HB7 := hidden (HB5.out.trans (HB75.out.mono HB5.out.size))
      clear hb7 CV c0 c1 c2 c3 c4 c5 c6 c7 HB65 HB6
      obtain ⟨c0, c1, c2, c3, c4, c5, c6, c7⟩ := HCC.out w7 HB75.out
      obtain ⟨⟨n0, n1, n2, n3, n4⟩, s0, s1, s2, s3, s4⟩ := HC.out w7 HB7.out
      have hlar := HFD.out.lar
      have l1 : ¬ x0 < N.ins := Int.not_lt.2 hlar.1
      have l2 : ¬ x1 < (N.outs.length : Int) := Int.not_lt.2 hlar.2.1
      have l3 : ¬ x2 < (N.init.length : Int) := Int.not_lt.2 hlar.2.2
      clear hlar
      go_upto_region 12 with fail
      have hi0 := HI.out.i0
      have hi1 := HI.out.i1
      have hol := HI.out.ol
      obtain ⟨ni, Eni⟩ : ∃ k : Nat, Hid (N.ins = k) := ⟨N.ins.toNat, by show _ = _; omega⟩
      have hni : ni ≤ 60000 := by have := Eni.out; omega
      have HSS : Hid (∀ v : World, Below w5.heap.size w5 v → (v.cell? ⟨cb, 0, none⟩ = some (.int .i64 x0) ∧ v.cell? ⟨cb, 1, none⟩ = some (.int .i64 x1) ∧ v.cell? ⟨cb, 2, none⟩ = some (.int .i64 x2) ∧ v.cell? ⟨cb, 3, none⟩ = some (.int .i64 x3) ∧ v.cell? ⟨cb, 4, none⟩ = some (.int .i64 x4) ∧ v.cell? ⟨cb, 5, none⟩ = some (.slice qa q5 qb) ∧ v.cell? ⟨cb, 6, none⟩ = some (.slice qc q6 qd) ∧ v.cell? ⟨cb, 7, none⟩ = some (.slice qe q7 qf)) ∧ v.cell? ⟨nb, 0, none⟩ = some (.int .i64 (ni : Int)) ∧ v.cell? ⟨nb, 4, none⟩ = some (.slice S.a4 N.outs.length S.c4)) := fun v hv => by
        have h1 := (HC.out v (HB5.out.trans (hv.mono HB5.out.size))).1
        rw [Eni.out] at h1
        exact ⟨HCC.out v hv, h1.1, h1.2.2.2.2⟩
      have hS7 := HSS.out w7 HB75.out
      clear c0 c1 c2 c3 c4 c5 c6 c7 n0 n1 n2 n3 n4 s0 s1 s2 s3 s4 l1 l2 l3 hi0 hi1
      have HBW7 := hidden (HB2.out.trans (HB7.out.mono HB2.out.size))
      have H1 := hidden (heads_any w7.drew ta tc (trs.map TR.l) ((HT.out.to ((Below.drew HBW7.out).mono hB)).rl (Nat.le_trans hB HBW7.out.size)) (by rw [List.length_map]; exact hlen) ni hni)
      rw [List.length_map] at H1
      obtain ⟨fni, fnr, fnw, hfit, hbits, hnc⟩ := ok_fit HFD.out.ok
      have HFIT := hidden hfit
      have HBITS := hidden hbits
      have HNC := hidden hnc
      clear hfit hbits hnc
      obtain ⟨nt, Ent⟩ := exh trs.length
      rw [← Ent.out] at hlen H1 ⊢
      refine wp_region_noPanic ?_
      refine wp_region_held_drew (S := fun v => (v.cell? ⟨cb, 0, none⟩ = some (.int .i64 x0) ∧ v.cell? ⟨cb, 1, none⟩ = some (.int .i64 x1) ∧ v.cell? ⟨cb, 2, none⟩ = some (.int .i64 x2) ∧ v.cell? ⟨cb, 3, none⟩ = some (.int .i64 x3) ∧ v.cell? ⟨cb, 4, none⟩ = some (.int .i64 x4) ∧ v.cell? ⟨cb, 5, none⟩ = some (.slice qa q5 qb) ∧ v.cell? ⟨cb, 6, none⟩ = some (.slice qc q6 qd) ∧ v.cell? ⟨cb, 7, none⟩ = some (.slice qe q7 qf)) ∧ v.cell? ⟨nb, 0, none⟩ = some (.int .i64 (ni : Int)) ∧ v.cell? ⟨nb, 4, none⟩ = some (.slice S.a4 N.outs.length S.c4)) (by kernel_rfl) (by exact hS7) (fun hHeld => ?_)
      clear hS7
      refine tk 0 ?_
      refine tk 1 ?_
      refine tk 2 ?_
      refine tk 3 ?_
      refine tk 6 ?_
      refine tk 7 ?_
      refine tk 8 ?_
      refine rd 4 fun K hK => ?_
      (try simp only [gA, gB, gC]); go_simp
      go_at_call 11
      refine H1.out.mono ?_
      rintro e w8 ⟨v1, rows1, rfl, ho1, hl1, hbs1, hb8⟩
      have HB85 : Hid (Below w5.heap.size w5 w8) := HB75.out.trans (((Below.drew (Below.refl _ _)).trans hb8 : Below w7.heap.size w7 w8).mono HB75.out.size)
      obtain ⟨a1, c1, trs1, rfl, hn1, hm1, ht1⟩ := rows_tr ho1 hbs1 hlen
      have HM1 : Hid (trs1.map TR.l = (trs.map TR.l).map (inRow ni)) := hm1.trans hl1
      have hSw8 := HSS.out w8 HB85.out
      have H2 := hidden (configRun_doc w8.heap.size w8 ⟨qa, qb, qc, qd, qe, qf⟩ M ((HAT.out.to (HB85.out.mono hsz4)).mono (Nat.le_trans hsz4 HB85.out.size)) (Nat.le_refl _) fni fnr fnw HFIT.out HBITS.out HNC.out a1 c1 trs1 ht1)
      rw [HCE.out] at H2
      have HN1 := hidden hn1
      clear ho1 hl1 hbs1 hb8 H1 hn1 hm1 ht1
      go_wp2_with fail
      refine wo hK hSw8 fun _ => ?_
      clear hK K
      refine rd 5 fun K hK => ?_
      (try simp only [gA, gB, gC]); go_simp
      go_at_call 12
      refine H2.out.mono ?_
      rintro e w9 ⟨v2, rows2, rfl, ho2, hl2, hbs2, hb9⟩
      have HB95 : Hid (Below w5.heap.size w5 w9) := HB85.out.trans (hb9.mono HB85.out.size)
      have hSw9 := HSS.out w9 HB95.out
      obtain ⟨a2, c2, rfl, hra2, hn2⟩ := rows_of ho2 hbs2
      have HL2 : Hid (rows2.map RD.l = runC M ((trs.map TR.l).map (inRow ni)) (M.regs.map RgD.init)) := by rw [← HM1.out]; exact hl2
      have H3 := hidden (heads_any w9 a2 c2 (rows2.map RD.l) hra2.rl (by rw [List.length_map, hn2, HN1.out]; exact hlen) N.outs.length hol)
      rw [List.length_map, hn2] at H3
      have HN2 := hidden hn2
      clear ho2 hl2 hbs2 hb9 H2 hra2 hn2
      go_wp2_with fail
      refine wo hK hSw9 fun _ => ?_
      clear hK K
      refine rd 9 fun K hK => ?_
      (try simp only [gA, gB, gC]); go_simp
      go_at_call 11
      refine H3.out.mono ?_
      rintro e w10 ⟨v3, rows3, rfl, ho3, hl3, hbs3, hb10⟩
      have HB10 : Hid (Below w5.heap.size w5 w10) := HB95.out.trans (hb10.mono HB95.out.size)
      have hSw10 := HSS.out w10 HB10.out
      obtain ⟨a3, c3, rfl, hra3, hn3⟩ := rows_of ho3 hbs3
      have HL3 : Hid (rows3.map RD.l = runT N (trs.map TR.l) N.init) := by
        show _ = _
        have := HFD.out.run (trs.map TR.l)
        rw [Eni.out, Int.toNat_natCast, ← HL2.out] at this
        rw [hl3, this]
      have HRA3 := hidden hra3
      have HN3 := hidden hn3
      clear ho3 hl3 hbs3 hb10 H3 hra3 hn3
      go_wp2_with fail
      refine wo hK hSw10 fun _ => ?_
      clear hK K
      refine tk 10 ?_
      refine wpAnyH_done (by kernel_rfl) ?_ _
      refine NoPanic.normal ?_
      clear hHeld hSw8 hSw9 hSw10
      have hb102 : Below w2.heap.size w2 w10 := HB5.out.trans (HB10.out.mono HB5.out.size)
      have HBW10 := hidden (HB2.out.trans (hb102.mono HB2.out.size))
      obtain ⟨⟨n0, n1, n2, n3, n4⟩, s0, s1, s2, s3, s4⟩ := HC.out w10 hb102
      have TR1 := hidden (tablesRun_doc B w10 S N (HH.out.to (HBW10.out.mono hB)) (Nat.le_trans hB HBW10.out.size) HI.out HNIL.out ta tc trs (HT.out.to (HBW10.out.mono hB)))
      unfold NtS.cells at TR1
      rw [← Ent.out] at TR1
      rw [Eni.out] at TR1 n0
      clear hb102
      go_wp2_with fail
      go_at_call 14
      refine TR1.out.mono ?_
      rintro e w11 ⟨v4, rows4, rfl, ho4, hl4, hbs4, hb11⟩
      have HBW11 := hidden (HBW10.out.trans (hb11.mono HBW10.out.size))
      obtain ⟨a4, c4, rfl, hra4, hn4⟩ := rows_of ho4 hbs4
      have e31 : trs1.length = nt := HN1.out
      have SR := hidden (sameRows_any w11 a3 a4 c3 c4 rows3 rows4 nt (by rw [HN3.out]; exact e31) hn4 (by simp only [big]; omega) (HRA3.out.to hb11) hra4 (by show _ = _; rw [HL3.out]; exact hl4.symm) (fun r hr => by
        have h1 : r.l ∈ runT N (trs.map TR.l) N.init := by rw [← HL3.out]; exact List.mem_map.2 ⟨r, hr, rfl⟩
        have h2 := runT_each N _ _ _ h1
        simp only [big]; omega))
      rw [e31]
      clear ho4 hl4 hbs4 hb11 hra4 hn4 e31 n0 n1 n2 n3 n4 s0 s1 s2 s3 s4 TR1
      go_wp2_with fail
      go_at_call 13
      refine SR.out.mono ?_
      rintro e w12 ⟨rfl, q, hw12⟩
      have HBE : Hid (Below w.heap.size w w12) := by rw [hw12]; exact Below.drewN HBW11.out q
      clear hw12 SR
      go_wp2
      go_ret
      exact ⟨rfl, HBE.out⟩
    · have HFT := hidden hft
      have HFF := hidden hff
      clear hft hff
      obtain ⟨cb, Ecb⟩ := exh w4.heap.size
      have hal : Below w4.heap.size w4 (w4.alloc (.cells #[.int .i64 0, .int .i64 0, .int .i64 0, .int .i64 0, .int .i64 0, .slice none 0 0, .slice none 0 0, .slice none 0 0] 36)) := (Below.refl _ _).alloc (Nat.le_refl _) _
      have HB5 : Hid (Below w2.heap.size w2 (w4.alloc (.cells #[.int .i64 0, .int .i64 0, .int .i64 0, .int .i64 0, .int .i64 0, .slice none 0 0, .slice none 0 0, .slice none 0 0] 36))) := HB4.out.trans (hal.mono HB4.out.size)
      have HF5 := hidden (HFT.out.to hal)
      clear hal HFT
      go_wp2_with fail
      rw [← Ecb.out]
      generalize w4.alloc (.cells #[.int .i64 0, .int .i64 0, .int .i64 0, .int .i64 0, .int .i64 0, .slice none 0 0, .slice none 0 0, .slice none 0 0] 36) = w5 at *
      have HBW5 := hidden (HB2.out.trans (HB5.out.mono HB2.out.size))
      have CO := hidden (code_any fp 17 0 w5 HF5.out (HV.out.to HBW5.out h1w) (Nat.le_trans h1w HBW5.out.size))
      go_at_call 8
      refine CO.out.mono ?_
      rintro e w6 ⟨rfl, hb6⟩
      have HB6 := hidden (HB5.out.trans (hb6.mono HB5.out.size))
      have HBW6 := hidden (HB2.out.trans (HB6.out.mono HB2.out.size))
      clear hb6 CO HF5
      have FI := hidden (fits_any w6 B S N (HH.out.to (HBW6.out.mono hB)) (Nat.le_trans hB HBW6.out.size) HI.out ⟨x0, x1, x2, x3, x4⟩)
      unfold NtS.cells ShD.arr at FI
      rw [HFF.out] at FI
      obtain ⟨⟨n0, n1, n2, n3, n4⟩, s0, s1, s2, s3, s4⟩ := HC.out w6 HB6.out
      go_wp2_with fail
      go_at_call 9
      refine FI.out.mono ?_
      rintro e w7 ⟨rfl, hb7⟩
      have HBW7 := hidden (HBW6.out.trans (hb7.mono HBW6.out.size))
      clear hb7 FI n0 n1 n2 n3 n4 s0 s1 s2 s3 s4
      go_wp2
      go_ret
      exact ⟨rfl, HBW7.out⟩


end Go.Proofs.YtibjgoigdajkkaaDoor
