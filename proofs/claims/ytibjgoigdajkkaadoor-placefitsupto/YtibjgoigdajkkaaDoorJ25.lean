import Derived.Test.YtibjgoigdajkkaaDoorJ24
namespace Go.Proofs.YtibjgoigdajkkaaDoor
open Go.RowKit

def srcA : Nat → Int → Option Int
  | 0 => base2
  | k + 1 => updI (srcA k) ((2 : Int) + (k : Int)) ((2 : Int) + (k : Int))
/-- by which numbers the first column chooses signals -/
def srcB (ni si : Nat) : Nat → Int → Option Int
  | 0 => srcA ni
  | k + 1 => updI (srcB ni si k) ((2 : Int) + (ni : Int) + (k : Int)) ((2 : Int) + (si : Int) + (k : Int))
theorem PlBase.c0 {D : PnS} {w : World} (h : PlBase D w) : w.cell? ⟨D.pb, 0, none⟩ = some (.pointer (some ⟨D.nb, 0, none⟩)) := h.pl.cell (i := 0) rfl
theorem PlBase.c1 {D : PnS} {w : World} (h : PlBase D w) : w.cell? ⟨D.pb, 1, none⟩ = some (.int .i64 D.sh.ins) := h.pl.cell (i := 1) rfl
set_option maxRecDepth 100000 in
set_option maxHeartbeats 8000000 in
theorem sources_any (D : PnS) (T : PnT) (w : World) (h : PlAt D w T) (S : NtS) (N : NtD) (hx : BoxAt w D.nb S N) (ni nr si : Nat) (hni : N.ins = ni) (hnr : N.init.length = nr) (hsi : D.sh.ins = si) (h1 : ni ≤ 500) (h2 : nr ≤ 500) (h3 : si ≤ 500) :
    Calls Tryd.prog 43 #[.pointer (some ⟨D.pb, 0, none⟩)] w fun e w' => e = .returned (.map (some w.heap.size)) ∧ MAt w' w.heap.size (2 + ni + nr) (srcB ni si nr) ∧ Below w.heap.size w w' := by
  obtain ⟨w1, w2, hr1, hr2, hm2, hb2⟩ := map2 w
  have HM2 := hidden hm2
  have HB2 := hidden hb2
  obtain ⟨pb, Epb⟩ := exh D.pb
  obtain ⟨nb, Enb⟩ := exh D.nb
  obtain ⟨mb, Emb⟩ := exh w.heap.size
  have HC : Hid (∀ v : World, Below w.heap.size w v → v.cell? ⟨pb, 0, none⟩ = some (.pointer (some ⟨nb, 0, none⟩)) ∧ v.cell? ⟨pb, 1, none⟩ = some (.int .i64 (si : Int)) ∧ v.cell? ⟨nb, 0, none⟩ = some (.int .i64 (ni : Int)) ∧ v.cell? ⟨nb, 1, none⟩ = some (.slice S.a1 nr S.c1)) := fun v hv => by
    have hp := h.below hv
    have hb := hx.to hx.lt hv
    rw [Epb.out, Enb.out, ← hni, ← hnr, ← hsi]
    exact ⟨hp.bs.c0, hp.bs.c1, hb.c0, hb.c1⟩
  rw [← Epb.out, ← Emb.out]
  rw [← Emb.out] at hr1 hr2 HM2
  have hpm : pb ≠ mb := by rw [Epb.out, Emb.out]; have := h.bs.lt; have := h.bs.sz; omega
  have hnm : nb ≠ mb := by rw [Enb.out, Emb.out]; have := hx.lt; omega
  clear h hx hm2 hb2 hni hnr hsi
  have hmk : (Instr.makeMap 84 none).run Tryd.prog w = .ok (.map (some mb)) (w.alloc (.map #[] 0)) := by rw [Emb.out]; exact run_makeMap _ w
  obtain ⟨p0, p1, n0, n1⟩ := HC.out w2 HB2.out
  go_enter Tryd.func43, Tryd.ntmps43
  go_wp2_with fail
  clear hr1 hr2 hmk p0 p1 n0 n1
  go_loopw [4, 15] (fun _ i' w' => ∃ k : Nat, k ≤ ni ∧ i' = .int .i64 (k : Int) ∧ Hid (MAt w' mb (2 + k) (srcA k)) ∧ Hid (Below w.heap.size w w')) (fun _ i' _ => ni - (intOf i').toNat)
  case atStart => exact ⟨0, Nat.zero_le _, rfl, HM2.out, HB2.out⟩
  case round =>
    clear HM2 HB2
    obtain ⟨k, hk, rfl, HM, HB⟩ := hrel
    by_cases hlt : k < ni
    · have hltI : (k : Int) < (ni : Int) := by omega
      obtain ⟨w3, hr3, hm3, hb3⟩ := HM.out.upd (by simp only [maxLen]; omega) (k := (2 : Int) + (k : Int)) (v := (2 : Int) + (k : Int)) (wf64 (by omega) (by omega)) (wf64 (by omega) (by omega))
      have HM3 : Hid (MAt w3 mb (2 + (k + 1)) (srcA (k + 1))) := hm3
      have HB3 : Hid (Below w.heap.size w w3) := HB.out.trans (hb3.below (by rw [Emb.out]; exact Nat.le_refl _) HB.out.size)
      have e1 : IntKind.i64.wrap ((2 : Int) + (k : Int)) = (2 : Int) + (k : Int) := wrapI _ (by omega) (by omega)
      have e2 : IntKind.i64.wrap ((k : Int) + 1) = (k : Int) + 1 := wrapI _ (by omega) (by omega)
      clear HM HB hm3 hb3
      go_wp2
      go_roundw
      case measure => simp [intOf]; omega
      case rel => exact ⟨k + 1, by omega, by simp, HM3.out, HB3.out⟩
    · obtain rfl : k = ni := by omega
      have hge : ¬ (k : Int) < (k : Int) := by omega
      obtain ⟨p0, p1, n0, n1⟩ := HC.out wr HB.out
      have HM0 : Hid (MAt wr mb (2 + k + 0) (srcB k si 0)) := HM.out
      have HB0 := HB
      clear HM HB
      go_wp2_with fail
      clear p0 p1 n0 n1
      go_loopw [5, 32] (fun _ i' w' => ∃ m : Nat, m ≤ nr ∧ i' = .int .i64 (m : Int) ∧ Hid (MAt w' mb (2 + k + m) (srcB k si m)) ∧ Hid (Below w.heap.size w w')) (fun _ i' _ => nr - (intOf i').toNat)
      case atStart => exact ⟨0, Nat.zero_le _, rfl, HM0.out, HB0.out⟩
      case round =>
        clear HM0 HB0
        obtain ⟨m, hm, rfl, HM, HB⟩ := hrel
        by_cases hmt : m < nr
        · have hltI : (m : Int) < (nr : Int) := by omega
          obtain ⟨p0, p1, n0, n1⟩ := HC.out wr HB.out
          have HMd : Hid (MAt wr.drew mb (2 + k + m) (srcB k si m)) := HM.out.heap rfl
          obtain ⟨w3, hr3, hm3, hb3⟩ := HMd.out.upd (by simp only [maxLen]; omega) (k := (2 : Int) + (k : Int) + (m : Int)) (v := (2 : Int) + (si : Int) + (m : Int)) (wf64 (by omega) (by omega)) (wf64 (by omega) (by omega))
          have HM3 : Hid (MAt w3 mb (2 + k + (m + 1)) (srcB k si (m + 1))) := hm3
          have hb3' : But mb wr w3 := ⟨hb3.os, hb3.tape, hb3.output, hb3.size, hb3.block⟩
          have HB3 : Hid (Below w.heap.size w w3) := HB.out.trans (hb3'.below (by rw [Emb.out]; exact Nat.le_refl _) HB.out.size)
          have HBT := hidden hb3'
          have e1 : IntKind.i64.wrap ((2 : Int) + (k : Int)) = (2 : Int) + (k : Int) := wrapI _ (by omega) (by omega)
          have e2 : IntKind.i64.wrap ((2 : Int) + (si : Int)) = (2 : Int) + (si : Int) := wrapI _ (by omega) (by omega)
          have e3 : IntKind.i64.wrap ((2 : Int) + (k : Int) + (m : Int)) = (2 : Int) + (k : Int) + (m : Int) := wrapI _ (by omega) (by omega)
          have e4 : IntKind.i64.wrap ((2 : Int) + (si : Int) + (m : Int)) = (2 : Int) + (si : Int) + (m : Int) := wrapI _ (by omega) (by omega)
          have e5 : IntKind.i64.wrap ((m : Int) + 1) = (m : Int) + 1 := wrapI _ (by omega) (by omega)
          clear HM HMd HB hm3 hb3 hb3'
          go_upto_region 10 with fail
          refine wp_region_noPanic ?_
          refine wp_region_held_drew (S := fun v => v.cell? ⟨pb, 0, none⟩ = some (.pointer (some ⟨nb, 0, none⟩)) ∧ v.cell? ⟨pb, 1, none⟩ = some (.int .i64 (si : Int)) ∧ v.cell? ⟨nb, 0, none⟩ = some (.int .i64 (k : Int))) (by kernel_rfl) (by exact ⟨p0, p1, n0⟩) (fun hHeld => ?_)
          refine tk 0 ?_
          refine tk 1 ?_
          refine tk 2 ?_
          refine tk 3 ?_
          refine tk 4 ?_
          refine tk 5 ?_
          refine tk 6 ?_
          refine tk 7 ?_
          refine tk 8 ?_
          refine tk 9 ?_
          refine tk 10 ?_
          refine tk 11 ?_
          refine tk 12 ?_
          refine tk 13 ?_
          refine tk 14 ?_
          refine tk 15 ?_
          refine tk 16 ?_
          refine tk 17 ?_
          refine tk 18 ?_
          refine rd 19 fun K hK => ?_
          (try simp only [gA, gB, gC]); go_simp
          refine wo hK ⟨HBT.out.cell p0 hpm, HBT.out.cell p1 hpm, HBT.out.cell n0 hnm⟩ fun hHeld2 => ?_
          clear hK K
          refine wpAnyH_done (by kernel_rfl) ?_ _
          refine NoPanic.normal ?_
          clear hHeld hHeld2 hr3 p0 p1 n0 n1
          go_wp2
          go_roundw
          case measure => simp [intOf]; omega
          case rel => exact ⟨m + 1, by omega, by simp, HM3.out, HB3.out⟩
        · obtain rfl : m = nr := by omega
          have hge2 : ¬ (m : Int) < (m : Int) := by omega
          have HB3 : Hid (Below mb w wr) := by rw [Emb.out]; exact HB.out
          go_wp2
          go_ret
          exact ⟨rfl, HM.out, HB3.out⟩


end Go.Proofs.YtibjgoigdajkkaaDoor
