import Derived.Test.YtibjgoigdajkkaaDoorJ23
import Derived.Maps.OwnOps
import Derived.Maps.OwnSet
import Derived.Maps.Views
namespace Go.Proofs.YtibjgoigdajkkaaDoor
open Go.RowKit

theorem wf64 {x : Int} (h0 : -9223372036854775808 ≤ x) (h1 : x < 9223372036854775808) : (Lit.int .i64 x).wf = true := by
  have := wrap64_wf x
  rwa [wrap64_of x h0 h1] at this
/-- a map of numbers in memory -/
def MAt (w : World) (b n : Nat) (f : Int → Option Int) : Prop :=
  ∃ D : DataW Unit, w.ownsMap Tryd.prog 3 (plainElem Tryd.prog 3) b n D ∧ ∀ k : Int, (Lit.int .i64 k).wf = true → Maps.has D (.int .i64 k) = (f k).isSome ∧ ∀ v, f k = some v → ∀ z, D.atKey (.int .i64 k) z = .lit (.int .i64 v)
theorem ISK {k : Int} : WideAt.IsKeyLit (.int .i64 k) := by simp [WideAt.IsKeyLit]
theorem MAt.heap {w w' : World} {b n : Nat} {f : Int → Option Int} (h : MAt w b n f) (e : w'.heap[b]? = w.heap[b]?) : MAt w' b n f := by
  obtain ⟨D, ⟨es, clock, hb, h1, h2, h3⟩, h4⟩ := h
  exact ⟨D, ⟨es, clock, e.trans hb, h1, h2, h3⟩, h4⟩
theorem MAt.lt {w : World} {b n : Nat} {f : Int → Option Int} (h : MAt w b n f) : b < w.heap.size := by
  obtain ⟨D, h1, _⟩ := h; exact h1.lt
theorem MAt.made (w : World) : MAt (w.alloc (.map #[] 0)) w.heap.size 0 (fun _ => none) := by
  refine ⟨_, World.ownsMap_made w _ _ _, fun k hk => ⟨rfl, fun v hv => by cases hv⟩⟩
theorem z_int (w : World) : (zeroValue 3).run Tryd.prog w = .ok (.int .i64 0) w := by
  obtain ⟨i, h1, h2, _, _⟩ := info_int
  simp [zeroValue, typeInfo, h1, h2]
theorem MAt.look {w : World} {b n : Nat} {f : Int → Option Int} (h : MAt w b n f) {k v : Int} (hk : (Lit.int .i64 k).wf = true) (hv : f k = some v) : (Instr.lookup 84 (.map (some b)) (.int .i64 k) false).run Tryd.prog w = .ok (.int .i64 v) w := by
  obtain ⟨D, h1, h2⟩ := h
  obtain ⟨c, hr, hat, _⟩ := h1.lookup_int (Maps.int_keyed Tryd.underlying3) Tryd.underlying84 Tryd.underlying3 (z_int w) (Maps.keyOf_int_mk Tryd.underlying3 hk)
  rw [(h2 k hk).2 v hv] at hat
  simp only [DataW.lit.injEq, Lit.int.injEq, true_and] at hat
  rw [hr, hat]
theorem MAt.lookok {w : World} {b n : Nat} {f : Int → Option Int} (h : MAt w b n f) {k : Int} (hk : (Lit.int .i64 k).wf = true) : ∃ c, (Instr.lookup 84 (.map (some b)) (.int .i64 k) true).run Tryd.prog w = .ok (.tuple #[.int .i64 c, .bool (f k).isSome]) w ∧ ∀ v, f k = some v → c = v := by
  obtain ⟨D, h1, h2⟩ := h
  obtain ⟨v, ps, hr, hat⟩ := h1.look_ok (Maps.int_keyed Tryd.underlying3) Tryd.underlying84 (z_int w) (plainElem_int Tryd.underlying3 (wf64 (x := 0) (by omega) (by omega))) (Maps.keyOf_int_mk Tryd.underlying3 hk)
  obtain ⟨c, rfl, hc, _⟩ := plainElem_int_inv Tryd.underlying3 hat
  rw [(h2 k hk).1] at hr
  refine ⟨c, hr, fun v hv => ?_⟩
  rw [(h2 k hk).2 v hv] at hc
  simp only [Prod.mk.injEq, DataW.lit.injEq, Lit.int.injEq, true_and] at hc
  exact hc.1.symm
def updI (f : Int → Option Int) (k v : Int) : Int → Option Int := fun j => if j = k then some v else f j
theorem MAt.upd {w : World} {b n : Nat} {f : Int → Option Int} (h : MAt w b n f) (hn : n < maxLen) {k v : Int} (hk : (Lit.int .i64 k).wf = true) (hv : (Lit.int .i64 v).wf = true) : ∃ w', (Instr.mapUpdate 84 (.map (some b)) (.int .i64 k) (.int .i64 v)).run Tryd.prog w = .ok () w' ∧ MAt w' b (n + 1) (updI f k v) ∧ But b w w' := by
  obtain ⟨D, h1, h2⟩ := h
  have hm := h1.isMap
  obtain ⟨w', hr, ho, hg⟩ := h1.update (Maps.int_keyed Tryd.underlying3) Tryd.underlying84 hn (Maps.keyOf_int_mk Tryd.underlying3 hk) (plainElem_int Tryd.underlying3 hv)
  refine ⟨w', hr, ⟨_, ho, fun j hj => ?_⟩, ⟨hg.os, hg.tape, hg.output, hg.size, fun i hi hne => hg.block i hi (fun e => hne (by cases e; rfl))⟩⟩
  unfold updI
  by_cases e : j = k
  · subst e
    rw [if_pos rfl]
    refine ⟨Maps.has_put_same hm ISK _, fun u hu z => ?_⟩
    cases hu
    exact Maps.atKey_put_same hm ISK _ _
  · rw [if_neg e]
    have hne : (Lit.int .i64 j) ≠ (Lit.int .i64 k) := fun h => e (by simpa using h)
    refine ⟨?_, fun u hu z => ?_⟩
    · rw [Maps.has_put_other hne]; exact (h2 j hj).1
    · rw [Maps.atKey_put_other hne]; exact (h2 j hj).2 u hu z


end Go.Proofs.YtibjgoigdajkkaaDoor

namespace Go.Proofs.YtibjgoigdajkkaaDoor
open Go.RowKit

def base2 : Int → Option Int := updI (updI (fun _ => none) 0 0) 1 1
/-- by which numbers one chooses signals behind a column that holds these items -/
def rowsK (sig : Nat → Nat) (hl : List Nat) : Nat → Int → Option Int
  | 0 => base2
  | k + 1 => updI (rowsK sig hl k) (sig (hl.getD k 0) : Nat) ((2 : Int) + (k : Int))
theorem map2 (w : World) : ∃ w1 w2, (Instr.mapUpdate 84 (.map (some w.heap.size)) (.int .i64 0) (.int .i64 0)).run Tryd.prog (w.alloc (.map #[] 0)) = .ok () w1 ∧ (Instr.mapUpdate 84 (.map (some w.heap.size)) (.int .i64 1) (.int .i64 1)).run Tryd.prog w1 = .ok () w2 ∧ MAt w2 w.heap.size 2 base2 ∧ Below w.heap.size w w2 := by
  obtain ⟨w1, h1, m1, b1⟩ := (MAt.made w).upd (by decide) (k := 0) (v := 0) (wf64 (by omega) (by omega)) (wf64 (by omega) (by omega))
  obtain ⟨w2, h2, m2, b2⟩ := m1.upd (by decide) (k := 1) (v := 1) (wf64 (by omega) (by omega)) (wf64 (by omega) (by omega))
  refine ⟨w1, w2, h1, h2, m2, ?_⟩
  have e0 : Below w.heap.size w (w.alloc (.map #[] 0)) := (Below.refl _ _).alloc (Nat.le_refl _) _
  exact (e0.trans (b1.below (Nat.le_refl _) e0.size)).trans (b2.below (Nat.le_refl _) (Nat.le_trans e0.size b1.size))
set_option maxRecDepth 100000 in
set_option maxHeartbeats 8000000 in
theorem rows_any (D : PnS) (T : PnT) (w : World) (h : PlAt D w T) (hsg : ∀ i, i < D.n → D.sig i ≤ 4000000) (hl : List Nat) (la : Option Addr) (lc : Nat) (hln : ∀ i, i ∈ hl → i < D.n) (hl5 : hl.length ≤ 500) (hr : ∀ k x, hl[k]? = some x → ∃ b o, la = some ⟨b, o, none⟩ ∧ b < w.heap.size ∧ w.cell? ⟨b, o + k, none⟩ = some (.int .i64 (x : Nat))) :
    Calls Tryd.prog 46 #[.pointer (some ⟨D.pb, 0, none⟩), .slice la hl.length lc] w fun e w' => e = .returned (.map (some w.heap.size)) ∧ MAt w' w.heap.size (2 + hl.length) (rowsK D.sig hl hl.length) ∧ Below w.heap.size w w' := by
  obtain ⟨w1, w2, hr1, hr2, hm2, hb2⟩ := map2 w
  have HM2 := hidden hm2
  have HB2 := hidden hb2
  obtain ⟨pb, Epb⟩ := exh D.pb
  obtain ⟨ib, Eib⟩ := exh D.ib
  obtain ⟨n, En⟩ := exh D.n
  obtain ⟨ln, Eln⟩ := exh hl.length
  obtain ⟨mb, Emb⟩ := exh w.heap.size
  have HC : Hid (∀ v : World, Below w.heap.size w v → ∀ (k x : Nat), hl[k]? = some x → ∃ b o, la = some ⟨b, o, none⟩ ∧ (x : Int) < (n : Int) ∧ D.sig x ≤ 4000000 ∧ v.cell? ⟨b, o + k, none⟩ = some (.int .i64 (x : Nat)) ∧ v.cell? ⟨pb, 6, none⟩ = some (.slice (some ⟨ib, 0, none⟩) n D.icap) ∧ v.cell? ⟨ib, x * 5, none⟩ = some (.int .i64 (D.sig x : Nat))) := fun v hv k x hx => by
    obtain ⟨b, o, h1, h2, h3⟩ := hr k x hx
    have hxn := hln x (List.mem_of_getElem? hx)
    have hp := h.below hv
    refine ⟨b, o, h1, by have := En.out; omega, hsg x hxn, (hv.cell (p := ⟨b, o + k, none⟩) h2).trans h3, ?_, ?_⟩
    · rw [Epb.out, Eib.out, En.out, ← hp.bs.ia (by omega)]; exact hp.bs.c6
    · rw [Eib.out]; exact hp.i0 hxn
  rw [← Eln.out] at hl5
  rw [← Epb.out, ← Eln.out, ← Emb.out]
  rw [← Emb.out] at hr1 hr2 HM2
  have hsz : Hid (mb ≤ w.heap.size) := by show mb ≤ _; rw [Emb.out]; exact Nat.le_refl _
  clear h hsg hln hr hm2 hb2
  have hmk : (Instr.makeMap 84 none).run Tryd.prog w = .ok (.map (some mb)) (w.alloc (.map #[] 0)) := by rw [Emb.out]; exact run_makeMap _ w
  go_enter Tryd.func46, Tryd.ntmps46
  go_wp2_with fail
  clear hr1 hr2 hmk
  go_loopw [6, 7, 12] (fun _ _ i' w' => ∃ k : Nat, k ≤ ln ∧ i' = .int .i64 (k : Int) ∧ Hid (MAt w' mb (2 + k) (rowsK D.sig hl k)) ∧ Hid (Below w.heap.size w w')) (fun _ _ i' _ => ln - (intOf i').toNat)
  case atStart => exact ⟨0, Nat.zero_le _, rfl, HM2.out, HB2.out⟩
  case round =>
    clear HM2 HB2
    obtain ⟨k, hk, rfl, HM, HB⟩ := hrel
    by_cases hlt : k < ln
    · have hltI : (k : Int) < (ln : Int) := by omega
      obtain ⟨x, hx⟩ := getElem_lt (show k < hl.length by rw [← Eln.out]; exact hlt)
      obtain ⟨b, o, ea, hxn, hxs, cx, c6, c0⟩ := HC.out wr HB.out k x hx
      obtain ⟨w3, hr3, hm3, hb3⟩ := HM.out.upd (by simp only [maxLen]; omega) (k := ((D.sig x : Nat) : Int)) (v := (2 : Int) + (k : Int)) (wf64 (by omega) (by omega)) (wf64 (by omega) (by omega))
      have HM3 : Hid (MAt w3 mb (2 + (k + 1)) (rowsK D.sig hl (k + 1))) := by
        show MAt _ _ _ _
        have e : rowsK D.sig hl (k + 1) = updI (rowsK D.sig hl k) (D.sig x : Nat) ((2 : Int) + (k : Int)) := by
          show updI _ _ _ = _
          rw [getD_of hx]
        rw [e]
        exact hm3
      have HB3 : Hid (Below w.heap.size w w3) := HB.out.trans (hb3.below (by rw [Emb.out]; exact Nat.le_refl _) HB.out.size)
      have e1 : IntKind.i64.wrap ((2 : Int) + (k : Int)) = (2 : Int) + (k : Int) := wrapI _ (by omega) (by omega)
      have e2 : IntKind.i64.wrap ((k : Int) + 1) = (k : Int) + 1 := wrapI _ (by omega) (by omega)
      subst ea
      clear hx HM HB hm3 hb3 hxs
      generalize D.sig x = sg at *
      go_wp2
      go_roundw
      case measure => simp [intOf]; omega
      case rel => exact ⟨k + 1, by omega, by simp, HM3.out, HB3.out⟩
    · obtain rfl : k = ln := by omega
      have hge : ¬ (k : Int) < (k : Int) := by omega
      have HB3 : Hid (Below mb w wr) := by rw [Emb.out]; exact HB.out
      go_wp2
      go_ret
      exact ⟨rfl, HM.out, HB3.out⟩


end Go.Proofs.YtibjgoigdajkkaaDoor
