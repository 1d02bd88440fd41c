import Derived.Test.YtibjgoigdajkkaaDoorJ17
import Derived.Test.YtibjgoigdajkkaaDoorJ11
import Derived.Laws.CopyOwn
import Derived.Lib.SliceRun
namespace Go.Proofs.YtibjgoigdajkkaaDoor
open Go.RowKit

theorem setCells_row {t : TypeId} (g : Nat) : ∀ (vs cur : List Value) (o : Nat) (w : World), w.heap[g]? = some (.cells cur.toArray t (0, 0)) → o + vs.length ≤ cur.length →
    (w.setCells g o vs).heap[g]? = some (.cells (splice cur o vs).toArray t (0, 0)) ∧ w.grownBy (w.setCells g o vs) (some g)
  | [], cur, o, w, hg, _ => by
    refine ⟨?_, grown_refl _ _⟩
    show w.heap[g]? = _
    rw [hg]; simp [splice]
  | v :: r, cur, o, w, hg, hl => by
    have hl' : o + r.length + 1 ≤ cur.length := by simpa [Nat.add_assoc] using hl
    have h1 : (w.setCell ⟨g, o, none⟩ v).heap[g]? = some (.cells (cur.set o v).toArray t (0, 0)) := by
      rw [heap_setCell_same w g o _ t v hg]; simp
    obtain ⟨h2, h3⟩ := setCells_row g r (cur.set o v) (o + 1) _ h1 (by simp; omega)
    refine ⟨?_, grown_trans (grown_setCell w g o v) h3⟩
    show ((w.setCell ⟨g, o, none⟩ v).setCells g (o + 1) r).heap[g]? = _
    rw [h2]
    have e1 : (cur.set o v).take (o + 1) = cur.take o ++ [v] := by
      rw [take_next _ o v (by simp [List.getElem?_set]; omega), List.take_set_of_le (Nat.le_refl _)]
    have e2 : (cur.set o v).drop (o + 1 + r.length) = cur.drop (o + (r.length + 1)) := by
      rw [List.drop_set_of_lt (by omega)]; congr 1; omega
    unfold splice
    rw [e1, e2]
    simp
theorem run_clear_grown {P : Program} {w : World} (t e ty : TypeId) (i : TypeInfo) (z : Value) (ht : P.underlying t = some (.slice e)) (hi : P.info? e = some i) (hzi : i.zero = some z) (hz : z.cells = #[z]) (h1 : z.oneCell' = true)
    (dp : Option Addr) (n c : Nat) (g off : Nat) (cur : List Value) (T : TypeId) (hg : w.heap[g]? = some (.cells cur.toArray T (0, 0))) (hpos : 0 < n → dp = some ⟨g, off, none⟩) (hfit : off + n ≤ cur.length) :
    ∃ w', (Builtin.clear_ #[t] ty #[.slice dp n c]).run P w = .ok (.tuple #[]) w' ∧ w'.heap[g]? = some (.cells (splice cur off (List.replicate n z)).toArray T (0, 0)) ∧ w.grownBy w' (some g) := by
  by_cases h0 : n = 0
  · subst h0
    refine ⟨w, ?_, by simpa [splice] using hg, grown_refl _ _⟩
    cases dp <;> simp [Builtin.clear_, run_underlying ht]
  · have hp := hpos (by omega)
    subst hp
    have hv : ∀ w, (zeroValue e).run P w = .ok z w := by
      intro w; simp [zeroValue, typeInfo, hi, hzi]
    have hr := Lib.run_clear_slice (P := P) w t e ty z ht hv hz h1 g off n c (by omega)
      (by
        intro j hj
        rw [cell_of_row w g (off + j) _ _ _ hg]
        have : off + j < cur.length := by omega
        simp [this])
      (by
        intro j _
        exact frozen_of_row w g (off + j) _ _ hg)
    obtain ⟨h2, h3⟩ := setCells_row g (List.replicate n z) cur off w hg (by simpa using hfit)
    exact ⟨_, hr, h2, h3⟩
/-- the greatest of the first k + 1 -/
def mxL (ld : Nat → Int) : Nat → Int
  | 0 => ld 0
  | k + 1 => max (mxL ld k) (ld (k + 1))
theorem mxL_le (ld : Nat → Int) (k : Nat) (m : Int) : mxL ld k ≤ m ↔ ∀ c, c ≤ k → ld c ≤ m := by
  induction k with
  | zero => exact ⟨fun h c hc => by obtain rfl : c = 0 := by omega
                                    exact h, fun h => h 0 (Nat.le_refl _)⟩
  | succ k ih =>
    unfold mxL
    constructor
    · intro h c hc
      by_cases e : c = k + 1
      · subst e; omega
      · exact ih.1 (by omega) c (by omega)
    · intro h
      have := ih.2 (fun c hc => h c (by omega))
      have := h (k + 1) (Nat.le_refl _)
      omega
set_option maxRecDepth 100000 in
set_option maxHeartbeats 8000000 in
theorem max_any (w : World) (lb m : Nat) (hm : m < 1000) (ld : Nat → Int) (hc : ∀ c, c < m + 1 → w.cell? ⟨lb, c, none⟩ = some (.int .i64 (ld c))) :
    Calls Tryd.prog 71 #[.slice (some ⟨lb, 0, none⟩) (m + 1) (m + 1)] w fun e w' => e = .returned (.int .i64 (mxL ld m)) ∧ w' = w := by
  have HC := hidden hc
  have c0 := hc 0 (by omega)
  clear hc
  obtain ⟨r, HR⟩ : ∃ r, Hid (mxL ld m = r) := ⟨_, rfl⟩
  rw [HR.out]
  have h1 : ¬ (m : Int) + 1 < 1 := by omega
  have h2 : (0 : Int) < (m : Int) + 1 := by omega
  go_enter Tryd.func71, Tryd.ntmps71
  go_wp2_with fail
  go_loopw [3, 4] (fun m' i' w' => ∃ (k : Nat) (x : Int), k ≤ m ∧ i' = .int .i64 ((k : Int) + 1) ∧ m' = .int .i64 x ∧ Hid (x = mxL ld k) ∧ Hid (w' = w)) (fun _ i' _ => m + 1 - (intOf i').toNat)
  case atStart => exact ⟨0, ld 0, Nat.zero_le _, rfl, rfl, rfl, rfl⟩
  case round =>
    obtain ⟨k, x, hk, rfl, rfl, HX, HW⟩ := hrel
    obtain rfl := HW.out
    clear HW
    by_cases hlt : k < m
    · have hltI : (k : Int) + 1 < (m : Int) + 1 := by omega
      have cx := HC.out (k + 1) (by omega)
      have e2 : IntKind.i64.wrap ((k : Int) + 1 + 1) = (k : Int) + 1 + 1 := wrapI _ (by omega) (by omega)
      have HN : Hid (max x (ld (k + 1)) = mxL ld (k + 1)) := by show _ = max (mxL ld k) _; rw [HX.out]
      generalize ld (k + 1) = y at *
      clear HX
      go_wp2
      go_roundw
      case measure => simp [intOf]; omega
      case rel => exact ⟨k + 1, _, by omega, by simp, rfl, HN.out, True.intro⟩
    · obtain rfl : k = m := by omega
      have hnI : ¬ (k : Int) + 1 < (k : Int) + 1 := by omega
      have HF : Hid (x = r) := HX.out.trans HR.out
      clear HX
      go_wp2
      go_ret
      exact ⟨ret_int HF.out, rfl⟩
def spreadB (D : PnS) (T : PnT) : Bool := decide (mxL T.ld (D.cc - 1) ≤ D.sh.rows)
theorem spreadB_true (D : PnS) (T : PnT) (hc : 1 ≤ D.cc) : spreadB D T = true ↔ ∀ c, c < D.cc → T.ld c ≤ D.sh.rows := by
  unfold spreadB
  rw [decide_eq_true_iff, mxL_le]
  exact ⟨fun h c hc => h c (by omega), fun h c hc => h c (by omega)⟩
set_option maxRecDepth 100000 in
set_option maxHeartbeats 8000000 in
theorem isSpread_any (D : PnS) (T : PnT) (w : World) (h : PlAt D w T) :
    Calls Tryd.prog 59 #[.pointer (some ⟨D.pb, 0, none⟩)] w fun e w' => e = .returned (.bool (spreadB D T)) ∧ ∃ n, w' = w.drewN n := by
  have c8 := h.bs.c8
  have c4 := h.bs.c4
  obtain ⟨m, hm⟩ : ∃ m, D.cc = m + 1 := ⟨D.cc - 1, by have := h.bs.cc; omega⟩
  have hm2 : m < 1000 := by have := h.bs.cc; omega
  have MX : Hid (∀ n, Calls Tryd.prog 71 #[.slice (some ⟨D.lb, 0, none⟩) (m + 1) (m + 1)] (w.drewN n) fun e w' => e = .returned (.int .i64 (mxL T.ld m)) ∧ ∃ k, w' = (w.drewN n).drewN k) := fun n =>
    (max_any (w.drewN n) D.lb m hm2 T.ld (fun c hc => (h.heap (w' := w.drewN n) rfl).ldc (by omega))).mono (by
      rintro e w' ⟨rfl, rfl⟩
      exact ⟨rfl, 0, rfl⟩)
  unfold spreadB
  rw [hm] at c8
  rw [hm, show m + 1 - 1 = m by omega]
  generalize D.pb = pb at *
  generalize D.lb = lb at *
  generalize D.sh.rows = rows at *
  generalize mxL T.ld m = x at *
  clear h
  go_enter Tryd.func59, Tryd.ntmps59
  go_wp2
  go_quiet ((go_at_call 71; exact Calls.quiet_of (MX.out _)))
  go_wp2
  go_ret
  exact ⟨rfl, _, rfl⟩


end Go.Proofs.YtibjgoigdajkkaaDoor

namespace Go.Proofs.YtibjgoigdajkkaaDoor
open Go.RowKit

def heldB (D : PnS) (T : PnT) (c i : Nat) : Bool := decide ((T.col i).toNat ≤ c ∧ c < untilN D T i)
def ldN (D : PnS) (T : PnT) (k c : Nat) : Int := (cntP k (heldB D T c) : Nat)
theorem untilN_le {D : PnS} {T : PnT} {i : Nat} (h : T.col i < D.cc) : untilN D T i ≤ D.cc := by
  unfold untilN
  rcases untilK_spec (T.tk i) (T.col i).toNat (D.cc + 1) with ⟨c, h1, _, h3, _⟩ | ⟨_, h2⟩ <;> omega
theorem ldN_next (D : PnS) (T : PnT) (k : Nat) : ldAdd (ldN D T k) (T.col k).toNat (untilN D T k) 1 = ldN D T (k + 1) := by
  funext c
  unfold ldAdd ldN
  rw [show cntP (k + 1) (heldB D T c) = cntP k (heldB D T c) + if heldB D T c k then 1 else 0 from rfl]
  unfold heldB
  by_cases h : (T.col k).toNat ≤ c ∧ c < untilN D T k
  · rw [if_pos h, if_pos (decide_eq_true h)]; simp
  · rw [if_neg h, if_neg (by simpa using h)]; simp
theorem ldN_le (D : PnS) (T : PnT) (k c : Nat) : 0 ≤ ldN D T k c ∧ ldN D T k c ≤ k := by
  unfold ldN
  have := cnt_le k (heldB D T c)
  omega
set_option maxRecDepth 100000 in
set_option maxHeartbeats 8000000 in
theorem countLoads_any (D : PnS) (T : PnT) (w : World) (h : PlAt D w T) :
    Calls Tryd.prog 58 #[.pointer (some ⟨D.pb, 0, none⟩)] w fun e w' => (∃ v, e = .returned v) ∧ PlAt D w' { T with ld := ldN D T D.n } ∧ But D.lb w w' := by
  have hns := h.bs.nn
  have c8 := h.bs.c8
  have HBL := hidden h.ld
  obtain ⟨pb, epb⟩ := exq D.pb
  obtain ⟨lb, elb⟩ := exq D.lb
  obtain ⟨n, en⟩ := exq D.n
  obtain ⟨cc, ecc⟩ := exq D.cc
  obtain ⟨ia, eia⟩ := exq D.ia
  rw [← epb, ← elb, ← ecc] at c8
  obtain ⟨ic, hic, hz, hs, hby⟩ := info_int
  have HI := hidden hic
  have HZ := hidden hz
  have HC : Hid (∀ (v : World) (ld : Nat → Int), PlAt D v { T with ld := ld } → v.cell? ⟨pb, 6, none⟩ = some (.slice ia n D.icap) ∧ ∀ i, i < n → Calls Tryd.prog 63 #[.pointer (some ⟨pb, 0, none⟩), .int .i64 i] v (fun e w' => e = .returned (.int .i64 ((T.col i).toNat : Int)) ∧ w' = v) ∧ Calls Tryd.prog 62 #[.pointer (some ⟨pb, 0, none⟩), .int .i64 i] v (fun e w' => e = .returned (.int .i64 (untilN D T i : Nat)) ∧ w' = v)) := fun v ld hv => by
    subst epb en eia
    exact ⟨hv.bs.c6, fun i hi => ⟨from_any D _ v hv i hi, until_any D _ v hv i hi⟩⟩
  have HLO : Hid (∀ (v : World) (k : Nat), k < n → PlAt D v { T with ld := ldN D T k } → Calls Tryd.prog 70 #[.pointer (some ⟨pb, 0, none⟩), .int .i64 ((T.col k).toNat : Int), .int .i64 (untilN D T k : Nat), .int .i64 1] v fun e w' => (∃ v, e = .returned v) ∧ PlAt D w' { T with ld := ldN D T (k + 1) } ∧ But lb v w') := fun v k hk hv => by
    subst epb elb en
    have := load_any D _ v hv (T.col k).toNat (untilN D T k) (untilN_le (hv.col k hk).2) 1 (fun c _ _ => by
      have := ldN_le D T k c
      show _ ≤ ldN D T k c + 1 ∧ ldN D T k c + 1 ≤ _
      omega)
    refine this.mono ?_
    rintro e w' ⟨he, hp, hb⟩
    have e2 := ldN_next D T k
    refine ⟨he, ?_, hb⟩
    rw [← e2]
    exact hp
  have HSZ : Hid (∀ (v : World), But lb w v → Blk v lb 3 (splice (tabL cc fun c => Value.int .i64 (T.ld c)) 0 (List.replicate cc (.int .i64 0))).toArray → PlAt D v { T with ld := ldN D T 0 }) := fun v hb hB => by
    subst elb ecc
    have hne := h.bs.ne
    have hl := h.bs.lt
    refine ⟨h.bs.kp hb.size (fun k hk h1 h2 => hb.block k (Nat.lt_of_lt_of_le hk h.bs.sz) h2), fun h0 => hb.blk (h.it h0) hne.2.2, ?_, fun i hi => ⟨(h.tk i hi).1, hb.blk (h.tk i hi).2 (by have := (h.tk i hi).1; show T.tb i ≠ _; omega)⟩, h.dj, h.col, h.tkb, fun c => by show _ ≤ (0 : Int) ∧ (0 : Int) ≤ _; omega⟩
    have e : splice (tabL D.cc fun c => Value.int .i64 (T.ld c)) 0 (List.replicate D.cc (.int .i64 0)) = tabL D.cc fun c => Value.int .i64 (ldN D T 0 c) := by
      unfold splice
      rw [List.take_zero, List.nil_append, List.length_replicate, List.drop_eq_nil_of_le (by rw [tabL_len]; omega), List.append_nil]
      apply List.ext_getElem?
      intro i
      by_cases hi : i < D.cc
      · rw [tabL_get hi, List.getElem?_replicate_of_lt hi]; rfl
      · rw [List.getElem?_eq_none (by rw [List.length_replicate]; omega), List.getElem?_eq_none (by rw [tabL_len]; omega)]
    rw [e] at hB
    exact hB
  rw [← epb, ← elb, ← en]
  rw [← elb, ← ecc] at HBL
  rw [← en] at hns
  clear h epb elb en ecc eia hic hz hs hby
  obtain ⟨w1, hrun, hb1, hg1⟩ := run_clear_grown (P := Tryd.prog) (w := w) 24 3 0 ic (.int .i64 0) Tryd.underlying24 HI.out HZ.out rfl rfl (some ⟨lb, 0, none⟩) cc cc lb 0 (tabL cc fun c => Value.int .i64 (T.ld c)) 3 HBL.out (fun _ => rfl) (by rw [tabL_len]; omega)
  go_enter Tryd.func58, Tryd.ntmps58
  go_upto_region 1 with fail
  clear hrun
  have HB1 : Hid (But lb w w1) := ⟨hg1.os, hg1.tape, hg1.output, hg1.size, fun k hk hne => hg1.block k hk (fun e => hne (by cases e; rfl))⟩
  have HP1 := hidden (HSZ.out w1 HB1.out hb1)
  clear hb1 hg1 c8 HBL HSZ
  obtain ⟨c6, -⟩ := HC.out w1 _ HP1.out
  go_wp2_with fail
  clear c6
  go_loopw [12] (fun i' w' => ∃ (k : Nat), k ≤ n ∧ i' = .int .i64 (k : Int) ∧ Hid (PlAt D w' { T with ld := ldN D T k }) ∧ Hid (But lb w w')) (fun i' _ => n - (intOf i').toNat)
  case atStart => exact ⟨0, Nat.zero_le _, rfl, HP1.out, HB1.out⟩
  case round =>
    clear HP1 HB1
    obtain ⟨k, hk, rfl, HP, HBU⟩ := hrel
    by_cases hlt : k < n
    · have hltI : (k : Int) < (n : Int) := by omega
      obtain ⟨FR, UN⟩ := (HC.out wr _ HP.out).2 k hlt
      have LO := HLO.out wr k hlt HP.out
      generalize (T.col k).toNat = f at FR LO
      generalize untilN D T k = u at UN LO
      have HFR := hidden FR
      have HUN := hidden UN
      replace LO := hidden LO
      have e2 : IntKind.i64.wrap ((k : Int) + 1) = (k : Int) + 1 := wrapI _ (by omega) (by omega)
      clear FR UN HP
      go_wp2_with fail
      go_at_call 63
      refine HFR.out.mono ?_
      rintro e v ⟨rfl, hv⟩
      rw [hv]
      clear hv v
      go_wp2_with fail
      go_at_call 62
      refine HUN.out.mono ?_
      rintro e v ⟨rfl, hv⟩
      rw [hv]
      clear hv v
      go_wp2_with fail
      go_at_call 70
      refine LO.out.mono ?_
      rintro e v ⟨⟨r, rfl⟩, hp, hb⟩
      have HP2 := hidden hp
      have HB2 := hidden (HBU.out.trans hb)
      clear hp hb
      go_wp2
      go_roundw
      case measure => simp [intOf]; omega
      case rel => exact ⟨k + 1, by omega, by simp, HP2.out, HB2.out⟩
    · obtain rfl : k = n := by omega
      have hge : ¬ ((k : Int) < (k : Int)) := by omega
      go_wp2
      go_end0
      exact ⟨⟨_, rfl⟩, HP.out, HBU.out⟩


end Go.Proofs.YtibjgoigdajkkaaDoor
