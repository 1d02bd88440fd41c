import Derived.Test.YtibjgoigdajkkaaDoorJ16
namespace Go.Proofs.YtibjgoigdajkkaaDoor
open Go.RowKit

def heldB (D : PnS) (T : PnT) (c i : Nat) : Bool := decide ((T.col i).toNat ≤ c ∧ c < untilN D T i)
def ldN (D : PnS) (T : PnT) (k c : Nat) : Int := (cntP k (heldB D T c) : Nat)
theorem untilN_le {D : PnS} {T : PnT} {i : Nat} (h : T.col i < D.cc) : untilN D T i ≤ D.cc := by
  unfold untilN
  rcases untilK_spec (T.tk i) (T.col i).toNat (D.cc + 1) with ⟨c, h1, _, h3, _⟩ | ⟨_, h2⟩ <;> omega
theorem ldN_next (D : PnS) (T : PnT) (k : Nat) : ldAdd (ldN D T k) (T.col k).toNat (untilN D T k) 1 = ldN D T (k + 1) := by
  funext c
  unfold ldAdd ldN
  rw [show cntP (k + 1) (heldB D T c) = cntP k (heldB D T c) + if heldB D T c k then 1 else 0 from rfl]
  unfold heldB
  by_cases h : (T.col k).toNat ≤ c ∧ c < untilN D T k
  · rw [if_pos h, if_pos (decide_eq_true h)]; simp
  · rw [if_neg h, if_neg (by simpa using h)]; simp
theorem ldN_le (D : PnS) (T : PnT) (k c : Nat) : 0 ≤ ldN D T k c ∧ ldN D T k c ≤ k := by
  unfold ldN
  have := cnt_le k (heldB D T c)
  omega
set_option maxRecDepth 100000 in
set_option maxHeartbeats 8000000 in
theorem countLoads_any (D : PnS) (T : PnT) (w : World) (h : PlAt D w T) :
    Calls Tryd.prog 58 #[.pointer (some ⟨D.pb, 0, none⟩)] w fun e w' => (∃ v, e = .returned v) ∧ PlAt D w' { T with ld := ldN D T D.n } ∧ But D.lb w w' := by
  have hns := h.bs.nn
  have c8 := h.bs.c8
  have HBL := hidden h.ld
  obtain ⟨pb, epb⟩ := exq D.pb
  obtain ⟨lb, elb⟩ := exq D.lb
  obtain ⟨n, en⟩ := exq D.n
  obtain ⟨cc, ecc⟩ := exq D.cc
  obtain ⟨ia, eia⟩ := exq D.ia
  rw [← epb, ← elb, ← ecc] at c8
  obtain ⟨ic, hic, hz, hs, hby⟩ := info_int
  have HI := hidden hic
  have HZ := hidden hz
  have HC : Hid (∀ (v : World) (ld : Nat → Int), PlAt D v { T with ld := ld } → v.cell? ⟨pb, 6, none⟩ = some (.slice ia n D.icap) ∧ ∀ i, i < n → Calls Tryd.prog 63 #[.pointer (some ⟨pb, 0, none⟩), .int .i64 i] v (fun e w' => e = .returned (.int .i64 ((T.col i).toNat : Int)) ∧ w' = v) ∧ Calls Tryd.prog 62 #[.pointer (some ⟨pb, 0, none⟩), .int .i64 i] v (fun e w' => e = .returned (.int .i64 (untilN D T i : Nat)) ∧ w' = v)) := fun v ld hv => by
    subst epb en eia
    exact ⟨hv.bs.c6, fun i hi => ⟨from_any D _ v hv i hi, until_any D _ v hv i hi⟩⟩
  have HLO : Hid (∀ (v : World) (k : Nat), k < n → PlAt D v { T with ld := ldN D T k } → Calls Tryd.prog 70 #[.pointer (some ⟨pb, 0, none⟩), .int .i64 ((T.col k).toNat : Int), .int .i64 (untilN D T k : Nat), .int .i64 1] v fun e w' => (∃ v, e = .returned v) ∧ PlAt D w' { T with ld := ldN D T (k + 1) } ∧ But lb v w') := fun v k hk hv => by
    subst epb elb en
    have := load_any D _ v hv (T.col k).toNat (untilN D T k) (untilN_le (hv.col k hk).2) 1 (fun c _ _ => by
      have := ldN_le D T k c
      show _ ≤ ldN D T k c + 1 ∧ ldN D T k c + 1 ≤ _
      omega)
    refine this.mono ?_
    rintro e w' ⟨he, hp, hb⟩
    have e2 := ldN_next D T k
    refine ⟨he, ?_, hb⟩
    rw [← e2]
    exact hp
  have HSZ : Hid (∀ (v : World), But lb w v → Blk v lb 3 (splice (tabL cc fun c => Value.int .i64 (T.ld c)) 0 (List.replicate cc (.int .i64 0))).toArray → PlAt D v { T with ld := ldN D T 0 }) := fun v hb hB => by
    subst elb ecc
    have hne := h.bs.ne
    have hl := h.bs.lt
    refine ⟨h.bs.kp hb.size (fun k hk h1 h2 => hb.block k (Nat.lt_of_lt_of_le hk h.bs.sz) h2), fun h0 => hb.blk (h.it h0) hne.2.2, ?_, fun i hi => ⟨(h.tk i hi).1, hb.blk (h.tk i hi).2 (by have := (h.tk i hi).1; show T.tb i ≠ _; omega)⟩, h.dj, h.col, h.tkb, fun c => by show _ ≤ (0 : Int) ∧ (0 : Int) ≤ _; omega⟩
    have e : splice (tabL D.cc fun c => Value.int .i64 (T.ld c)) 0 (List.replicate D.cc (.int .i64 0)) = tabL D.cc fun c => Value.int .i64 (ldN D T 0 c) := by
      unfold splice
      rw [List.take_zero, List.nil_append, List.length_replicate, List.drop_eq_nil_of_le (by rw [tabL_len]; omega), List.append_nil]
      apply List.ext_getElem?
      intro i
      by_cases hi : i < D.cc
      · rw [tabL_get hi, List.getElem?_replicate_of_lt hi]; rfl
      · rw [List.getElem?_eq_none (by rw [List.length_replicate]; omega), List.getElem?_eq_none (by rw [tabL_len]; omega)]
    rw [e] at hB
    exact hB
  rw [← epb, ← elb, ← en]
  rw [← elb, ← ecc] at HBL
  rw [← en] at hns
  clear h epb elb en ecc eia hic hz hs hby
  obtain ⟨w1, hrun, hb1, hg1⟩ := run_clear_grown (P := Tryd.prog) (w := w) 24 3 0 ic (.int .i64 0) Tryd.underlying24 HI.out HZ.out rfl rfl (some ⟨lb, 0, none⟩) cc cc lb 0 (tabL cc fun c => Value.int .i64 (T.ld c)) 3 HBL.out (fun _ => rfl) (by rw [tabL_len]; omega)
  go_enter Tryd.func58, Tryd.ntmps58
  go_upto_region 1 with fail
  clear hrun
  have HB1 : Hid (But lb w w1) := ⟨hg1.os, hg1.tape, hg1.output, hg1.size, fun k hk hne => hg1.block k hk (fun e => hne (by cases e; rfl))⟩
  have HP1 := hidden (HSZ.out w1 HB1.out hb1)
  clear hb1 hg1 c8 HBL HSZ
  obtain ⟨c6, -⟩ := HC.out w1 _ HP1.out
  go_wp2_with fail
  clear c6
  go_loopw [12] (fun i' w' => ∃ (k : Nat), k ≤ n ∧ i' = .int .i64 (k : Int) ∧ Hid (PlAt D w' { T with ld := ldN D T k }) ∧ Hid (But lb w w')) (fun i' _ => n - (intOf i').toNat)
  case atStart => exact ⟨0, Nat.zero_le _, rfl, HP1.out, HB1.out⟩
  case round =>
    clear HP1 HB1
    obtain ⟨k, hk, rfl, HP, HBU⟩ := hrel
    by_cases hlt : k < n
    · have hltI : (k : Int) < (n : Int) := by omega
      obtain ⟨FR, UN⟩ := (HC.out wr _ HP.out).2 k hlt
      have LO := HLO.out wr k hlt HP.out
      generalize (T.col k).toNat = f at FR LO
      generalize untilN D T k = u at UN LO
      have HFR := hidden FR
      have HUN := hidden UN
      replace LO := hidden LO
      have e2 : IntKind.i64.wrap ((k : Int) + 1) = (k : Int) + 1 := wrapI _ (by omega) (by omega)
      clear FR UN HP
      go_wp2_with fail
      go_at_call 63
      refine HFR.out.mono ?_
      rintro e v ⟨rfl, hv⟩
      rw [hv]
      clear hv v
      go_wp2_with fail
      go_at_call 62
      refine HUN.out.mono ?_
      rintro e v ⟨rfl, hv⟩
      rw [hv]
      clear hv v
      go_wp2_with fail
      go_at_call 70
      refine LO.out.mono ?_
      rintro e v ⟨⟨r, rfl⟩, hp, hb⟩
      have HP2 := hidden hp
      have HB2 := hidden (HBU.out.trans hb)
      clear hp hb
      go_wp2
      go_roundw
      case measure => simp [intOf]; omega
      case rel => exact ⟨k + 1, by omega, by simp, HP2.out, HB2.out⟩
    · obtain rfl : k = n := by omega
      have hge : ¬ ((k : Int) < (k : Int)) := by omega
      go_wp2
      go_end0
      exact ⟨⟨_, rfl⟩, HP.out, HBU.out⟩


end Go.Proofs.YtibjgoigdajkkaaDoor

namespace Go.Proofs.YtibjgoigdajkkaaDoor
open Go.RowKit

set_option maxRecDepth 100000 in
set_option maxHeartbeats 8000000 in
theorem best_any (D : PnS) (T : PnT) (w : World) (h : PlAt D w T) (i : Nat) (hi : i < D.n) (hex : ∃ d, 0 < d ∧ d ≤ D.cc ∧ T.tk i d ≠ 0) (f : Nat) (hf : earL T.col (D.ins i) = f) (hfl : f ≤ latN D T i) (sb : Option Addr) (sc : Nat) (l : List Int) (hl : l.length ≤ 4) (hr : ∀ k x, l[k]? = some x → ∃ b o, sb = some ⟨b, o, none⟩ ∧ w.cell? ⟨b, o + k, none⟩ = some (.int .i64 x)) (tf : Bool) :
    Calls Tryd.prog 72 #[.pointer (some ⟨D.pb, 0, none⟩), .int .i64 i, .slice sb l.length sc, .bool tf] w fun e w' => (∃ b : Nat, f ≤ b ∧ b ≤ latN D T i ∧ e = .returned (.int .i64 b)) ∧ ∃ n, w' = w.drewN n := by
  have EA := hidden (earliest_any D T w h i hi)
  have LA := hidden (latest_any D T w h i hi hex)
  rw [hf] at EA
  have hlc : latN D T i < D.cc := by
    have := (latK_spec (T.tk i) 0 D.cc (by obtain ⟨d, h1, h2, h3⟩ := hex; exact ⟨d, h1, by omega, h3⟩)).2.1
    unfold latN; omega
  have hcc := h.bs.cc.2.2
  have UA : Hid (∀ (n : Nat) (c : Int), Calls Tryd.prog 74 #[.slice sb l.length sc, .int .i64 c] (w.drewN n) fun e w' => ∃ m : Nat, m ≤ 4 ∧ e = .returned (.int .i64 m) ∧ w' = w.drewN n) := fun n c => unheld_any (w.drewN n) sb sc l c hl hr
  have TM : Hid (∀ (n c m : Nat), c < D.cc → m ≤ 4 → Calls Tryd.prog 73 #[.pointer (some ⟨D.pb, 0, none⟩), .int .i64 c, .int .i64 m] (w.drewN n) fun e w' => (∃ r : Int, 0 ≤ r ∧ r ≤ 2097160 ∧ e = .returned (.int .i64 r)) ∧ ∃ k, w' = (w.drewN n).drewN k) := fun n c m hc hm => tooMany_any D T (w.drewN n) (h.heap rfl) c hc m hm
  generalize D.pb = pb at *
  generalize D.cc = cc at *
  obtain ⟨ln, eln⟩ := exq l.length
  rw [← eln] at UA
  rw [← eln]
  generalize latN D T i = la at *
  have hdr : Hid (∀ a b, (w.drewN a).drewN b = w.drewN (a + b)) := fun a b => by
    simp [World.drewN, Nat.add_assoc]
  clear h hi hex hf hl hr eln
  go_enter Tryd.func72, Tryd.ntmps72
  go_wp2_with fail
  go_at_call 61
  refine EA.out.mono ?_
  rintro e v ⟨rfl, hv⟩
  rw [hv]
  clear hv v
  go_wp2_with fail
  go_at_call 57
  refine LA.out.mono ?_
  rintro e v ⟨rfl, hv⟩
  rw [hv]
  clear hv v EA LA
  go_wp2_with fail
  go_loopw [11, 12, 13, 14] (fun b' l' s' c' w' => ∃ (b c q : Nat) (le s : Int), f ≤ b ∧ b ≤ c ∧ c ≤ la ∧ f ≤ c ∧ (-2097160 * (c : Int) ≤ s ∧ s ≤ 2097160 * (c : Int)) ∧ (-2097160 * (c : Int) ≤ le ∧ le ≤ 2097160 * (c : Int)) ∧ b' = .int .i64 (b : Int) ∧ l' = .int .i64 le ∧ s' = .int .i64 s ∧ c' = .int .i64 (c : Int) ∧ Hid (w' = w.drewN q)) (fun _ _ _ c' _ => la - (intOf c').toNat)
  case atStart => exact ⟨f, f, 0, 0, 0, by omega, by omega, by omega, by omega, by omega, by omega, rfl, rfl, rfl, rfl, rfl⟩
  case round =>
    obtain ⟨b, c, q, le, s, h1, h2, h3, h4, h5, h6, rfl, rfl, rfl, rfl, HW⟩ := hrel
    by_cases hlt : c < la
    · have hltI : (c : Int) < (la : Int) := by omega
      rw [HW.out]
      clear HW
      go_wp2_with fail
      go_at_call 74
      refine (UA.out q c).mono ?_
      rintro e v ⟨m, hm, rfl, hv⟩
      rw [hv]
      clear hv v
      go_wp2_with fail
      go_at_call 73
      refine (TM.out q c m (by omega) hm).mono ?_
      rintro e v ⟨⟨r1, hr1, hr2, rfl⟩, q1, hv⟩
      rw [hdr.out] at hv
      rw [hv]
      clear hv v
      go_wp2_with fail
      go_at_call 73
      refine (TM.out _ c 1 (by omega) (by omega)).mono ?_
      rintro e v ⟨⟨r2, hr3, hr4, rfl⟩, q2, hv⟩
      rw [hdr.out] at hv
      rw [hv]
      clear hv v
      obtain ⟨q3, hq3⟩ := exq (q + q1 + q2)
      rw [← hq3]
      have HQ := hidden hq3
      clear hq3
      have e1 : IntKind.i64.wrap (r1 - r2) = r1 - r2 := wrapI _ (by omega) (by omega)
      have e2 : IntKind.i64.wrap (s + (r1 - r2)) = s + (r1 - r2) := wrapI _ (by omega) (by omega)
      have e3 : IntKind.i64.wrap ((c : Int) + 1) = (c : Int) + 1 := wrapI _ (by omega) (by omega)
      have hb2 : -2097160 * ((c + 1 : Nat) : Int) ≤ s + (r1 - r2) ∧ s + (r1 - r2) ≤ 2097160 * ((c + 1 : Nat) : Int) := by omega
      have hb3 : -2097160 * ((c + 1 : Nat) : Int) ≤ le ∧ le ≤ 2097160 * ((c + 1 : Nat) : Int) := by omega
      by_cases c1 : s + (r1 - r2) < le
      · clear hb3
        go_wp2
        go_roundw
        case measure => simp [intOf]; omega
        case rel => exact ⟨c + 1, c + 1, q3, _, _, by omega, by omega, by omega, by omega, hb2, hb2, by simp, rfl, rfl, by simp, rfl⟩
      · by_cases c2 : s + (r1 - r2) = le
        · cases tf with
          | true =>
            go_wp2
            go_roundw
            case measure => simp [intOf]; omega
            case rel => exact ⟨b, c + 1, q3, le, _, by omega, by omega, by omega, by omega, hb2, hb3, rfl, rfl, (by rw [c2]), by simp, rfl⟩
          | false =>
            go_wp2
            go_roundw
            case measure => simp [intOf]; omega
            case rel => exact ⟨c + 1, c + 1, q3, _, _, by omega, by omega, by omega, by omega, hb2, hb2, by simp, (by rw [c2]), (by rw [c2]), by simp, rfl⟩
        · skip
          go_wp2
          go_roundw
          case measure => simp [intOf]; omega
          case rel => exact ⟨b, c + 1, q3, le, _, by omega, by omega, by omega, by omega, hb2, hb3, rfl, rfl, rfl, by simp, rfl⟩
    · have hnI : ¬ (c : Int) < (la : Int) := by omega
      have HQ : Hid (wr = w.drewN q) := HW
      clear HW
      go_wp2
      go_ret
      exact ⟨⟨b, by omega, by omega, rfl⟩, q, HQ.out⟩


end Go.Proofs.YtibjgoigdajkkaaDoor
