import Derived.Test.YtjbnejjjbdalaaaDoorFbC
namespace Go.Proofs.YtjbnejjjbdalaaaDoor
open Go.RowKit

/-! The document's stream of bits -/
def strA (v : Value) (n p : Int) (ov : Bool) : Array Value := #[v, .int .i64 n, .int .i64 p, .bool ov]
/-- behind so many bits that were asked for -/
def stQ (a : Option Addr) (bs : List Nat) (c p : Nat) : Array Value := strA (.slice a bs.length c) 0 (min p (8 * bs.length) : Nat) (decide (8 * bs.length < p))
def takeV (bs : List Nat) (p n : Nat) : Nat := if p + n ≤ 8 * bs.length then numN bs p n else 0
theorem takeV_lt (bs : List Nat) (p n : Nat) : takeV bs p n < 2 ^ n := by
  unfold takeV
  split
  · exact numN_lt bs p n
  · exact Nat.pow_pos (by decide)

set_option maxRecDepth 100000 in
set_option maxHeartbeats 8000000 in
theorem take_doc (B : Nat) (w : World) (lb : Nat) (hB : B ≤ lb) (a : Option Addr) (c : Nat) (bs : List Nat) (p n : Nat) (hb : Blk w lb 48 (stQ a bs c p)) (R : RowAt B w a 1 (bs.map byteC)) (hl : bs.length < 281474976710656) (hby : ∀ x, x ∈ bs → x < 256) (hn : n ≤ 16) :
    Calls Tryd.prog 21 #[.pointer (some ⟨lb, 0, none⟩), .int .i64 (n : Int)] w fun e w' => e = .returned (.int .i64 ((takeV bs p n : Nat) : Int)) ∧ But lb w w' ∧ Blk w' lb 48 (stQ a bs c (p + n)) := by
  have HB0 := hidden hb
  have HRR := hidden R
  have HBY := hidden hby
  have HM8 : Hid (IntKind.i64.wrap (8 * (bs.length : Int)) = 8 * (bs.length : Int)) := wrapI _ (by omega) (by omega)
  have HBL : Hid (∀ i, bitN bs (p + i) < 2) := fun i => bitN_lt bs (p + i)
  have HNL : Hid (∀ i, numN bs p i < 2 ^ i) := fun i => numN_lt bs p i
  have hlb := hb.lt
  obtain ⟨m, HM⟩ : ∃ m, Hid (m = bs.length) := ⟨_, rfl⟩
  clear hb R hby
  go_enter Tryd.func21, Tryd.ntmps21
  go_wp2_with fail
  go_loopw [6, 5] (fun i' v' w' => ∃ (i v : Nat), i ≤ n ∧ i' = .int .i64 i ∧ v' = .int .i64 v ∧ v < 65536 ∧ Hid (v = numN bs p i) ∧ Hid (But lb w w') ∧ Hid (Blk w' lb 48 (stQ a bs c (p + i))) ∧ Hid (i = 0 ∨ p + i ≤ 8 * bs.length)) (fun i' _ _ => n - (intOf i').toNat)
  case atStart => exact ⟨0, 0, Nat.zero_le _, rfl, rfl, by decide, rfl, But.refl _ _, HB0.out, .inl rfl⟩
  case round =>
    obtain ⟨i, v, hi, rfl, rfl, hv, HV, HBu, HBk, HLE⟩ := hrel
    by_cases hlt : i < n
    · have hltI : (i : Int) < (n : Int) := by omega
      have ei : IntKind.i64.wrap ((i : Int) + 1) = (i : Int) + 1 := wrapI _ (by omega) (by omega)
      have ev : IntKind.i64.wrap (2 * (v : Int)) = 2 * (v : Int) := wrapI _ (by omega) (by omega)
      have e8 := HM8.out
      have f2 := HBk.out.frozen 2
      have f3 := HBk.out.frozen 3
      by_cases hin : p + i < 8 * bs.length
      · obtain ⟨P, hP⟩ : ∃ P, P = p + i := ⟨_, rfl⟩
        have HSQ : Hid (stQ a bs c (p + i) = strA (.slice a bs.length c) 0 ((P : Nat) : Int) false) := by
          show _ = _
          unfold stQ
          rw [Nat.min_eq_left (by omega), decide_eq_false (by omega), hP]
        have HSN : Hid (stQ a bs c (p + (i + 1)) = strA (.slice a bs.length c) 0 ((P + 1 : Nat) : Int) false) := by
          show _ = _
          unfold stQ
          rw [Nat.min_eq_left (by omega), decide_eq_false (by omega), hP]
          rfl
        rw [HSQ.out] at HBk
        obtain ⟨x, hx⟩ := getElem_lt (show P / 8 < bs.length by omega)
        obtain ⟨b, o, ea, hlb2, hc⟩ := HRR.out.byte hx
        have hx2 := HBY.out x (List.mem_of_getElem? hx)
        have HBV : Hid (bitN bs (p + i) = x / 2 ^ (7 - P % 8) % 2) := by show _ = _; rw [← hP]; unfold bitN; rw [getD_of hx]
        have hne : b ≠ lb := by omega
        have q0 : wr.cell? ⟨lb, 0, none⟩ = some (.slice a bs.length c) := HBk.out.cell rfl
        have q2 : wr.cell? ⟨lb, 2, none⟩ = some (.int .i64 (P : Int)) := HBk.out.cell rfl
        rw [ea] at q0
        obtain ⟨d, hd⟩ : ∃ d, d = P / 8 := ⟨_, rfl⟩
        obtain ⟨r, hr⟩ : ∃ r, r = P % 8 := ⟨_, rfl⟩
        rw [← hd] at hc
        rw [← hr] at HBV
        have cx : wr.cell? ⟨b, o + d, none⟩ = some (.int .u8 (x : Int)) := (HBu.out.below (B := B) hB (by omega)).cell (p := ⟨b, o + d, none⟩) hlb2 |>.trans hc
        have hr7 : r ≤ 7 := by omega
        have hdl : (d : Int) < (bs.length : Int) := by omega
        have z1 : (P : Int).tdiv 8 = (d : Int) := by rw [hd, Int.tdiv_eq_ediv_of_nonneg (by omega)]; omega
        have z2 : (P : Int).tmod 8 = (r : Int) := by rw [hr, Int.tmod_eq_emod_of_nonneg (by omega)]; omega
        have z3 : (P : Int) / 8 = (d : Int) := by rw [hd]; omega
        have z4 : (P : Int) % 8 = (r : Int) := by rw [hr]; omega
        have z5 : IntKind.i64.wrap (7 - (r : Int)) = ((7 - r : Nat) : Int) := by rw [wrapI _ (by omega) (by omega)]; omega
        have z6 : IntKind.i64.wrap ((P : Int) + 1) = (P : Int) + 1 := wrapI _ (by omega) (by omega)
        have hgeI : ¬ ((8 * (bs.length : Int)) ≤ (P : Int)) := by omega
        obtain ⟨q, HQ⟩ : ∃ q, Hid (bitN bs (p + i) = q) := ⟨_, rfl⟩
        have hq : q < 2 := by rw [← HQ.out]; exact HBL.out i
        have HN1 : Hid (2 * v + q = numN bs p (i + 1)) := by show _ = _; rw [numN, ← HV.out, HQ.out]
        have hn1 : 2 * v + q < 65536 := by
          have h1 := HNL.out (i + 1)
          have h2 : 2 ^ (i + 1) ≤ 2 ^ 16 := Nat.pow_le_pow_right (by decide) (by omega)
          rw [← HN1.out] at h1
          omega
        have HXQ : Hid ((x : Int) / 2 ^ (7 - r) % 2 = (q : Int)) := by
          show _ = _
          rw [shr8, ← HBV.out, HQ.out]
        have hl8 : p + i < 8 * bs.length := hin
        have HPI := hidden hP
        clear hx hd hr ea hlb2 HBV HSQ hin hP hc
        go_wp2_with fail
        go_quiet (fail)
        go_wp2_with fail
        go_quiet (fail)
        go_wp2
        have e0 : (x : Int) / 2 ^ (7 - r) = ((x / 2 ^ (7 - r) : Nat) : Int) := by simp
        have HTM : ((x : Int) / 2 ^ (7 - r)).tmod 2 = (q : Int) := by
          rw [Int.tmod_eq_emod_of_nonneg (by rw [e0]; exact Int.natCast_nonneg _)]; exact HXQ.out
        rw [HTM, show wrap64 ((q : Nat) : Int) = (q : Int) by unfold wrap64; omega, show wrap64 (2 * (v : Int) + (q : Int)) = ((2 * v + q : Nat) : Int) by unfold wrap64; omega]
        refine ⟨⟨i + 1, 2 * v + q, by omega, by simp, rfl, hn1, HN1.out, (HBu.out.drewN _).trans (But.set _ _ _ _), ?_, .inr (by omega)⟩, by simp [intOf]; omega⟩
        show Blk _ _ _ _
        rw [HSN.out]
        exact (Blk.drewN HBk.out _).set 2 _
      · have HSQ : Hid (stQ a bs c (p + i) = strA (.slice a bs.length c) 0 ((8 * bs.length : Nat) : Int) (decide (8 * bs.length < p + i))) := by
          show _ = _
          unfold stQ
          rw [Nat.min_eq_right (by omega)]
        have HSN : Hid (stQ a bs c (p + n) = strA (.slice a bs.length c) 0 ((8 * bs.length : Nat) : Int) true) := by
          show _ = _
          unfold stQ
          rw [Nat.min_eq_right (by omega), decide_eq_true (by omega)]
        have HTV : Hid (takeV bs p n = 0) := by
          show _ = _
          unfold takeV
          rw [if_neg (by omega)]
        rw [HSQ.out] at HBk
        have q0 : wr.cell? ⟨lb, 0, none⟩ = some (.slice a bs.length c) := HBk.out.cell rfl
        have q2 : wr.cell? ⟨lb, 2, none⟩ = some (.int .i64 (8 * (bs.length : Int))) := by rw [show (8 * (bs.length : Int)) = ((8 * bs.length : Nat) : Int) by omega]; exact HBk.out.cell rfl
        have q3 : wr.cell? ⟨lb, 3, none⟩ = some (.bool (decide (8 * bs.length < p + i))) := HBk.out.cell rfl
        generalize decide (8 * bs.length < p + i) = od at *
        clear HSQ hin HLE
        go_wp2_with fail
        go_quiet (fail)
        go_wp2
        go_ret
        refine ⟨by rw [HTV.out]; rfl, (HBu.out.drewN _).trans (But.set _ _ _ _), ?_⟩
        show Blk _ _ _ _
        rw [HSN.out]
        exact (Blk.drewN HBk.out _).set 3 _
    · have hge : ¬ ((i : Int) < (n : Int)) := by omega
      have HF : Hid (v = takeV bs p n) := by
        show _ = _
        have hin : i = n := by omega
        rw [HV.out, hin]
        unfold takeV
        split
        · rfl
        · rcases HLE.out with h | h
          · rw [← hin, h]; rfl
          · omega
      have HBK2 : Hid (Blk wr lb 48 (stQ a bs c (p + n))) := by rw [← show i = n by omega]; exact HBk.out
      go_wp2
      go_ret
      exact ⟨by rw [HF.out]; rfl, HBu.out, HBK2.out⟩

end Go.Proofs.YtjbnejjjbdalaaaDoor
