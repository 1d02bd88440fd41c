import Derived.Test.YtimmmlnememjiaaGreatDoorX
import Derived.Test.YtimmmlnememjiaaGreatDoorX04
import Derived.Test.YtimmmlnememjiaaGreatDoorX00
set_option maxRecDepth 100000
set_option maxHeartbeats 16000000
namespace Go.Proofs.YtimmmlnememjiaaGreatDoor
open Go.RowKit
theorem bcell {W w1 : World} (hb : Below W.heap.size W w1) : (∀ b o, b < W.heap.size → w1.cell? ⟨b, o, none⟩ = W.cell? ⟨b, o, none⟩) ∧ (∀ b o, b < W.heap.size → w1.frozen? ⟨b, o, none⟩ = W.frozen? ⟨b, o, none⟩) :=
 ⟨fun b o h => hb.cell (p := ⟨b, o, none⟩) h, fun b o h => hb.frozen (p := ⟨b, o, none⟩) h⟩
theorem strs_cells_at (w : World) (cs : Array Value) (t : TypeId) (n m : Nat) (hn : n = w.heap.size) (hm : cs.size = m) (h : cs.all isStr = true) :
  ∀ k : Nat, k < m → ∃ s, (w.alloc (.cells cs t)).cell? ⟨n, k, none⟩ = some (.string s) := by
 subst hn; subst hm; exact strs_cells w cs t h
theorem below_set5 {w w2 : World} (h : Below w.heap.size w w2) (u0 u1 u2 u3 u4 : Value) :
  Below w.heap.size w (((((w2.setCell ⟨w.heap.size, 0, none⟩ u0).setCell ⟨w.heap.size, 1, none⟩ u1).setCell ⟨w.heap.size, 2, none⟩ u2).setCell ⟨w.heap.size, 3, none⟩ u3).setCell ⟨w.heap.size, 4, none⟩ u4) :=
 ((((h.setCell (Nat.le_refl _) u0).setCell (Nat.le_refl _) u1).setCell (Nat.le_refl _) u2).setCell (Nat.le_refl _) u3).setCell (Nat.le_refl _) u4
theorem tokOk_up {s : ByteArray} {p p' q : Nat} {kind atk width num : Int} {T : ByteArray} (h : TokOk s p' q kind atk width num T) (hp : p ≤ p') : TokOk s p q kind atk width num T := by
 obtain ⟨h1, h2, h3, h4, h5, h6⟩ := h
 exact ⟨by omega, h2, h3, h4, fun h => by have := h5 h; omega, h6⟩
theorem tokOk_txt {s : ByteArray} {p q r : Nat} {kind : Int} (hs : s.size ≤ 60000) (hpq : p ≤ q) (hqr : q < r) (hr : r ≤ s.size) (hk : 1 ≤ kind) (hk3 : kind ≤ 3) (h40 : kind = 1 → r - q ≤ 40) :
  TokOk s p r kind q 0 0 (s.extract q r) := by
 refine ⟨by omega, hr, by omega, by omega, fun _ => by omega, by omega, by omega, by omega, by omega, by omega, by omega, ?_, ?_⟩
 ·simp [ByteArray.size_extract]; omega
 ·intro h; have := h40 h; simp [ByteArray.size_extract]; omega
theorem lexPost_txt {s : ByteArray} {p q r : Nat} {kind ri : Int} {w w' : World} (hri : ri = r) (hs : s.size ≤ 60000) (hpq : p ≤ q) (hqr : q < r) (hr : r ≤ s.size) (hk : 1 ≤ kind) (hk3 : kind ≤ 3) (h40 : kind = 1 → r - q ≤ 40) (hb : Below w.heap.size w w') :
  LexPost s p w (.returned (.tuple #[.agg #[.int .i64 kind, .int .i64 q, .int .i64 0, .string (s.extract q r), .int .u64 0], .int .i64 ri])) w' := by
 subst hri
 exact ⟨kind, q, 0, 0, _, r, rfl, tokOk_txt hs hpq hqr hr hk hk3 h40, hb⟩
theorem lex_any (s : ByteArray) (p : Nat) (hs : s.size ≤ 60000) (hp : p ≤ s.size) (w : World) :
  Calls Tryz.prog 15 #[.string s, .int .i64 p] w (LexPost s p w) := by
 go_enter Tryz.func15, Tryz.ntmps15
 go_wp2_with fail
 refine (skip_any s p hs hp _).mono ?_
 rintro e w1 ⟨q, ok, hpq, hq, rfl, rfl⟩
 cases ok
 case false =>
  go_wp2_with fail
  exact bodyPost_ret (v := .tuple #[.agg #[.int .i64 4, .int .i64 q, .int .i64 0, .string ⟨#[]⟩, .int .u64 0], .int .i64 q]) (by simp [results, Tryz.results15, go_sem]) rfl (lexPost_bad hs hpq hq ((Below.refl _ _).alloc (Nat.le_refl _) _))
 case true =>
  by_cases hql : q < s.size
  ·have hne : ((q : Int) == (s.size : Int)) = false := beq_eq_false_iff_ne.2 (by omega)
   cases hd : isDig s[q]
   case true =>
    go_wp2_with fail
    refine (digit_any _ _).mono ?_
    rintro e w1 ⟨rfl, rfl⟩
    go_wp2_with fail
    refine (number_any s q hs hq _).mono ?_
    rintro e w2 ⟨kind, atk, width, num, T, r, rfl, htok, hb⟩
    have HT : Hid (TokOk s p r kind atk width num T) := tokOk_up htok hpq
    clear htok
    obtain ⟨hc, hf⟩ := bcell hb
    have hz : w.heap.size < w2.heap.size := by have := hb.size; simp at this; omega
    go_wp2_with fail
    have hB : Below w.heap.size w w2 := ((Below.refl _ _).alloc (Nat.le_refl _) _).trans (hb.mono (by simp))
    exact bodyPost_ret (v := .tuple #[.agg #[.int .i64 kind, .int .i64 atk, .int .i64 width, .string T, .int .u64 num], .int .i64 r]) (by simp [results, Tryz.results15, go_sem, hc]) rfl ⟨kind, atk, width, num, T, r, rfl, HT.out, below_set5 hB _ _ _ _ _⟩
   case false =>
    cases hl : isLet s[q]
    case true =>
     go_wp2_with (first | (go_at_call 35; refine (letter_any _ _).mono ?_; rintro e w' ⟨rfl, rfl⟩) | (go_at_call 33; refine (digit_any _ _).mono ?_; rintro e w' ⟨rfl, rfl⟩))
     go_loop [8] (fun i => ∃ k : Nat, q ≤ k ∧ k ≤ s.size ∧ i = .int .i64 k) (fun i => s.size - (intOf i).toNat)
     case atStart => exact ⟨q, Nat.le_refl _, by omega, rfl⟩
     case round =>
      obtain ⟨k, hk, hk2, rfl⟩ := hrel
      by_cases hks : k < s.size
      ·cases hlk : isLet s[k]
       case true =>
        go_wp2_with (first | (go_at_call 35; refine (letter_any _ _).mono ?_; rintro e w' ⟨rfl, rfl⟩) | (go_at_call 33; refine (digit_any _ _).mono ?_; rintro e w' ⟨rfl, rfl⟩))
        exact ⟨⟨k + 1, by omega, by omega, by go_num⟩, by simp [intOf]; omega⟩
       case false =>
        cases hdk : isDig s[k]
        case true =>
         go_wp2_with (first | (go_at_call 35; refine (letter_any _ _).mono ?_; rintro e w' ⟨rfl, rfl⟩) | (go_at_call 33; refine (digit_any _ _).mono ?_; rintro e w' ⟨rfl, rfl⟩))
         exact ⟨⟨k + 1, by omega, by omega, by go_num⟩, by simp [intOf]; omega⟩
        case false =>
         have hqk : q < k := by
          rcases Nat.lt_or_ge q k with h | h
          ·exact h
          ·exfalso; have e : k = q := by omega
           subst e; rw [hl] at hlk; exact absurd hlk (by decide)
         go_wp2_with (first | (go_at_call 35; refine (letter_any _ _).mono ?_; rintro e w' ⟨rfl, rfl⟩) | (go_at_call 33; refine (digit_any _ _).mono ?_; rintro e w' ⟨rfl, rfl⟩))
         refine (word_any _ _).mono ?_
         rintro e w3 ⟨⟨rb, rfl⟩, hb⟩
         obtain ⟨hc, hf⟩ := bcell hb
         have hB : Below w.heap.size w w3 := ((Below.refl _ _).alloc (Nat.le_refl _) _).trans (hb.mono (by simp))
         cases rb
         case true =>
          go_wp2_with fail
          exact bodyPost_ret (v := .tuple #[.agg #[.int .i64 3, .int .i64 q, .int .i64 0, .string (s.extract q k), .int .u64 0], .int .i64 k]) (by simp [results, Tryz.results15, go_sem, hc]) rfl ⟨3, q, 0, 0, _, k, rfl, tokOk_txt hs hpq hqk hk2 (by decide) (by decide) (fun h => absurd h (by decide)), below_set5 hB _ _ _ _ _⟩
         case false =>
          by_cases h40 : 40 < (k : Int) - q
          ·go_wp2_with fail
           exact bodyPost_ret (v := .tuple #[.agg #[.int .i64 4, .int .i64 q, .int .i64 0, .string ⟨#[]⟩, .int .u64 0], .int .i64 q]) (by simp [results, Tryz.results15, go_sem, hc]) rfl (lexPost_bad hs hpq hq (below_set5 hB _ _ _ _ _))
          ·go_wp2_with fail
           exact bodyPost_ret (v := .tuple #[.agg #[.int .i64 1, .int .i64 q, .int .i64 0, .string (s.extract q k), .int .u64 0], .int .i64 k]) (by simp [results, Tryz.results15, go_sem, hc]) rfl ⟨1, q, 0, 0, _, k, rfl, tokOk_txt hs hpq hqk hk2 (by decide) (by decide) (fun _ => by omega), below_set5 hB _ _ _ _ _⟩
      ·have hqk : q < k := by omega
       go_wp2_with (first | (go_at_call 35; refine (letter_any _ _).mono ?_; rintro e w' ⟨rfl, rfl⟩) | (go_at_call 33; refine (digit_any _ _).mono ?_; rintro e w' ⟨rfl, rfl⟩))
       refine (word_any _ _).mono ?_
       rintro e w3 ⟨⟨rb, rfl⟩, hb⟩
       obtain ⟨hc, hf⟩ := bcell hb
       have hB : Below w.heap.size w w3 := ((Below.refl _ _).alloc (Nat.le_refl _) _).trans (hb.mono (by simp))
       cases rb
       case true =>
        go_wp2_with fail
        exact bodyPost_ret (v := .tuple #[.agg #[.int .i64 3, .int .i64 q, .int .i64 0, .string (s.extract q k), .int .u64 0], .int .i64 k]) (by simp [results, Tryz.results15, go_sem, hc]) rfl ⟨3, q, 0, 0, _, k, rfl, tokOk_txt hs hpq hqk hk2 (by decide) (by decide) (fun h => absurd h (by decide)), below_set5 hB _ _ _ _ _⟩
       case false =>
        by_cases h40 : 40 < (k : Int) - q
        ·go_wp2_with fail
         exact bodyPost_ret (v := .tuple #[.agg #[.int .i64 4, .int .i64 q, .int .i64 0, .string ⟨#[]⟩, .int .u64 0], .int .i64 q]) (by simp [results, Tryz.results15, go_sem, hc]) rfl (lexPost_bad hs hpq hq (below_set5 hB _ _ _ _ _))
        ·go_wp2_with fail
         exact bodyPost_ret (v := .tuple #[.agg #[.int .i64 1, .int .i64 q, .int .i64 0, .string (s.extract q k), .int .u64 0], .int .i64 k]) (by simp [results, Tryz.results15, go_sem, hc]) rfl ⟨1, q, 0, 0, _, k, rfl, tokOk_txt hs hpq hqk hk2 (by decide) (by decide) (fun _ => by omega), below_set5 hB _ _ _ _ _⟩
    case false =>
     by_cases h2 : q + 1 < s.size
     ·go_wp2_with (first | (go_at_call 35; refine (letter_any _ _).mono ?_; rintro e w' ⟨rfl, rfl⟩) | (go_at_call 33; refine (digit_any _ _).mono ?_; rintro e w' ⟨rfl, rfl⟩))
      refine (among_any _ _ 8 (by decide) _ (strs_cells_at _ _ _ _ _ (by simp) rfl (by decide +kernel))).mono ?_
      rintro e w3 ⟨⟨rb, rfl⟩, rfl⟩
      cases rb
      case true =>
       go_wp2_with fail
       exact bodyPost_ret (v := .tuple #[.agg #[.int .i64 3, .int .i64 q, .int .i64 0, .string (s.extract q (q + 2)), .int .u64 0], .int .i64 ((q : Int) + 2)]) (by simp [results, Tryz.results15, go_sem]) rfl (lexPost_txt (by omega) hs hpq (by omega) (by omega) (by decide) (by decide) (fun h => absurd h (by decide)) (((Below.refl _ _).alloc (Nat.le_refl _) _).alloc (by simp) _))
      case false =>
       go_wp2_with fail
       refine (among_any _ _ 24 (by decide) _ (strs_cells_at _ _ _ _ _ (by simp) rfl (by decide +kernel))).mono ?_
       rintro e w4 ⟨⟨rb, rfl⟩, rfl⟩
       cases rb
       case true =>
        go_wp2_with fail
        exact bodyPost_ret (v := .tuple #[.agg #[.int .i64 3, .int .i64 q, .int .i64 0, .string (s.extract q (q + 1)), .int .u64 0], .int .i64 ((q : Int) + 1)]) (by simp [results, Tryz.results15, go_sem]) rfl (lexPost_txt (by omega) hs hpq (by omega) (by omega) (by decide) (by decide) (fun h => absurd h (by decide)) ((((Below.refl _ _).alloc (Nat.le_refl _) _).alloc (by simp) _).alloc (by simp; omega) _))
       case false =>
        go_wp2_with fail
        exact bodyPost_ret (v := .tuple #[.agg #[.int .i64 4, .int .i64 q, .int .i64 0, .string ⟨#[]⟩, .int .u64 0], .int .i64 q]) (by simp [results, Tryz.results15, go_sem]) rfl (lexPost_bad hs hpq hq ((((Below.refl _ _).alloc (Nat.le_refl _) _).alloc (by simp) _).alloc (by simp; omega) _))
     ·go_wp2_with (first | (go_at_call 35; refine (letter_any _ _).mono ?_; rintro e w' ⟨rfl, rfl⟩) | (go_at_call 33; refine (digit_any _ _).mono ?_; rintro e w' ⟨rfl, rfl⟩))
      refine (among_any _ _ 24 (by decide) _ (strs_cells_at _ _ _ _ _ (by simp) rfl (by decide +kernel))).mono ?_
      rintro e w3 ⟨⟨rb, rfl⟩, rfl⟩
      cases rb
      case true =>
       go_wp2_with fail
       exact bodyPost_ret (v := .tuple #[.agg #[.int .i64 3, .int .i64 q, .int .i64 0, .string (s.extract q (q + 1)), .int .u64 0], .int .i64 ((q : Int) + 1)]) (by simp [results, Tryz.results15, go_sem]) rfl (lexPost_txt (by omega) hs hpq (by omega) (by omega) (by decide) (by decide) (fun h => absurd h (by decide)) (((Below.refl _ _).alloc (Nat.le_refl _) _).alloc (by simp) _))
      case false =>
       go_wp2_with fail
       exact bodyPost_ret (v := .tuple #[.agg #[.int .i64 4, .int .i64 q, .int .i64 0, .string ⟨#[]⟩, .int .u64 0], .int .i64 q]) (by simp [results, Tryz.results15, go_sem]) rfl (lexPost_bad hs hpq hq (((Below.refl _ _).alloc (Nat.le_refl _) _).alloc (by simp) _))
  ·have hne : ((q : Int) == (s.size : Int)) = true := beq_iff_eq.2 (by omega)
   go_wp2_with fail
   exact bodyPost_ret (v := .tuple #[.agg #[.int .i64 0, .int .i64 q, .int .i64 0, .string ⟨#[]⟩, .int .u64 0], .int .i64 q]) (by simp [results, Tryz.results15, go_sem]) rfl ⟨0, q, 0, 0, _, q, rfl, ⟨hpq, hq, by omega, by omega, by omega, by omega, by omega, by omega, by omega, by omega, by omega, by decide, by omega⟩, (Below.refl _ _).alloc (Nat.le_refl _) _⟩
theorem _root_.Go.hI {p : Prop} (h : p) : Hid p := h
theorem fail_zero (br : Nat) (s : ByteArray) (k a wd : Int) (T : ByteArray) (n : Int) (q : Nat) (fa : Int) (w : World) (h : Rd br s w k a wd T n q 0 fa) :
  Calls Tryz.prog 38 #[.pointer (some ⟨br, 0, none⟩)] w fun e w' => e = .returned (.tuple #[]) ∧ Rd br s w' k a wd T n q 1 a ∧ Kq br w w' := by
 obtain ⟨c0, c1, c2, c3, c4, c5, c6, c7, c8, fz⟩ := h.all
 have H : Hid (Rd br s w k a wd T n q 0 fa) := h
 clear h
 go_enter Tryz.func38, Tryz.ntmps38
 go_wp2
 go_end0
 refine ⟨rfl, ?_, ?_⟩
 ·have h1 := heap_setCell_self (o := 7) (u := .int .i64 1) H.out
  have h2 := heap_setCell_self (o := 8) (u := .int .i64 a) h1
  exact h2
 ·exact ((Kq.refl _ _).setRd _ _).setRd _ _
theorem fail_some (br : Nat) (s : ByteArray) (k a wd : Int) (T : ByteArray) (n : Int) (q : Nat) (c fa : Int) (w : World) (h : Rd br s w k a wd T n q c fa) (hc : (c == 0) = false) :
  Calls Tryz.prog 38 #[.pointer (some ⟨br, 0, none⟩)] w fun e w' => e = .returned (.tuple #[]) ∧ w' = w := by
 obtain ⟨c0, c1, c2, c3, c4, c5, c6, c7, c8, fz⟩ := h.all
 clear h
 go_enter Tryz.func38, Tryz.ntmps38
 go_wp2
 go_end0
 exact ⟨rfl, rfl⟩
theorem step_some (br : Nat) (s : ByteArray) (k a wd : Int) (T : ByteArray) (n : Int) (q : Nat) (c fa : Int) (w : World) (h : Rd br s w k a wd T n q c fa) (hc : (c == 0) = false) :
  Calls Tryz.prog 9 #[.pointer (some ⟨br, 0, none⟩)] w fun e w' => e = .returned (.tuple #[]) ∧ w' = w := by
 obtain ⟨c0, c1, c2, c3, c4, c5, c6, c7, c8, fz⟩ := h.all
 clear h
 go_enter Tryz.func9, Tryz.ntmps9
 go_wp2
 go_end0
 exact ⟨rfl, rfl⟩
theorem step_zero (br : Nat) (s : ByteArray) (k a wd : Int) (T : ByteArray) (n : Int) (q : Nat) (fa : Int) (w : World) (h : Rd br s w k a wd T n q 0 fa) (hs : s.size ≤ 60000) (hq : q ≤ s.size) :
  Calls Tryz.prog 9 #[.pointer (some ⟨br, 0, none⟩)] w fun e w' => e = .returned (.tuple #[]) ∧ (∃ (k' a' wd' n' : Int) (T' : ByteArray) (q' : Nat), Rd br s w' k' a' wd' T' n' q' 0 fa ∧ TokOk s q q' k' a' wd' n' T') ∧ Kq br w w' := by
 obtain ⟨c0, c1, c2, c3, c4, c5, c6, c7, c8, fz⟩ := h.all
 have H : Hid (Rd br s w k a wd T n q 0 fa) := h
 have hlt := h.lt
 clear h
 go_enter Tryz.func9, Tryz.ntmps9
 go_wp2_with fail
 go_region_with (go_at_call 15; refine (lex_any s q hs hq _).mono ?_; rintro e w2 ⟨kind, atk, width, num, T', r, rfl, htok, hb⟩; have HB := hI hb; have hR2 : Rd br s w2 k a wd T n q 0 fa := (hb.block br hlt).trans H.out; clear hb; obtain ⟨d0, d1, d2, d3, d4, d5, d6, d7, d8, fz2⟩ := hR2.all; have HR2 := hI hR2; clear hR2; have HT := hI htok; clear htok)
 all_goals
  go_wp2_with fail
  go_end0
  refine ⟨rfl, ⟨kind, atk, width, num, T', r, ?_, HT.out⟩, ?_⟩
  ·have h1 := heap_setCell_self (o := 1) (u := .int .i64 kind) HR2.out
   have h2 := heap_setCell_self (o := 2) (u := .int .i64 atk) h1
   have h3 := heap_setCell_self (o := 3) (u := .int .i64 width) h2
   have h4 := heap_setCell_self (o := 4) (u := .string T') h3
   have h5 := heap_setCell_self (o := 5) (u := .int .u64 num) h4
   have h6 := heap_setCell_self (o := 6) (u := .int .i64 r) h5
   exact h6
  ·have hk : Kq br w w2 := (Kq.of_below HB.out).undrew
   exact (((((hk.setRd _ _).setRd _ _).setRd _ _).setRd _ _).setRd _ _).setRd _ _
def St (br : Nat) (s : ByteArray) (w : World) (c : Int) (m : Nat) (k wd n : Int) (T : ByteArray) : Prop :=
 ∃ (a : Int) (q : Nat) (fa : Int), Rd br s w k a wd T n q c fa ∧ s.size ≤ 60000 ∧ q ≤ s.size ∧ 0 ≤ k ∧ k ≤ 4 ∧ 0 ≤ wd ∧ wd ≤ 32 ∧ 0 ≤ n ∧ n < 4294967296 ∧ T.size ≤ 60000 ∧ (k = 1 → T.size ≤ 40) ∧
  m = s.size - q + (if 1 ≤ k ∧ k ≤ 3 then 1 else 0)
def Sx (br : Nat) (s : ByteArray) (w : World) (c : Int) (m : Nat) : Prop := ∃ (k wd n : Int) (T : ByteArray), St br s w c m k wd n T
def Adv (c : Int) (m : Nat) (c' : Int) (m' : Nat) : Prop := m' ≤ m ∧ (c' = 0 → c = 0 ∧ m' < m)
theorem Adv.trans {c c' c'' : Int} {m m' m'' : Nat} (h : Adv c m c' m') (h' : Adv c' m' c'' m'') : Adv c m c'' m'' :=
 ⟨Nat.le_trans h'.1 h.1, fun e => ⟨(h.2 (h'.2 e).1).1, Nat.lt_of_le_of_lt (Nat.le_of_lt (h'.2 e).2) (h.2 (h'.2 e).1).2⟩⟩
theorem St.lt {br : Nat} {s : ByteArray} {w : World} {c : Int} {m : Nat} {k wd n : Int} {T : ByteArray} (h : St br s w c m k wd n T) : br < w.heap.size := by
 obtain ⟨a, q, fa, h, _⟩ := h; exact h.lt
theorem Sx.lt {br : Nat} {s : ByteArray} {w : World} {c : Int} {m : Nat} (h : Sx br s w c m) : br < w.heap.size := by
 obtain ⟨k, wd, n, T, h⟩ := h; exact h.lt
theorem St.to {br : Nat} {s : ByteArray} {w w' : World} {c : Int} {m : Nat} {k wd n : Int} {T : ByteArray} (h : St br s w c m k wd n T) (hb : w'.heap[br]? = w.heap[br]?) : St br s w' c m k wd n T := by
 obtain ⟨a, q, fa, h, h'⟩ := h
 exact ⟨a, q, fa, hb.trans h, h'⟩
theorem Sx.to {br : Nat} {s : ByteArray} {w w' : World} {c : Int} {m : Nat} (h : Sx br s w c m) (hb : w'.heap[br]? = w.heap[br]?) : Sx br s w' c m := by
 obtain ⟨k, wd, n, T, h⟩ := h; exact ⟨k, wd, n, T, h.to hb⟩
theorem Sx.alloc {br : Nat} {s : ByteArray} {w : World} {c : Int} {m : Nat} (h : Sx br s w c m) (o : Obj) : Sx br s (w.alloc o) c m :=
 h.to (Below.heap_alloc _ _ _ h.lt)
theorem St.alloc {br : Nat} {s : ByteArray} {w : World} {c : Int} {m : Nat} {k wd n : Int} {T : ByteArray} (h : St br s w c m k wd n T) (o : Obj) : St br s (w.alloc o) c m k wd n T :=
 h.to (Below.heap_alloc _ _ _ h.lt)
theorem Sx.drew {br : Nat} {s : ByteArray} {w : World} {c : Int} {m : Nat} (h : Sx br s w c m) : Sx br s w.drew c m := h.to rfl
theorem St.drew {br : Nat} {s : ByteArray} {w : World} {c : Int} {m : Nat} {k wd n : Int} {T : ByteArray} (h : St br s w c m k wd n T) : St br s w.drew c m k wd n T := h.to rfl
theorem Sx.setCell {br : Nat} {s : ByteArray} {w : World} {c : Int} {m : Nat} (h : Sx br s w c m) {b o : Nat} (hb : br ≠ b) (u : Value) : Sx br s (w.setCell ⟨b, o, none⟩ u) c m :=
 h.to (Below.heap_setCell _ _ _ _ hb)
theorem St.sx {br : Nat} {s : ByteArray} {w : World} {c : Int} {m : Nat} {k wd n : Int} {T : ByteArray} (h : St br s w c m k wd n T) : Sx br s w c m := ⟨k, wd, n, T, h⟩
def IsPost (c k : Int) (w : World) (e : Ending) (w' : World) : Prop := ∃ b : Bool, e = .returned (.bool b) ∧ w' = w ∧ (b = true → c = 0 ∧ k = 3)
theorem is_st {br : Nat} {s : ByteArray} {w : World} {c : Int} {m : Nat} {k wd n : Int} {T : ByteArray} (h : St br s w c m k wd n T) (t : ByteArray) :
  Calls Tryz.prog 20 #[.pointer (some ⟨br, 0, none⟩), .string t] w (IsPost c k w) := by
 obtain ⟨a, q, fa, hr, h'⟩ := h
 refine (is_any br s k a wd T n q c fa t w hr).mono ?_
 rintro e w' ⟨rfl, rfl⟩
 refine ⟨_, rfl, rfl, fun hb => ?_⟩
 simp only [Bool.and_eq_true, beq_iff_eq] at hb
 exact hb.1
def StepPost (br : Nat) (s : ByteArray) (m : Nat) (w : World) (e : Ending) (w' : World) : Prop :=
 e = .returned (.tuple #[]) ∧ Kq br w w' ∧ ∃ m', m' < m ∧ Sx br s w' 0 m'
theorem step_st {br : Nat} {s : ByteArray} {w : World} {m : Nat} {k wd n : Int} {T : ByteArray} (h : St br s w 0 m k wd n T) (hk : 1 ≤ k) (hk3 : k ≤ 3) :
  Calls Tryz.prog 9 #[.pointer (some ⟨br, 0, none⟩)] w (StepPost br s m w) := by
 obtain ⟨a, q, fa, hr, hs, hq, h1, h2, h3, h4, h5, h6, h7, h8, hm⟩ := h
 refine (step_zero br s k a wd T n q fa w hr hs hq).mono ?_
 rintro e w' ⟨rfl, ⟨k', a', wd', n', T', q', hr', ht⟩, hk'⟩
 obtain ⟨t1, t2, t3, t4, t5, t6, t7, t8, t9, t10, t11, t12, t13⟩ := ht
 refine ⟨rfl, hk', s.size - q' + (if 1 ≤ k' ∧ k' ≤ 3 then 1 else 0), ?_, k', wd', n', T', a', q', fa, hr', hs, t2, t3, t4, t8, t9, t10, t11, t12, t13, rfl⟩
 rw [if_pos ⟨hk, hk3⟩] at hm
 by_cases hh : 1 ≤ k' ∧ k' ≤ 3
 ·rw [if_pos hh]; have := t5 hh; omega
 ·rw [if_neg hh]; omega
def FailPost (br : Nat) (s : ByteArray) (m : Nat) (w : World) (e : Ending) (w' : World) : Prop :=
 e = .returned (.tuple #[]) ∧ Kq br w w' ∧ ∃ c', c' ≠ 0 ∧ Sx br s w' c' m
theorem fail_st {br : Nat} {s : ByteArray} {w : World} {c : Int} {m : Nat} (h : Sx br s w c m) :
  Calls Tryz.prog 38 #[.pointer (some ⟨br, 0, none⟩)] w (FailPost br s m w) := by
 obtain ⟨k, wd, n, T, a, q, fa, hr, h'⟩ := h
 by_cases hc : c = 0
 ·subst hc
  refine (fail_zero br s k a wd T n q fa w hr).mono ?_
  rintro e w' ⟨rfl, hr', hk'⟩
  exact ⟨rfl, hk', 1, by decide, k, wd, n, T, a, q, a, hr', h'⟩
 ·refine (fail_some br s k a wd T n q c fa w hr (beq_eq_false_iff_ne.2 hc)).mono ?_
  rintro e w' ⟨rfl, rfl⟩
  exact ⟨rfl, Kq.refl _ _, c, hc, k, wd, n, T, a, q, fa, hr, h'⟩
def AccPost (br : Nat) (s : ByteArray) (c : Int) (m : Nat) (w : World) (e : Ending) (w' : World) : Prop :=
 ∃ b : Bool, e = .returned (.bool b) ∧ Kq br w w' ∧ ((b = true ∧ c = 0 ∧ ∃ m', m' < m ∧ Sx br s w' 0 m') ∨ (b = false ∧ w' = w))
theorem accept_any {br : Nat} {s : ByteArray} {w : World} {c : Int} {m : Nat} (h : Sx br s w c m) (t : ByteArray) :
  Calls Tryz.prog 18 #[.pointer (some ⟨br, 0, none⟩), .string t] w (AccPost br s c m w) := by
 obtain ⟨k, wd, n, T, h⟩ := h
 have H := hI h
 clear h
 go_enter Tryz.func18, Tryz.ntmps18
 go_wp2_with fail
 refine (is_st H.out t).mono ?_
 rintro e w' ⟨b, rfl, rfl, hb⟩
 have HB := hI hb
 clear hb
 cases b
 case false =>
  go_wp2_with fail
  go_ret
  exact ⟨false, rfl, Kq.refl _ _, Or.inr ⟨rfl, rfl⟩⟩
 case true =>
  obtain ⟨hc, hk⟩ := HB.out rfl
  subst hc; subst hk
  go_wp2_with fail
  refine (step_st H.out (by decide) (by decide)).mono ?_
  rintro e w1 ⟨rfl, hk1, m', hm', hx⟩
  have HX := hI hx
  have HK := hI hk1
  clear hx hk1
  go_wp2_with fail
  go_ret
  exact ⟨true, rfl, HK.out, Or.inl ⟨rfl, rfl, m', hm', HX.out⟩⟩
def MustPost (br : Nat) (s : ByteArray) (c : Int) (m : Nat) (w : World) (e : Ending) (w' : World) : Prop :=
 e = .returned (.tuple #[]) ∧ Kq br w w' ∧ ∃ (c' : Int) (m' : Nat), Sx br s w' c' m' ∧ Adv c m c' m'
theorem must_any {br : Nat} {s : ByteArray} {w : World} {c : Int} {m : Nat} (h : Sx br s w c m) (t : ByteArray) :
  Calls Tryz.prog 16 #[.pointer (some ⟨br, 0, none⟩), .string t] w (MustPost br s c m w) := by
 have H := hI h
 clear h
 go_enter Tryz.func16, Tryz.ntmps16
 go_wp2_with fail
 refine (accept_any H.out t).mono ?_
 rintro e w' ⟨b, rfl, hk, hh⟩
 have HH := hI hh
 have HK := hI hk
 clear hh hk
 cases b
 case false =>
  rcases HH.out with ⟨h1, _⟩ | ⟨_, rfl⟩
  ·cases h1
  ·go_wp2_with fail
   refine (fail_st H.out).mono ?_
   rintro e w1 ⟨rfl, hk1, c', hc', hx⟩
   have HX := hI hx
   have HK1 := hI hk1
   clear hx hk1
   go_wp2_with fail
   go_end0
   exact ⟨rfl, HK1.out, c', m, HX.out, Nat.le_refl _, fun e => absurd e hc'⟩
 case true =>
  rcases HH.out with ⟨_, rfl, m', hm', hx⟩ | ⟨h1, _⟩
  ·have HX := hI hx
   clear hx
   go_wp2_with fail
   go_end0
   exact ⟨rfl, HK.out, 0, m', HX.out, Nat.le_of_lt hm', fun _ => ⟨rfl, hm'⟩⟩
  ·cases h1
theorem Kq.cell {br : Nat} {w w' : World} (h : Kq br w w') {b : Nat} (hb : b < w.heap.size) (hn : b ≠ br) (o : Nat) : w'.cell? ⟨b, o, none⟩ = w.cell? ⟨b, o, none⟩ :=
 World.cell?_of_block (w := w) (a := ⟨b, o, none⟩) (h.block b hb hn)
theorem Kq.frozen {br : Nat} {w w' : World} (h : Kq br w w') {b : Nat} (hb : b < w.heap.size) (hn : b ≠ br) (o : Nat) : w'.frozen? ⟨b, o, none⟩ = w.frozen? ⟨b, o, none⟩ :=
 World.frozen?_of_block (w := w) (a := ⟨b, o, none⟩) (h.block b hb hn)
def NamePost (br : Nat) (s : ByteArray) (c : Int) (m : Nat) (w : World) (e : Ending) (w' : World) : Prop :=
 ∃ T : ByteArray, e = .returned (.string T) ∧ T.size ≤ 40 ∧ Kq br w w' ∧ ∃ (c' : Int) (m' : Nat), Sx br s w' c' m' ∧ Adv c m c' m'
theorem name_any {br : Nat} {s : ByteArray} {w : World} {c : Int} {m : Nat} (h : Sx br s w c m) :
  Calls Tryz.prog 17 #[.pointer (some ⟨br, 0, none⟩)] w (NamePost br s c m w) := by
 obtain ⟨k, wd, n, T, h⟩ := h
 have H := hI h
 obtain ⟨a, q, fa, hr, hs, hq, h1, h2, h3, h4, h5, h6, h7, h8, hm⟩ := h
 have H8 := hI h8
 have hlt := hr.lt
 obtain ⟨c0, c1, c2, c3, c4, c5, c6, c7, c8, fz⟩ := hr.all
 clear hr h1 h2 h3 h4 h5 h6 h7 h8 hm hs hq
 by_cases hc : c = 0
 ·subst hc
  by_cases hk : k = 1
  ·subst hk
   have hT : T.size ≤ 40 := H8.out rfl
   clear H8
   go_enter Tryz.func17, Tryz.ntmps17
   go_wp2_with fail
   refine (step_st (H.out.alloc _) (by decide) (by decide)).mono ?_
   rintro e w1 ⟨rfl, hk1, m', hm', hx⟩
   have HX := hI hx
   have HK := hI hk1
   have hbox : w1.cell? ⟨w.heap.size, 3, none⟩ = some (.string T) := by
    rw [hk1.cell (by simp) (by omega)]; simp
   clear hx hk1
   go_wp2_with fail
   go_ret
   exact ⟨T, rfl, hT, ((Kq.refl _ _).alloc _).trans HK.out, 0, m', HX.out, Nat.le_of_lt hm', fun _ => ⟨rfl, hm'⟩⟩
  ·have hk' : (k != 1) = true := bne_iff_ne.2 hk
   clear hk
   go_enter Tryz.func17, Tryz.ntmps17
   go_wp2_with fail
   refine (fail_st (H.out.sx.alloc _)).mono ?_
   rintro e w1 ⟨rfl, hk1, c', hc', hx⟩
   have HX := hI hx
   have HK := hI hk1
   clear hx hk1
   go_wp2_with fail
   go_ret
   exact ⟨_, rfl, by decide, ((Kq.refl _ _).alloc _).trans HK.out, c', m, HX.out, Nat.le_refl _, fun e => absurd e hc'⟩
 ·have hc' : (c != 0) = true := bne_iff_ne.2 hc
  clear hc
  go_enter Tryz.func17, Tryz.ntmps17
  go_wp2_with fail
  refine (fail_st (H.out.sx.alloc _)).mono ?_
  rintro e w1 ⟨rfl, hk1, c', hc', hx⟩
  have HX := hI hx
  have HK := hI hk1
  clear hx hk1
  go_wp2_with fail
  go_ret
  exact ⟨_, rfl, by decide, ((Kq.refl _ _).alloc _).trans HK.out, c', m, HX.out, Nat.le_refl _, fun e => absurd e hc'⟩
end Go.Proofs.YtimmmlnememjiaaGreatDoor
