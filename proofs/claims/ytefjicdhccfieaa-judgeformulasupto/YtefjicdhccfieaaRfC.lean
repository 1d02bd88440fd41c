import Derived.Test.YtefjicdhccfieaaRfB
namespace Go.Proofs.Ytefjicdhccfieaa
open Go.RowKit

theorem gset (w : World) (r j : Nat) (v : Value) : w.grownBy (w.setCell ⟨r, j, none⟩ v) (some r) :=
  ⟨rfl, rfl, rfl, by simp [World.setCell], fun k _ hk => Below.heap_setCell _ _ _ _ (fun e => hk (by rw [e]))⟩
theorem grown_trans' {a b c : World} {r : Nat} (h : a.grownBy b (some r)) (k : b.grownBy c (some r)) : a.grownBy c (some r) :=
  ⟨k.os.trans h.os, k.tape.trans h.tape, k.output.trans h.output, Nat.le_trans h.size k.size, fun x hx hne => (k.block x (Nat.lt_of_lt_of_le hx h.size) hne).trans (h.block x hx hne)⟩
theorem grown_refl' (w : World) (r : Option Nat) : w.grownBy w r := ⟨rfl, rfl, rfl, Nat.le_refl _, fun _ _ _ => rfl⟩
theorem gbel {w w' : World} (h : Below w.heap.size w w') (r : Option Nat) : w.grownBy w' r := ⟨h.os, h.tape, h.output, h.size, fun k hk _ => h.block k hk⟩
theorem set_self {w : World} {b o : Nat} {u : Value} {cs : Array Value} {t : TypeId} (h : w.heap[b]? = some (.cells cs t (0, 0))) : (w.setCell ⟨b, o, none⟩ u).heap[b]? = some (.cells (cs.setIfInBounds o u) t (0, 0)) := by
  simp [World.setCell, Array.getElem?_modify, h]
theorem HeldAt.put {w : World} {hb sb : Nat} {s : List Int} (h : HeldAt w hb sb s) (i : Nat) (x : Int) : HeldAt (w.setCell ⟨sb, i, none⟩ (.int .i64 x)) hb sb (s.set i x) := by
  refine ⟨?_, ?_, by simp [World.setCell]; exact h.hl, h.ne⟩
  · rw [List.length_set]
    exact (World.cell?_setCell_other (h := fun e => h.ne (by cases e; rfl)) ..).trans h.h
  · rw [set_self h.s]
    congr 2
    simp [List.map_set]
set_option maxRecDepth 100000 in
set_option maxHeartbeats 2000000 in
theorem put_any (w : World) (hb sb : Nat) (s : List Int) (l : Int) (h : HeldAt w hb sb s) (hl : l.natAbs < s.length) (hs : s.length ≤ 200000) :
    Calls Try.prog 47 #[.pointer (some ⟨hb, 0, none⟩), .int .i64 l] w fun e w' => e = .returned (.tuple #[]) ∧ HeldAt w' hb sb (putS s l) ∧ w.grownBy w' (some sb) := by
  obtain ⟨x, hx⟩ := getElem_lt hl
  have c0 := h.h
  have c1 := h.cell hx
  have z1 := h.fz l.natAbs
  have HH := hidden h
  clear h
  obtain ⟨n, hn⟩ : ∃ n, n = l.natAbs := ⟨_, rfl⟩
  have HN := hidden hn
  rw [← hn] at c1 hl z1
  have HP : Hid (∀ y : Int, y = (if l < 0 then -1 else 1) → HeldAt (w.setCell ⟨sb, n, none⟩ (.int .i64 y)) hb sb (putS s l)) := fun y hy => by
    unfold putS
    rw [← HN.out, ← hy]
    exact HH.out.put n y
  generalize s.length = sn at *
  by_cases hneg : l < 0
  · have hln : -l = (n : Int) := by omega
    have e1 : IntKind.i64.wrap (-l) = (n : Int) := by rw [hln]; exact wrapI _ (by omega) (by omega)
    have hlt : (n : Int) < (sn : Int) := by omega
    have HP2 := hidden (HP.out (-1) (by rw [if_pos hneg]))
    clear hn hln hx HP
    go_enter Try.func47, Try.ntmps47
    go_wp2
    go_end0
    exact ⟨rfl, HP2.out, gset _ _ _ _⟩
  · have HP2 := hidden (HP.out 1 (by rw [if_neg hneg]))
    have hln : l = (n : Int) := by omega
    clear hn hx HP
    subst hln
    have hlt : (n : Int) < (sn : Int) := by omega
    go_enter Try.func47, Try.ntmps47
    go_wp2
    go_end0
    exact ⟨rfl, HP2.out, gset _ _ _ _⟩
theorem ret_two {a b c d : Int} (h : a = b) (h' : c = d) : Ending.returned (.tuple #[.int .i64 a, .int .i64 c]) = .returned (.tuple #[.int .i64 b, .int .i64 d]) := by rw [h, h']
set_option maxRecDepth 100000 in
set_option maxHeartbeats 4000000 in
theorem open_any (w : World) (hb sb : Nat) (s : List Int) (h : HeldAt w hb sb s) (hs : s.length ≤ 200000) (a : Option Addr) (cc : Nat) (c : List Int) (R : RowAt w.heap.size w a 1 (c.map intC)) (hc : c.length ≤ 16777216) (hlit : ∀ m, m ∈ c → m.natAbs < s.length) :
    Calls Try.prog 48 #[.pointer (some ⟨hb, 0, none⟩), .slice a c.length cc] w fun e w' => e = .returned (.tuple #[.int .i64 (opn s c).1, .int .i64 (opn s c).2]) ∧ w' = w := by
  have HR := hidden R
  have IS : Hid (∀ l : Int, l.natAbs < s.length → Calls Try.prog 46 #[.pointer (some ⟨hb, 0, none⟩), .int .i64 l] w fun e w' => e = .returned (.bool (isT s l)) ∧ w' = w) := fun l hl => is_any w hb sb s l h hl hs
  have HLIT := hidden hlit
  clear R h hlit
  go_enter Try.func48, Try.ntmps48
  go_wp2_with fail
  go_loopw [6, 7, 8] (fun n' x' i' w' => ∃ (k : Nat) (n x : Int), k ≤ c.length ∧ n' = .int .i64 n ∧ x' = .int .i64 x ∧ i' = .int .i64 k ∧ Hid (opn s (c.take k) = (n, x)) ∧ 0 ≤ n ∧ n ≤ k ∧ w' = w) (fun _ _ i' _ => c.length - (intOf i').toNat)
  case atStart => exact ⟨0, 0, 0, Nat.zero_le _, rfl, rfl, rfl, by (show opn _ _ = _); simp [opn], by omega, by omega, rfl⟩
  case round =>
    obtain ⟨k, n, x, hk, rfl, rfl, rfl, HO, hn0, hnk, rfl⟩ := hrel
    by_cases hlt : k < c.length
    · have hltI : (k : Int) < (c.length : Int) := by omega
      obtain ⟨m, hm⟩ := getElem_lt hlt
      obtain ⟨b, o, rfl, hbl, hcell⟩ := HR.out.intR hm
      have HM : Hid (m ∈ c) := List.mem_of_getElem? hm
      have hmb := HLIT.out m HM.out
      have HNX := hidden (opn_next s c k m hm)
      rw [HO.out] at HNX
      have I1 := hidden (IS.out (-m) (by rw [Int.natAbs_neg]; exact hmb))
      have e1 : IntKind.i64.wrap (-m) = -m := wrapI _ (by omega) (by omega)
      have e2 : IntKind.i64.wrap (n + 1) = n + 1 := wrapI _ (by omega) (by omega)
      have e3 : IntKind.i64.wrap ((k : Int) + 1) = (k : Int) + 1 := wrapI _ (by omega) (by omega)
      clear hm
      obtain ⟨t, HT⟩ : ∃ t, Hid (isT s (-m) = t) := ⟨_, rfl⟩
      rw [HT.out] at I1 HNX
      go_wp2_with fail
      go_at_call 46
      refine I1.out.mono ?_
      rintro e w1 ⟨rfl, hw1⟩
      subst hw1
      clear I1
      cases t
      · by_cases hn1 : 0 < n
        · by_cases hmx : m = x
          · have hmxb : (m == x) = true := by simp [hmx]
            have HF : Hid (opn s (c.take (k + 1)) = (n, x)) := by show _ = _; rw [HNX.out]; simp [hn1, hmx]
            clear HNX hmx
            go_wp2
            go_roundw
            case measure => simp [intOf]; omega
            case rel => exact ⟨k + 1, n, x, by omega, rfl, rfl, by simp, HF.out, hn0, by omega, by first | rfl | trivial⟩
          · have hmxb : (m == x) = false := by simp [hmx]
            have HF : Hid (opn s (c.take (k + 1)) = (n + 1, m)) := by show _ = _; rw [HNX.out]; simp [hmx]
            clear HNX hmx
            go_wp2
            go_roundw
            case measure => simp [intOf]; omega
            case rel => exact ⟨k + 1, n + 1, m, by omega, rfl, rfl, by simp, HF.out, by omega, by omega, by first | rfl | trivial⟩
        · have HF : Hid (opn s (c.take (k + 1)) = (n + 1, m)) := by show _ = _; rw [HNX.out]; simp [hn1]
          clear HNX
          go_wp2
          go_roundw
          case measure => simp [intOf]; omega
          case rel => exact ⟨k + 1, n + 1, m, by omega, rfl, rfl, by simp, HF.out, by omega, by omega, by first | rfl | trivial⟩
      · have HF : Hid (opn s (c.take (k + 1)) = (n, x)) := by show _ = _; rw [HNX.out]; simp
        clear HNX
        go_wp2
        go_roundw
        case measure => simp [intOf]; omega
        case rel => exact ⟨k + 1, n, x, by omega, rfl, rfl, by simp, HF.out, hn0, by omega, by first | rfl | trivial⟩
    · have hge : ¬ ((k : Int) < (c.length : Int)) := by omega
      have HF : Hid (opn s c = (n, x)) := by have := HO.out; rwa [List.take_of_length_le (by omega)] at this
      go_wp2
      go_ret2
      exact ⟨ret_two (by rw [HF.out]) (by rw [HF.out]), rfl⟩

end Go.Proofs.Ytefjicdhccfieaa
