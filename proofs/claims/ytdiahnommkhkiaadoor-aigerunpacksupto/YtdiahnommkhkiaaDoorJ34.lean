import Derived.Test.YtdiahnommkhkiaaDoorJ33
namespace Go.Proofs.YtdiahnommkhkiaaDoor
open Go.RowKit

theorem lineAt_found {T : List UInt8} {p q : Nat} (hpq : p ≤ q) (h : ∀ j, p ≤ j → j < q → T[j]? ≠ some 10) (hq : T[q]? = some 10) : lineAt T p = some ((T.take q).drop p) ∧ ((T.take q).drop p).length = q - p := by
  have hl := (List.getElem?_eq_some_iff.1 hq).1
  have hlen : ((T.take q).drop p).length = q - p := by simp; omega
  refine ⟨lineAt_some (b := T.drop (q + 1)) ?_ ?_, hlen⟩
  · intro hm
    obtain ⟨j, hj⟩ := List.getElem?_of_mem hm
    have hjl := (List.getElem?_eq_some_iff.1 hj).1
    rw [hlen] at hjl
    rw [List.getElem?_drop, List.getElem?_take] at hj
    rw [if_pos (by omega)] at hj
    exact h (p + j) (by omega) (by omega) hj
  · have h1 : T.drop q = 10 :: T.drop (q + 1) := by
      rw [List.drop_eq_getElem_cons hl]
      have : T[q] = 10 := by
        have := hq
        rw [List.getElem?_eq_getElem hl] at this
        exact Option.some.inj this
      rw [this]
    rw [← h1]
    conv => lhs; rw [← List.take_append_drop q T]
    rw [List.drop_append_of_le_length (by simp; omega)]
theorem lineAt_missing {T : List UInt8} {p : Nat} (h : ∀ j, p ≤ j → j < T.length → T[j]? ≠ some 10) : lineAt T p = none := by
  refine lineAt_none (fun hm => ?_)
  obtain ⟨j, hj⟩ := List.getElem?_of_mem hm
  rw [List.getElem?_drop] at hj
  exact h (p + j) (by omega) (List.getElem?_eq_some_iff.1 hj).1 hj
theorem BtAt.sub {w : World} {b o c : Nat} {T : List UInt8} (h : BtAt w (some ⟨b, o, none⟩) c T) {p q : Nat} (hpq : p ≤ q) (hq : q ≤ T.length) : BtAt w (some ⟨b, o + p, none⟩) (c - p) ((T.take q).drop p) := by
  have hc := h.1
  refine ⟨by simp; omega, fun hne => ?_, trivial⟩
  obtain ⟨b', o', h1, h2, h3⟩ := h.2.1 (by intro e; subst e; simp at hne)
  cases h1
  refine ⟨b, o + p, rfl, h2, fun j x hx => ?_⟩
  rw [List.getElem?_drop, List.getElem?_take] at hx
  split at hx
  · have := h3 (p + j) x hx
    rw [show o + p + j = o + (p + j) by omega]; exact this
  · cases hx
set_option maxRecDepth 100000 in
set_option maxHeartbeats 4000000 in
theorem line_doc (T : List UInt8) (hT : T.length ≤ 1048576) (a : Option Addr) (c : Nat) (p : Nat) (hp : p ≤ T.length) (w : World) (h : BtAt w a c T) :
    Calls Tryd.prog 30 #[.slice a T.length c, .int .i64 p] w fun e w' => ((∃ l, lineAt T p = some l ∧ e = .returned (.tuple #[.string (bs l), .int .i64 ((p + l.length + 1 : Nat) : Int), .bool true])) ∨ (lineAt T p = none ∧ e = .returned (.tuple #[.string (bs []), .int .i64 p, .bool false]))) ∧ Below w.heap.size w w' := by
  have HB := hidden h
  have hcap := h.1
  clear h
  obtain ⟨tl, htl⟩ : ∃ x, x = T.length := ⟨_, rfl⟩
  rw [← htl] at hT hp hcap ⊢
  have HTL := hidden htl
  clear htl
  go_enter Tryd.func30, Tryd.ntmps30
  go_wp2_with fail
  go_loopw [7] (fun i' w' => ∃ (q : Nat), p ≤ q ∧ q ≤ tl ∧ i' = .int .i64 q ∧ Hid (∀ j, p ≤ j → j < q → T[j]? ≠ some 10) ∧ w' = w) (fun i' _ => tl - (intOf i').toNat)
  case atStart => exact ⟨p, Nat.le_refl _, hp, rfl, fun j h1 h2 => absurd h1 (by omega), rfl⟩
  case round =>
    obtain ⟨q, hpq, hqt, rfl, HN, rfl⟩ := hrel
    by_cases hlt : q < tl
    · have hltI : (q : Int) < (tl : Int) := by omega
      obtain ⟨x, hx⟩ : ∃ x, T[q]? = some x := getElem_lt (by have := HTL.out; omega)
      obtain ⟨b, o, rfl, hbl, hcell⟩ := HB.out.2.1 (by intro e; rw [e] at hx; simp at hx)
      have cx := hcell q x hx
      have HX := hidden hx
      have e3 : IntKind.i64.wrap ((q : Int) + 1) = (q : Int) + 1 := wrapI _ (by omega) (by omega)
      clear hx hcell
      by_cases h10 : (x.toNat : Int) = 10
      · have h10b : ((x.toNat : Int) == 10) = true := by simpa using h10
        have hx10 : x = 10 := by
          have : x.toNat = 10 := by omega
          exact UInt8.toNat_inj.1 this
        have HF := hidden (lineAt_found hpq HN.out (by rw [HX.out, hx10]))
        have hcv := (HB.out.sub (p := p) (q := q) hpq (by have := HTL.out; omega)).conv
        rw [HF.out.2] at hcv
        have hpqI : (p : Int) ≤ (q : Int) := by omega
        have hqcI : (q : Int) ≤ (c : Int) := by omega
        have HR : Hid (∃ l, lineAt T p = some l ∧ ((T.take q).drop p) = l ∧ p + l.length + 1 = q + 1) := ⟨_, HF.out.1, rfl, by rw [HF.out.2]; omega⟩
        obtain ⟨l, hl1, hl2, hl3⟩ := HR.out
        rw [hl2] at hcv
        have HL1 := hidden hl1
        have HL3 : Hid (((q : Int) + 1) = ((p + l.length + 1 : Nat) : Int)) := by show _ = _; omega
        clear HR hl1 hl2 hl3 HF h10 hx10 HN
        go_wp2
        refine bodyPost_ret (v := .tuple #[.string (bs l), .int .i64 ((q : Int) + 1), .bool true]) (by simp [results, Tryd.results30, go_sem, *]) rfl ?_
        exact ⟨Or.inl ⟨l, HL1.out, by rw [← HL3.out]⟩, by first | exact Below.refl _ _ | exact Below.drewN (Below.refl _ _) _⟩
      · have h10b : ((x.toNat : Int) == 10) = false := by simpa using h10
        have HN2 : Hid (∀ j, p ≤ j → j < q + 1 → T[j]? ≠ some 10) := fun j h1 h2 => by
          rcases Nat.lt_or_ge j q with h' | h'
          · exact HN.out j h1 h'
          · rw [show j = q by omega, HX.out]
            intro e
            cases e
            exact h10 rfl
        clear HN h10
        go_wp2
        go_roundw
        case measure => simp [intOf]; omega
        case rel => exact ⟨q + 1, by omega, by omega, by simp, HN2.out, by first | rfl | trivial⟩
    · have hge : ¬ ((q : Int) < (tl : Int)) := by omega
      have HF := hidden (lineAt_missing (T := T) (p := p) (fun j h1 h2 => HN.out j h1 (by have := HTL.out; omega)))
      clear HN
      go_wp2
      refine bodyPost_ret (v := .tuple #[.string ⟨#[]⟩, .int .i64 (p : Int), .bool false]) (by simp [results, Tryd.results30, go_sem, *]) rfl ?_
      exact ⟨Or.inr ⟨HF.out, rfl⟩, by first | exact Below.refl _ _ | exact Below.drewN (Below.refl _ _) _⟩


end Go.Proofs.YtdiahnommkhkiaaDoor
