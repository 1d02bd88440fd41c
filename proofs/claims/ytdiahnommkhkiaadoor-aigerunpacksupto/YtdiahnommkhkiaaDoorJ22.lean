import Derived.Test.YtdiahnommkhkiaaDoorJ21
namespace Go.Proofs.YtdiahnommkhkiaaDoor
open Go.RowKit

/-- a number in bytes of seven bits, from a place on -/
def sevG (T : List UInt8) : Nat → Bool → Nat → Int → Int → Option (Int × Nat)
  | 0, _, _, _, _ => none
  | f + 1, first, k, v, sc => match T[k]? with
    | none => none
    | some b => if (b.toNat : Int) < 128 then (if first = true ∨ 0 < (b.toNat : Int) then some (v + (b.toNat : Int) * sc, k + 1) else none) else sevG T f false (k + 1) (v + ((b.toNat : Int) - 128) * sc) (sc * 128)
theorem sevG_succ (T : List UInt8) (f : Nat) (first : Bool) (k : Nat) (v sc : Int) : sevG T (f + 1) first k v sc = match T[k]? with
    | none => none
    | some b => if (b.toNat : Int) < 128 then (if first = true ∨ 0 < (b.toNat : Int) then some (v + (b.toNat : Int) * sc, k + 1) else none) else sevG T f false (k + 1) (v + ((b.toNat : Int) - 128) * sc) (sc * 128) := rfl
def sevB (T : List UInt8) (k : Nat) : Option (Int × Nat) := sevG T 4 true k 0 1
theorem sevG_le {T : List UInt8} : ∀ (f : Nat) (first : Bool) (k : Nat) (v sc x : Int) (q : Nat), sevG T f first k v sc = some (x, q) → k < q ∧ q ≤ T.length
  | 0, _, _, _, _, _, _, h => by cases h
  | f + 1, first, k, v, sc, x, q, h => by
    unfold sevG at h
    split at h
    · cases h
    · rename_i b hb
      have hl := (List.getElem?_eq_some_iff.1 hb).1
      split at h
      · split at h
        · cases h; omega
        · cases h
      · have := sevG_le f false (k + 1) _ _ x q h
        omega
theorem sevB_le {T : List UInt8} {k : Nat} {x : Int} {q : Nat} (h : sevB T k = some (x, q)) : k < q ∧ q ≤ T.length := sevG_le 4 true k 0 1 x q h
theorem sevG_nonneg {T : List UInt8} : ∀ (f : Nat) (first : Bool) (k : Nat) (v sc x : Int) (q : Nat), 0 ≤ v → 0 ≤ sc → sevG T f first k v sc = some (x, q) → 0 ≤ x
  | 0, _, _, _, _, _, _, _, _, h => by cases h
  | f + 1, first, k, v, sc, x, q, hv, hs, h => by
    unfold sevG at h
    split at h
    · cases h
    · rename_i b hb
      split at h
      · split at h
        · cases h
          have : (0 : Int) ≤ (b.toNat : Int) * sc := Int.mul_nonneg (by omega) hs
          omega
        · cases h
      · have h2 : (0 : Int) ≤ ((b.toNat : Int) - 128) * sc := Int.mul_nonneg (by omega) hs
        exact sevG_nonneg f false (k + 1) _ _ x q (by omega) (by omega) h
theorem sevB_nonneg {T : List UInt8} {k : Nat} {x : Int} {q : Nat} (h : sevB T k = some (x, q)) : 0 ≤ x := sevG_nonneg 4 true k 0 1 x q (by omega) (by omega) h
theorem pow_small {i : Nat} (h : i < 4) : (1 : Int) ≤ 128 ^ i ∧ (128 : Int) ^ i ≤ 2097152 := by
  rcases (by omega : i = 0 ∨ i = 1 ∨ i = 2 ∨ i = 3) with rfl | rfl | rfl | rfl <;> decide
theorem mul_small {a sc : Int} (h0 : 0 ≤ a) (h1 : a ≤ 127) (hs : 1 ≤ sc) : 0 ≤ a * sc ∧ a * sc ≤ 127 * sc := ⟨Int.mul_nonneg h0 (by omega), Int.mul_le_mul_of_nonneg_right h1 (by omega)⟩
/-- where a number's bytes are read so far -/
def SevAt (T : List UInt8) (k i : Nat) (v sc : Int) (la : Bool) : Prop := if la = true then sevB T k = some (v, k + i) else sevB T k = sevG T (4 - i) (decide (i = 0)) (k + i) v sc
theorem SevAt.stop {T : List UInt8} {k i : Nat} {v sc : Int} (h : SevAt T k i v sc false) (hi : 4 ≤ i) : sevB T k = none := by
  unfold SevAt at h
  rw [if_neg (by decide), show 4 - i = 0 by omega] at h
  exact h
theorem SevAt.out {T : List UInt8} {k i : Nat} {v sc : Int} (h : SevAt T k i v sc false) (hi : T.length ≤ k + i) : sevB T k = none := by
  unfold SevAt at h
  rw [if_neg (by decide)] at h
  rw [h]
  cases hf : 4 - i with
  | zero => rfl
  | succ f => unfold sevG; rw [List.getElem?_eq_none hi]
theorem SevAt.byte {T : List UInt8} {k i : Nat} {v sc : Int} (h : SevAt T k i v sc false) (hi : i < 4) {b : UInt8} (hb : T[k + i]? = some b) : sevB T k = if (b.toNat : Int) < 128 then (if i = 0 ∨ 0 < (b.toNat : Int) then some (v + (b.toNat : Int) * sc, k + i + 1) else none) else sevG T (4 - (i + 1)) false (k + i + 1) (v + ((b.toNat : Int) - 128) * sc) (sc * 128) := by
  unfold SevAt at h
  rw [if_neg (by decide), show 4 - i = (4 - (i + 1)) + 1 by omega] at h
  rw [h, sevG_succ, hb]
  simp
set_option maxRecDepth 100000 in
set_option maxHeartbeats 4000000 in
theorem packed_any (r : Nat) (T : List UInt8) (k : Nat) (h : Int × Int × Int × Int × Int) (least most : Int) (w : World) (x : ByAt w r T k h) :
    Calls Tryd.prog 61 #[.pointer (some ⟨r, 0, none⟩), .int .i64 least, .int .i64 most] w fun e w' =>
      (∃ y q, sevB T k = some (y, q) ∧ least ≤ y ∧ y ≤ most ∧ e = .returned (.int .i64 y) ∧ ByAt w' r T q h ∧ w.grownBy w' (some r)) ∨ ((∀ y q, sevB T k = some (y, q) → ¬ (least ≤ y ∧ y ≤ most)) ∧ Thr w r (k : Int) e w') := by
  have HLN : Hid (T.length ≤ 1048576) := x.len
  have HKL : Hid (k ≤ T.length) := x.le
  have BG := hidden (begin_by r T k h w x)
  have hz := bs_size T
  have HGT : Hid (∀ j c, T[j]? = some c → ∀ hj, (bs T)[j]'hj = c) := fun j c hc hj => bs_get T j c hc hj
  have HC6 : Hid (∀ w' kk bg, ByB w' r T kk h bg → w'.cell? ⟨r, 6, none⟩ = some (.string (bs T)) ∧ w'.cell? ⟨r, 7, none⟩ = some (.int .i64 (kk : Int))) := fun w' kk bg hb => by
    obtain ⟨ln, q1, q⟩ := hb
    exact ⟨q.cell 6, q.cell 7⟩
  clear x
  generalize bs T = sT at *
  go_enter Tryd.func61, Tryd.ntmps61
  go_wp2_with fail
  go_at_call 50
  refine BG.out.mono ?_
  rintro e w0 ⟨rfl, hb0, hg0⟩
  have HB0 := hidden hb0
  have HG0 := hidden hg0
  clear hb0 hg0 BG
  go_wp2_with fail
  go_loopw [7, 8, 9, 10] (fun v' s' l' i' w' => ∃ (i : Nat) (v sc : Int) (la : Bool), i ≤ 4 ∧ v' = .int .i64 v ∧ s' = .int .i64 sc ∧ l' = .bool la ∧ i' = .int .i64 i ∧ Hid (0 ≤ v ∧ v < sc ∧ sc = 128 ^ i) ∧ Hid (SevAt T k i v sc la) ∧ Hid (k + i ≤ T.length) ∧ Hid (ByB w' r T (k + i) h (k : Int)) ∧ Hid (w.grownBy w' (some r))) (fun _ _ _ i' _ => 5 - (intOf i').toNat)
  case atStart => exact ⟨0, 0, 1, false, by omega, rfl, rfl, rfl, rfl, ⟨by omega, by omega, rfl⟩, by (show SevAt _ _ _ _ _ _); unfold SevAt; rw [if_neg (by decide)]; rfl, HKL.out, HB0.out, HG0.out⟩
  case round =>
    obtain ⟨i, v, sc, la, hi, rfl, rfl, rfl, rfl, HVS, HSV, HKI, HB, HG⟩ := hrel
    clear HB0 HG0
    cases la
    · obtain ⟨kk, hkk⟩ : ∃ kk, kk = k + i := ⟨_, rfl⟩
      have KK : Hid (∀ w', Below wr.heap.size wr w' → w'.cell? ⟨r, 6, none⟩ = some (.string sT) ∧ w'.cell? ⟨r, 7, none⟩ = some (.int .i64 (kk : Int))) := fun w' hw' => by rw [hkk]; exact HC6.out w' _ _ (HB.out.to hw')
      have c67 := KK.out wr (Below.refl _ _)
      have MN : Hid (∀ w', Below wr.heap.size wr w' → Calls Tryd.prog 53 #[.pointer (some ⟨r, 0, none⟩), .bool false] w' fun e w'' => Thr w' r (k : Int) e w'') := fun w' hw' => by
        refine (must_by r T _ h _ false w' (HB.out.to hw')).mono ?_
        rintro e w'' (⟨hf, -⟩ | ⟨-, hc⟩)
        · cases hf
        · exact hc
      have HKK := hidden hkk
      clear hkk
      by_cases hi4 : i < 4
      · have hi4I : (i : Int) < 4 := by omega
        by_cases hkl : kk < T.length
        · have hklI : (kk : Int) < (T.length : Int) := by omega
          have hks : kk < sT.size := by omega
          obtain ⟨c, hc⟩ := getElem_lt hkl
          have g1 := HGT.out kk c hc hks
          have HBY := hidden (HSV.out.byte hi4 (by rw [← HKK.out]; exact hc))
          have hps : 1 ≤ sc ∧ sc ≤ 2097152 := by rw [HVS.out.2.2]; exact pow_small hi4
          have hvs : 0 ≤ v ∧ v < sc := ⟨HVS.out.1, HVS.out.2.1⟩
          have hc255 : (c.toNat : Int) < 256 := by have := c.toNat_lt; omega
          have hc0 : (0 : Int) ≤ (c.toNat : Int) := by omega
          have hkkb : (kk : Int) ≤ 1048576 := by have := HLN.out; omega
          clear hc
          go_upto_region 6 with fail
          (
          refine wp_region_held_drew (S := (fun w' => w'.cell? ⟨r, 6, none⟩ = some (.string sT) ∧ w'.cell? ⟨r, 7, none⟩ = some (.int .i64 (kk : Int)))) (by kernel_rfl) (by first | assumption | exact KK.out _ (by assumption) | exact KK.out _ (Below.drew (Below.refl _ _)) | exact KK.out _ (Below.refl _ _)) (fun hHeld => ?_)
          refine wpAnyH_take (i := 0) (oi := _) (v := ?_) rfl (by kernel_rfl) (by kernel_rfl) (by kernel_rfl) (fun _ _ _ h => h) (Or.inl ⟨by rfl, ?_⟩) (by assumption) ?_
          rotate_left
          · (intro w0 hSw; (try dsimp only at hSw); (try simp only [List.getElem_toArray, List.getElem_cons_zero]); go_simp; try (with_reducible rfl))
          try simp only [Act.put, List.getElem_toArray, List.getElem_cons_zero, List.setIfInBounds_toArray, List.set_cons_zero, List.set_cons_succ]
          refine wpAnyH_take (i := 1) (oi := _) (v := ?_) rfl (by kernel_rfl) (by kernel_rfl) (by kernel_rfl) (fun _ _ _ h => h) (Or.inl ⟨by rfl, ?_⟩) (by assumption) ?_
          rotate_left
          · (intro w0 hSw; (try dsimp only at hSw); (try simp only [List.getElem_toArray, List.getElem_cons_zero, List.getElem_cons_succ]); go_simp; try (with_reducible rfl))
          try simp only [Act.put, List.getElem_toArray, List.getElem_cons_zero, List.getElem_cons_succ, List.setIfInBounds_toArray, List.set_cons_zero, List.set_cons_succ]
          refine wpAnyH_take (i := 2) (oi := _) (v := ?_) rfl (by kernel_rfl) (by kernel_rfl) (by kernel_rfl) (fun _ _ _ h => h) (Or.inl ⟨by rfl, ?_⟩) (by assumption) ?_
          rotate_left
          · (intro w0 hSw; (try dsimp only at hSw); (try simp only [List.getElem_toArray, List.getElem_cons_zero, List.getElem_cons_succ]); go_simp; try (with_reducible rfl))
          try simp only [Act.put, List.getElem_toArray, List.getElem_cons_zero, List.getElem_cons_succ, List.setIfInBounds_toArray, List.set_cons_zero, List.set_cons_succ]
          refine wpAnyH_take (i := 3) (oi := _) (v := ?_) rfl (by kernel_rfl) (by kernel_rfl) (by kernel_rfl) (fun _ _ _ h => h) (Or.inl ⟨by rfl, ?_⟩) (by assumption) ?_
          rotate_left
          · (intro w0 hSw; (try dsimp only at hSw); (try simp only [List.getElem_toArray, List.getElem_cons_zero, List.getElem_cons_succ]); go_simp; try (with_reducible rfl))
          try simp only [Act.put, List.getElem_toArray, List.getElem_cons_zero, List.getElem_cons_succ, List.setIfInBounds_toArray, List.set_cons_zero, List.set_cons_succ]
          refine wpAnyH_take (i := 4) (oi := _) (v := ?_) rfl (by kernel_rfl) (by kernel_rfl) (by kernel_rfl) (fun _ _ _ h => h) (Or.inl ⟨by rfl, ?_⟩) (by assumption) ?_
          rotate_left
          · (intro w0 hSw; (try dsimp only at hSw); (try simp only [List.getElem_toArray, List.getElem_cons_zero, List.getElem_cons_succ]); go_simp; try (with_reducible rfl))
          try simp only [Act.put, List.getElem_toArray, List.getElem_cons_zero, List.getElem_cons_succ, List.setIfInBounds_toArray, List.set_cons_zero, List.set_cons_succ]
          refine wpAnyH_take (i := 5) (oi := _) (v := ?_) rfl (by kernel_rfl) (by kernel_rfl) (by kernel_rfl) (fun _ _ _ h => h) (Or.inl ⟨by rfl, ?_⟩) (by assumption) ?_
          rotate_left
          · (intro w0 hSw; (try dsimp only at hSw); (try simp only [List.getElem_toArray, List.getElem_cons_zero, List.getElem_cons_succ]); go_simp; try (with_reducible rfl))
          try simp only [Act.put, List.getElem_toArray, List.getElem_cons_zero, List.getElem_cons_succ, List.setIfInBounds_toArray, List.set_cons_zero, List.set_cons_succ]
          refine wpAnyH_take (i := 6) (oi := _) (v := ?_) rfl (by kernel_rfl) (by kernel_rfl) (by kernel_rfl) (fun _ _ _ h => h) (Or.inl ⟨by rfl, ?_⟩) (by assumption) ?_
          rotate_left
          · (intro w0 hSw; (try dsimp only at hSw); (try simp only [List.getElem_toArray, List.getElem_cons_zero, List.getElem_cons_succ]); go_simp; try (with_reducible rfl))
          try simp only [Act.put, List.getElem_toArray, List.getElem_cons_zero, List.getElem_cons_succ, List.setIfInBounds_toArray, List.set_cons_zero, List.set_cons_succ]
          refine wpAnyH_take (i := 7) (oi := _) (v := ?_) rfl (by kernel_rfl) (by kernel_rfl) (by kernel_rfl) (fun _ _ _ h => h) (Or.inl ⟨by rfl, ?_⟩) (by assumption) ?_
          rotate_left
          · (intro w0 hSw; (try dsimp only at hSw); (try simp only [List.getElem_toArray, List.getElem_cons_zero, List.getElem_cons_succ]); go_simp; try (with_reducible rfl))
          try simp only [Act.put, List.getElem_toArray, List.getElem_cons_zero, List.getElem_cons_succ, List.setIfInBounds_toArray, List.set_cons_zero, List.set_cons_succ]
          refine wpAnyH_take (i := 8) (oi := _) (v := ?_) rfl (by kernel_rfl) (by kernel_rfl) (by kernel_rfl) (fun _ _ _ h => h) (Or.inl ⟨by rfl, ?_⟩) (by assumption) ?_
          rotate_left
          · (intro w0 hSw; (try dsimp only at hSw); (try simp only [List.getElem_toArray, List.getElem_cons_zero, List.getElem_cons_succ]); go_simp; try (with_reducible rfl))
          try simp only [Act.put, List.getElem_toArray, List.getElem_cons_zero, List.getElem_cons_succ, List.setIfInBounds_toArray, List.set_cons_zero, List.set_cons_succ]
          refine wpAnyH_take (i := 9) (oi := _) (v := ?_) rfl (by kernel_rfl) (by kernel_rfl) (by kernel_rfl) (fun _ _ _ h => h) (Or.inl ⟨by rfl, ?_⟩) (by assumption) ?_
          rotate_left
          · (intro w0 hSw; (try dsimp only at hSw); (try simp only [List.getElem_toArray, List.getElem_cons_zero, List.getElem_cons_succ]); go_simp; try (with_reducible rfl))
          try simp only [Act.put, List.getElem_toArray, List.getElem_cons_zero, List.getElem_cons_succ, List.setIfInBounds_toArray, List.set_cons_zero, List.set_cons_succ]
          refine wpAnyH_take (i := 10) (oi := _) (v := ?_) rfl (by kernel_rfl) (by kernel_rfl) (by kernel_rfl) (fun _ _ _ h => h) (Or.inl ⟨by rfl, ?_⟩) (by assumption) ?_
          rotate_left
          · (intro w0 hSw; (try dsimp only at hSw); (try simp only [List.getElem_toArray, List.getElem_cons_zero, List.getElem_cons_succ]); go_simp; try (with_reducible rfl))
          try simp only [Act.put, List.getElem_toArray, List.getElem_cons_zero, List.getElem_cons_succ, List.setIfInBounds_toArray, List.set_cons_zero, List.set_cons_succ]
          refine wpAnyH_take (i := 11) (oi := _) (v := ?_) rfl (by kernel_rfl) (by kernel_rfl) (by kernel_rfl) (fun _ _ _ h => h) (Or.inl ⟨by rfl, ?_⟩) (by assumption) ?_
          rotate_left
          · (intro w0 hSw; (try dsimp only at hSw); (try simp only [List.getElem_toArray, List.getElem_cons_zero, List.getElem_cons_succ]); go_simp; try (with_reducible rfl))
          try simp only [Act.put, List.getElem_toArray, List.getElem_cons_zero, List.getElem_cons_succ, List.setIfInBounds_toArray, List.set_cons_zero, List.set_cons_succ]
          refine wpAnyH_take (i := 12) (oi := _) (v := ?_) rfl (by kernel_rfl) (by kernel_rfl) (by kernel_rfl) (fun _ _ _ h => h) (Or.inl ⟨by rfl, ?_⟩) (by assumption) ?_
          rotate_left
          · (intro w0 hSw; (try dsimp only at hSw); (try simp only [List.getElem_toArray, List.getElem_cons_zero, List.getElem_cons_succ]); go_simp; try (with_reducible rfl))
          try simp only [Act.put, List.getElem_toArray, List.getElem_cons_zero, List.getElem_cons_succ, List.setIfInBounds_toArray, List.set_cons_zero, List.set_cons_succ]
          refine wpAnyH_take (i := 13) (oi := _) (v := ?_) rfl (by kernel_rfl) (by kernel_rfl) (by kernel_rfl) (fun _ _ _ h => h) (Or.inl ⟨by rfl, ?_⟩) (by assumption) ?_
          rotate_left
          · (intro w0 hSw; (try dsimp only at hSw); (try simp only [List.getElem_toArray, List.getElem_cons_zero, List.getElem_cons_succ]); go_simp; try (with_reducible rfl))
          try simp only [Act.put, List.getElem_toArray, List.getElem_cons_zero, List.getElem_cons_succ, List.setIfInBounds_toArray, List.set_cons_zero, List.set_cons_succ]
          refine wpAnyH_take (i := 14) (oi := _) (v := ?_) rfl (by kernel_rfl) (by kernel_rfl) (by kernel_rfl) (fun _ _ _ h => h) (Or.inl ⟨by rfl, ?_⟩) (by assumption) ?_
          rotate_left
          · (intro w0 hSw; (try dsimp only at hSw); (try simp only [List.getElem_toArray, List.getElem_cons_zero, List.getElem_cons_succ]); go_simp; try (with_reducible rfl))
          try simp only [Act.put, List.getElem_toArray, List.getElem_cons_zero, List.getElem_cons_succ, List.setIfInBounds_toArray, List.set_cons_zero, List.set_cons_succ]
          refine wpAnyH_ready (rs := [15]) (by kernel_rfl) (by simp) ?_
          refine AllReadyH.cons (o := _) rfl (fun K hK => ?_) AllReadyH.nil
          (try simp only [List.getElem_toArray, List.getElem_cons_zero, List.getElem_cons_succ])
          go_simp
          go_at_call 53
          refine (must_ok r _).mono ?_
          rintro e w3 ⟨rfl, hw3⟩
          have hb3 : Below wr.heap.size wr w3 := by rw [hw3]; first | exact Below.drew (Below.refl _ _) | exact Below.refl _ _
          clear hw3
          go_wp2_with fail
          refine hK.out _ _ (by first | assumption | exact KK.out _ (by assumption) | exact KK.out _ (Below.drew (Below.refl _ _)) | exact KK.out _ (Below.refl _ _)) (fun hHeld1 => ?_)
          clear hK K
          try simp only [Act.put, List.setIfInBounds_toArray, List.set_cons_zero, List.set_cons_succ]
          refine wpAnyH_done (by kernel_rfl) ?_ _
          )
          try clear hHeld
          try clear hHeld1
          have HB3 : Hid (ByB w3 r T kk h (k : Int)) := by rw [HKK.out]; exact HB.out.to hb3
          have HG3 : Hid (w.grownBy w3 (some r)) := grown_trans HG.out (gbel hb3 _)
          have d67 := KK.out w3 hb3
          have d6 := d67.1
          have d7 := d67.2
          have e1 : IntKind.i64.wrap ((kk : Int) + 1) = (kk : Int) + 1 := wrapI _ (by omega) (by omega)
          clear c67 d67 hb3 KK MN HB HG HSV HGT HC6
          go_wp2_with fail
          go_quiet (fail)
          generalize hdw : World.drewN w3 _ = wd at *
          have HBd : Hid (ByB wd r T kk h (k : Int)) := by rw [← hdw]; exact HB3.out.to (Below.drewN (Below.refl _ _) _)
          have HGd : Hid (w.grownBy wd (some r)) := by rw [← hdw]; exact grown_trans HG3.out (gbel (Below.drewN (Below.refl _ _) _) _)
          have HC7 : Hid (wd.cell? ⟨r, 7, none⟩ = some (.int .i64 (kk : Int)) ∧ wd.frozen? ⟨r, 7, none⟩ = false) := by
            obtain ⟨ln, q1, q⟩ := HBd.out
            exact ⟨q.cell 7, q.fz 7⟩
          have f7 := HC7.out.1
          have z7 := HC7.out.2
          clear hdw HB3 HG3 d6 d7 g1 hks
          generalize (c.toNat : Int) = B at *
          have t0 : Int.tmod B 128 = if B < 128 then B else B - 128 := by
            rw [Int.tmod_eq_emod_of_nonneg (by omega)]; split <;> omega
          obtain ⟨m, hm⟩ : ∃ m, m = if B < 128 then B else B - 128 := ⟨_, rfl⟩
          rw [← hm] at t0
          have hm1 : 0 ≤ m ∧ m ≤ 127 := by rw [hm]; split <;> omega
          have HM := hidden hm
          have hms := mul_small hm1.1 hm1.2 hps.1
          obtain ⟨ms, hmse⟩ : ∃ x, x = m * sc := ⟨_, rfl⟩
          have HMS := hidden hmse
          rw [← hmse] at hms
          have m1 : IntKind.i64.wrap (m * sc) = ms := by rw [← hmse]; exact wrapI _ (by omega) (by omega)
          have m2 : IntKind.i64.wrap (v + ms) = v + ms := wrapI _ (by omega) (by omega)
          have m3 : IntKind.i64.wrap (sc * 128) = sc * 128 := wrapI _ (by omega) (by omega)
          have m4 : IntKind.i64.wrap ((i : Int) + 1) = (i : Int) + 1 := wrapI _ (by omega) (by omega)
          have m5 : IntKind.i64.wrap m = m := wrapI _ (by omega) (by omega)
          have HV2 : Hid (0 ≤ v + ms ∧ v + ms < sc * 128 ∧ sc * 128 = 128 ^ (i + 1)) := ⟨by omega, by omega, by rw [Int.pow_succ, ← HVS.out.2.2]⟩
          have HK2 : Hid (k + (i + 1) ≤ T.length) := by have := HKK.out; show _ ≤ _; omega
          go_upto_region 10 with fail
          generalize hW5 : World.setCell wd _ _ = w5
          have HB5 : Hid (ByB w5 r T (k + (i + 1)) h (k : Int)) := by
            obtain ⟨ln, q1, q⟩ := HBd.out
            refine ⟨ln, by have := HKK.out; omega, ?_⟩
            have := q.fr ((kk : Int) + 1)
            rw [hW5] at this
            rw [show ((k + (i + 1) : Nat) : Int) = (kk : Int) + 1 by have := HKK.out; omega]
            exact this
          have HG5 : Hid (w.grownBy w5 (some r)) := by rw [← hW5]; exact grown_trans HGd.out (gset _ _ _ _)
          clear hW5 f7 z7 HC7 HBd HGd hmse hm hms hm1 hvs hps
          have f5 : True := trivial
          by_cases hB : B < 128
          · have hm' : m = B := by rw [HM.out, if_pos hB]
            have HBY2 := hidden HBY.out
            rw [if_pos hB] at HBY2
            by_cases hi0 : i = 0
            · have hi0b : ((i : Int) == 0) = true := by simp [hi0]
              have HS2 : Hid (SevAt T k (i + 1) (v + ms) (sc * 128) true) := by
                show SevAt _ _ _ _ _ _
                unfold SevAt
                rw [if_pos rfl, HBY2.out, if_pos (Or.inl hi0), HMS.out, hm', Nat.add_assoc]
              clear hm' HBY2 hi0
              go_wp2_with fail
              go_at_call 53
              refine (must_ok r _).mono ?_
              rintro e w6 ⟨rfl, rfl⟩
              clear f5
              go_wp2
              go_roundw
              case measure => simp [intOf]; omega
              case rel => exact ⟨i + 1, _, _, _, by omega, rfl, rfl, rfl, by simp, HV2.out, HS2.out, HK2.out, HB5.out, HG5.out⟩
            · have hi0b : ((i : Int) == 0) = false := by simp [hi0]
              by_cases hB0 : 0 < B
              · have HS2 : Hid (SevAt T k (i + 1) (v + ms) (sc * 128) true) := by
                  show SevAt _ _ _ _ _ _
                  unfold SevAt
                  rw [if_pos rfl, HBY2.out, if_pos (Or.inr hB0), HMS.out, hm', Nat.add_assoc]
                clear hm' HBY2 hi0
                go_wp2_with fail
                go_at_call 53
                refine (must_ok r _).mono ?_
                rintro e w6 ⟨rfl, rfl⟩
                clear f5
                go_wp2
                go_roundw
                case measure => simp [intOf]; omega
                case rel => exact ⟨i + 1, _, _, _, by omega, rfl, rfl, rfl, by simp, HV2.out, HS2.out, HK2.out, HB5.out, HG5.out⟩
              · have HNO : Hid (∀ y q, sevB T k = some (y, q) → ¬ (least ≤ y ∧ y ≤ most)) := fun y q hq => by
                  rw [HBY2.out, if_neg (by omega)] at hq; cases hq
                have MN := hidden (must_by r T _ h _ false w5 HB5.out)
                clear hm' HBY2 hi0
                go_wp2_with fail
                go_at_call 53
                refine MN.out.mono ?_
                rintro e w3 hc
                obtain ⟨p0, rfl, hp1, hp2, hp3⟩ : Thr w5 r (k : Int) e w3 := by
                  rcases hc with ⟨hf, -⟩ | ⟨-, hc⟩
                  · cases hf
                  · exact hc
                unfold thrown
                go_wp2
                have hTh : Thr w r (k : Int) (thrown p0) w3 := ⟨p0, rfl, hp1, Nat.le_trans HG5.out.size hp2, grown_trans HG5.out hp3⟩
                first | exact ⟨rfl, Or.inr ⟨HNO.out, hTh⟩⟩ | exact Or.inr ⟨HNO.out, hTh⟩
          · have hm' : m = B - 128 := by rw [HM.out, if_neg hB]
            have hB0 : 0 < B := by omega
            have HS2 : Hid (SevAt T k (i + 1) (v + ms) (sc * 128) (decide (B < 128))) := by
              show SevAt _ _ _ _ _ _
              rw [decide_eq_false hB]
              unfold SevAt
              rw [if_neg (by decide), HBY.out, if_neg hB, HMS.out, hm', show k + (i + 1) = k + i + 1 by omega]
              simp
            clear hm'
            by_cases hi0 : i = 0
            · have hi0b : ((i : Int) == 0) = true := by simp [hi0]
              clear hi0
              go_wp2_with fail
              go_at_call 53
              refine (must_ok r _).mono ?_
              rintro e w6 ⟨rfl, rfl⟩
              clear f5
              go_wp2
              go_roundw
              case measure => simp [intOf]; omega
              case rel => exact ⟨i + 1, _, _, _, by omega, rfl, rfl, rfl, by simp, HV2.out, HS2.out, HK2.out, HB5.out, HG5.out⟩
            · have hi0b : ((i : Int) == 0) = false := by simp [hi0]
              clear hi0
              go_wp2_with fail
              go_at_call 53
              refine (must_ok r _).mono ?_
              rintro e w6 ⟨rfl, rfl⟩
              clear f5
              go_wp2
              go_roundw
              case measure => simp [intOf]; omega
              case rel => exact ⟨i + 1, _, _, _, by omega, rfl, rfl, rfl, by simp, HV2.out, HS2.out, HK2.out, HB5.out, HG5.out⟩
        · have hkl' : ¬ ((kk : Int) < (T.length : Int)) := by omega
          have HNO : Hid (∀ y q, sevB T k = some (y, q) → ¬ (least ≤ y ∧ y ≤ most)) := fun y q hq => by rw [HSV.out.out (by have := HKK.out; omega)] at hq; cases hq
          go_upto_region 6 with fail
          (
          refine wp_region_held_drew (S := (fun w' => w'.cell? ⟨r, 6, none⟩ = some (.string sT) ∧ w'.cell? ⟨r, 7, none⟩ = some (.int .i64 (kk : Int)))) (by kernel_rfl) (by first | assumption | exact KK.out _ (by assumption) | exact KK.out _ (Below.drew (Below.refl _ _)) | exact KK.out _ (Below.refl _ _)) (fun hHeld => ?_)
          refine wpAnyH_take (i := 0) (oi := _) (v := ?_) rfl (by kernel_rfl) (by kernel_rfl) (by kernel_rfl) (fun _ _ _ h => h) (Or.inl ⟨by rfl, ?_⟩) (by assumption) ?_
          rotate_left
          · (intro w0 hSw; (try dsimp only at hSw); (try simp only [List.getElem_toArray, List.getElem_cons_zero]); go_simp; try (with_reducible rfl))
          try simp only [Act.put, List.getElem_toArray, List.getElem_cons_zero, List.setIfInBounds_toArray, List.set_cons_zero, List.set_cons_succ]
          refine wpAnyH_take (i := 1) (oi := _) (v := ?_) rfl (by kernel_rfl) (by kernel_rfl) (by kernel_rfl) (fun _ _ _ h => h) (Or.inl ⟨by rfl, ?_⟩) (by assumption) ?_
          rotate_left
          · (intro w0 hSw; (try dsimp only at hSw); (try simp only [List.getElem_toArray, List.getElem_cons_zero, List.getElem_cons_succ]); go_simp; try (with_reducible rfl))
          try simp only [Act.put, List.getElem_toArray, List.getElem_cons_zero, List.getElem_cons_succ, List.setIfInBounds_toArray, List.set_cons_zero, List.set_cons_succ]
          refine wpAnyH_take (i := 2) (oi := _) (v := ?_) rfl (by kernel_rfl) (by kernel_rfl) (by kernel_rfl) (fun _ _ _ h => h) (Or.inl ⟨by rfl, ?_⟩) (by assumption) ?_
          rotate_left
          · (intro w0 hSw; (try dsimp only at hSw); (try simp only [List.getElem_toArray, List.getElem_cons_zero, List.getElem_cons_succ]); go_simp; try (with_reducible rfl))
          try simp only [Act.put, List.getElem_toArray, List.getElem_cons_zero, List.getElem_cons_succ, List.setIfInBounds_toArray, List.set_cons_zero, List.set_cons_succ]
          refine wpAnyH_take (i := 3) (oi := _) (v := ?_) rfl (by kernel_rfl) (by kernel_rfl) (by kernel_rfl) (fun _ _ _ h => h) (Or.inl ⟨by rfl, ?_⟩) (by assumption) ?_
          rotate_left
          · (intro w0 hSw; (try dsimp only at hSw); (try simp only [List.getElem_toArray, List.getElem_cons_zero, List.getElem_cons_succ]); go_simp; try (with_reducible rfl))
          try simp only [Act.put, List.getElem_toArray, List.getElem_cons_zero, List.getElem_cons_succ, List.setIfInBounds_toArray, List.set_cons_zero, List.set_cons_succ]
          refine wpAnyH_take (i := 4) (oi := _) (v := ?_) rfl (by kernel_rfl) (by kernel_rfl) (by kernel_rfl) (fun _ _ _ h => h) (Or.inl ⟨by rfl, ?_⟩) (by assumption) ?_
          rotate_left
          · (intro w0 hSw; (try dsimp only at hSw); (try simp only [List.getElem_toArray, List.getElem_cons_zero, List.getElem_cons_succ]); go_simp; try (with_reducible rfl))
          try simp only [Act.put, List.getElem_toArray, List.getElem_cons_zero, List.getElem_cons_succ, List.setIfInBounds_toArray, List.set_cons_zero, List.set_cons_succ]
          refine wpAnyH_take (i := 5) (oi := _) (v := ?_) rfl (by kernel_rfl) (by kernel_rfl) (by kernel_rfl) (fun _ _ _ h => h) (Or.inl ⟨by rfl, ?_⟩) (by assumption) ?_
          rotate_left
          · (intro w0 hSw; (try dsimp only at hSw); (try simp only [List.getElem_toArray, List.getElem_cons_zero, List.getElem_cons_succ]); go_simp; try (with_reducible rfl))
          try simp only [Act.put, List.getElem_toArray, List.getElem_cons_zero, List.getElem_cons_succ, List.setIfInBounds_toArray, List.set_cons_zero, List.set_cons_succ]
          refine wpAnyH_take (i := 6) (oi := _) (v := ?_) rfl (by kernel_rfl) (by kernel_rfl) (by kernel_rfl) (fun _ _ _ h => h) (Or.inl ⟨by rfl, ?_⟩) (by assumption) ?_
          rotate_left
          · (intro w0 hSw; (try dsimp only at hSw); (try simp only [List.getElem_toArray, List.getElem_cons_zero, List.getElem_cons_succ]); go_simp; try (with_reducible rfl))
          try simp only [Act.put, List.getElem_toArray, List.getElem_cons_zero, List.getElem_cons_succ, List.setIfInBounds_toArray, List.set_cons_zero, List.set_cons_succ]
          refine wpAnyH_take (i := 7) (oi := _) (v := ?_) rfl (by kernel_rfl) (by kernel_rfl) (by kernel_rfl) (fun _ _ _ h => h) (Or.inl ⟨by rfl, ?_⟩) (by assumption) ?_
          rotate_left
          · (intro w0 hSw; (try dsimp only at hSw); (try simp only [List.getElem_toArray, List.getElem_cons_zero, List.getElem_cons_succ]); go_simp; try (with_reducible rfl))
          try simp only [Act.put, List.getElem_toArray, List.getElem_cons_zero, List.getElem_cons_succ, List.setIfInBounds_toArray, List.set_cons_zero, List.set_cons_succ]
          refine wpAnyH_take (i := 8) (oi := _) (v := ?_) rfl (by kernel_rfl) (by kernel_rfl) (by kernel_rfl) (fun _ _ _ h => h) (Or.inl ⟨by rfl, ?_⟩) (by assumption) ?_
          rotate_left
          · (intro w0 hSw; (try dsimp only at hSw); (try simp only [List.getElem_toArray, List.getElem_cons_zero, List.getElem_cons_succ]); go_simp; try (with_reducible rfl))
          try simp only [Act.put, List.getElem_toArray, List.getElem_cons_zero, List.getElem_cons_succ, List.setIfInBounds_toArray, List.set_cons_zero, List.set_cons_succ]
          refine wpAnyH_take (i := 9) (oi := _) (v := ?_) rfl (by kernel_rfl) (by kernel_rfl) (by kernel_rfl) (fun _ _ _ h => h) (Or.inl ⟨by rfl, ?_⟩) (by assumption) ?_
          rotate_left
          · (intro w0 hSw; (try dsimp only at hSw); (try simp only [List.getElem_toArray, List.getElem_cons_zero, List.getElem_cons_succ]); go_simp; try (with_reducible rfl))
          try simp only [Act.put, List.getElem_toArray, List.getElem_cons_zero, List.getElem_cons_succ, List.setIfInBounds_toArray, List.set_cons_zero, List.set_cons_succ]
          refine wpAnyH_take (i := 10) (oi := _) (v := ?_) rfl (by kernel_rfl) (by kernel_rfl) (by kernel_rfl) (fun _ _ _ h => h) (Or.inl ⟨by rfl, ?_⟩) (by assumption) ?_
          rotate_left
          · (intro w0 hSw; (try dsimp only at hSw); (try simp only [List.getElem_toArray, List.getElem_cons_zero, List.getElem_cons_succ]); go_simp; try (with_reducible rfl))
          try simp only [Act.put, List.getElem_toArray, List.getElem_cons_zero, List.getElem_cons_succ, List.setIfInBounds_toArray, List.set_cons_zero, List.set_cons_succ]
          refine wpAnyH_take (i := 11) (oi := _) (v := ?_) rfl (by kernel_rfl) (by kernel_rfl) (by kernel_rfl) (fun _ _ _ h => h) (Or.inl ⟨by rfl, ?_⟩) (by assumption) ?_
          rotate_left
          · (intro w0 hSw; (try dsimp only at hSw); (try simp only [List.getElem_toArray, List.getElem_cons_zero, List.getElem_cons_succ]); go_simp; try (with_reducible rfl))
          try simp only [Act.put, List.getElem_toArray, List.getElem_cons_zero, List.getElem_cons_succ, List.setIfInBounds_toArray, List.set_cons_zero, List.set_cons_succ]
          refine wpAnyH_take (i := 12) (oi := _) (v := ?_) rfl (by kernel_rfl) (by kernel_rfl) (by kernel_rfl) (fun _ _ _ h => h) (Or.inl ⟨by rfl, ?_⟩) (by assumption) ?_
          rotate_left
          · (intro w0 hSw; (try dsimp only at hSw); (try simp only [List.getElem_toArray, List.getElem_cons_zero, List.getElem_cons_succ]); go_simp; try (with_reducible rfl))
          try simp only [Act.put, List.getElem_toArray, List.getElem_cons_zero, List.getElem_cons_succ, List.setIfInBounds_toArray, List.set_cons_zero, List.set_cons_succ]
          refine wpAnyH_take (i := 13) (oi := _) (v := ?_) rfl (by kernel_rfl) (by kernel_rfl) (by kernel_rfl) (fun _ _ _ h => h) (Or.inl ⟨by rfl, ?_⟩) (by assumption) ?_
          rotate_left
          · (intro w0 hSw; (try dsimp only at hSw); (try simp only [List.getElem_toArray, List.getElem_cons_zero, List.getElem_cons_succ]); go_simp; try (with_reducible rfl))
          try simp only [Act.put, List.getElem_toArray, List.getElem_cons_zero, List.getElem_cons_succ, List.setIfInBounds_toArray, List.set_cons_zero, List.set_cons_succ]
          refine wpAnyH_take (i := 14) (oi := _) (v := ?_) rfl (by kernel_rfl) (by kernel_rfl) (by kernel_rfl) (fun _ _ _ h => h) (Or.inl ⟨by rfl, ?_⟩) (by assumption) ?_
          rotate_left
          · (intro w0 hSw; (try dsimp only at hSw); (try simp only [List.getElem_toArray, List.getElem_cons_zero, List.getElem_cons_succ]); go_simp; try (with_reducible rfl))
          try simp only [Act.put, List.getElem_toArray, List.getElem_cons_zero, List.getElem_cons_succ, List.setIfInBounds_toArray, List.set_cons_zero, List.set_cons_succ]
          refine wpAnyH_ready (rs := [15]) (by kernel_rfl) (by simp) ?_
          refine AllReadyH.cons (o := _) rfl (fun K hK => ?_) AllReadyH.nil
          (try simp only [List.getElem_toArray, List.getElem_cons_zero, List.getElem_cons_succ])
          go_simp
          go_at_call 53
          refine (MN.out _ (by first | exact Below.drew (Below.refl _ _) | exact Below.refl _ _)).mono ?_
          rintro e w3 ⟨p0, rfl, hp1, hp2, hp3⟩
          unfold thrown
          go_wp2
          )
          have hTh : Thr w r (k : Int) (thrown p0) w3 := ⟨p0, rfl, hp1, Nat.le_trans HG.out.size hp2, grown_trans HG.out (grown_of_drew hp3)⟩
          first | exact ⟨rfl, Or.inr ⟨HNO.out, hTh⟩⟩ | exact Or.inr ⟨HNO.out, hTh⟩
      · have hi4I : ¬ ((i : Int) < 4) := by omega
        have HNO : Hid (∀ y q, sevB T k = some (y, q) → ¬ (least ≤ y ∧ y ≤ most)) := fun y q hq => by rw [HSV.out.stop (by omega)] at hq; cases hq
        go_upto_region 6 with fail
        (
        refine wp_region_held_drew (S := (fun w' => w'.cell? ⟨r, 6, none⟩ = some (.string sT) ∧ w'.cell? ⟨r, 7, none⟩ = some (.int .i64 (kk : Int)))) (by kernel_rfl) (by first | assumption | exact KK.out _ (by assumption) | exact KK.out _ (Below.drew (Below.refl _ _)) | exact KK.out _ (Below.refl _ _)) (fun hHeld => ?_)
        refine wpAnyH_take (i := 0) (oi := _) (v := ?_) rfl (by kernel_rfl) (by kernel_rfl) (by kernel_rfl) (fun _ _ _ h => h) (Or.inl ⟨by rfl, ?_⟩) (by assumption) ?_
        rotate_left
        · (intro w0 hSw; (try dsimp only at hSw); (try simp only [List.getElem_toArray, List.getElem_cons_zero]); go_simp; try (with_reducible rfl))
        try simp only [Act.put, List.getElem_toArray, List.getElem_cons_zero, List.setIfInBounds_toArray, List.set_cons_zero, List.set_cons_succ]
        refine wpAnyH_take (i := 1) (oi := _) (v := ?_) rfl (by kernel_rfl) (by kernel_rfl) (by kernel_rfl) (fun _ _ _ h => h) (Or.inl ⟨by rfl, ?_⟩) (by assumption) ?_
        rotate_left
        · (intro w0 hSw; (try dsimp only at hSw); (try simp only [List.getElem_toArray, List.getElem_cons_zero, List.getElem_cons_succ]); go_simp; try (with_reducible rfl))
        try simp only [Act.put, List.getElem_toArray, List.getElem_cons_zero, List.getElem_cons_succ, List.setIfInBounds_toArray, List.set_cons_zero, List.set_cons_succ]
        refine wpAnyH_take (i := 2) (oi := _) (v := ?_) rfl (by kernel_rfl) (by kernel_rfl) (by kernel_rfl) (fun _ _ _ h => h) (Or.inl ⟨by rfl, ?_⟩) (by assumption) ?_
        rotate_left
        · (intro w0 hSw; (try dsimp only at hSw); (try simp only [List.getElem_toArray, List.getElem_cons_zero, List.getElem_cons_succ]); go_simp; try (with_reducible rfl))
        try simp only [Act.put, List.getElem_toArray, List.getElem_cons_zero, List.getElem_cons_succ, List.setIfInBounds_toArray, List.set_cons_zero, List.set_cons_succ]
        refine wpAnyH_take (i := 3) (oi := _) (v := ?_) rfl (by kernel_rfl) (by kernel_rfl) (by kernel_rfl) (fun _ _ _ h => h) (Or.inl ⟨by rfl, ?_⟩) (by assumption) ?_
        rotate_left
        · (intro w0 hSw; (try dsimp only at hSw); (try simp only [List.getElem_toArray, List.getElem_cons_zero, List.getElem_cons_succ]); go_simp; try (with_reducible rfl))
        try simp only [Act.put, List.getElem_toArray, List.getElem_cons_zero, List.getElem_cons_succ, List.setIfInBounds_toArray, List.set_cons_zero, List.set_cons_succ]
        refine wpAnyH_take (i := 4) (oi := _) (v := undef) rfl (by kernel_rfl) (by kernel_rfl) (by kernel_rfl) (fun _ _ _ h => h) (Or.inr ⟨by rfl, rfl⟩) (by assumption) ?_
        try simp only [Act.put, List.getElem_toArray, List.getElem_cons_zero, List.getElem_cons_succ, List.setIfInBounds_toArray, List.set_cons_zero, List.set_cons_succ]
        refine wpAnyH_take (i := 5) (oi := _) (v := undef) rfl (by kernel_rfl) (by kernel_rfl) (by kernel_rfl) (fun _ _ _ h => h) (Or.inr ⟨by rfl, rfl⟩) (by assumption) ?_
        try simp only [Act.put, List.getElem_toArray, List.getElem_cons_zero, List.getElem_cons_succ, List.setIfInBounds_toArray, List.set_cons_zero, List.set_cons_succ]
        refine wpAnyH_take (i := 6) (oi := _) (v := undef) rfl (by kernel_rfl) (by kernel_rfl) (by kernel_rfl) (fun _ _ _ h => h) (Or.inr ⟨by rfl, rfl⟩) (by assumption) ?_
        try simp only [Act.put, List.getElem_toArray, List.getElem_cons_zero, List.getElem_cons_succ, List.setIfInBounds_toArray, List.set_cons_zero, List.set_cons_succ]
        refine wpAnyH_take (i := 7) (oi := _) (v := undef) rfl (by kernel_rfl) (by kernel_rfl) (by kernel_rfl) (fun _ _ _ h => h) (Or.inr ⟨by rfl, rfl⟩) (by assumption) ?_
        try simp only [Act.put, List.getElem_toArray, List.getElem_cons_zero, List.getElem_cons_succ, List.setIfInBounds_toArray, List.set_cons_zero, List.set_cons_succ]
        refine wpAnyH_take (i := 8) (oi := _) (v := undef) rfl (by kernel_rfl) (by kernel_rfl) (by kernel_rfl) (fun _ _ _ h => h) (Or.inr ⟨by rfl, rfl⟩) (by assumption) ?_
        try simp only [Act.put, List.getElem_toArray, List.getElem_cons_zero, List.getElem_cons_succ, List.setIfInBounds_toArray, List.set_cons_zero, List.set_cons_succ]
        refine wpAnyH_take (i := 9) (oi := _) (v := undef) rfl (by kernel_rfl) (by kernel_rfl) (by kernel_rfl) (fun _ _ _ h => h) (Or.inr ⟨by rfl, rfl⟩) (by assumption) ?_
        try simp only [Act.put, List.getElem_toArray, List.getElem_cons_zero, List.getElem_cons_succ, List.setIfInBounds_toArray, List.set_cons_zero, List.set_cons_succ]
        refine wpAnyH_take (i := 10) (oi := _) (v := undef) rfl (by kernel_rfl) (by kernel_rfl) (by kernel_rfl) (fun _ _ _ h => h) (Or.inr ⟨by rfl, rfl⟩) (by assumption) ?_
        try simp only [Act.put, List.getElem_toArray, List.getElem_cons_zero, List.getElem_cons_succ, List.setIfInBounds_toArray, List.set_cons_zero, List.set_cons_succ]
        refine wpAnyH_take (i := 11) (oi := _) (v := undef) rfl (by kernel_rfl) (by kernel_rfl) (by kernel_rfl) (fun _ _ _ h => h) (Or.inr ⟨by rfl, rfl⟩) (by assumption) ?_
        try simp only [Act.put, List.getElem_toArray, List.getElem_cons_zero, List.getElem_cons_succ, List.setIfInBounds_toArray, List.set_cons_zero, List.set_cons_succ]
        refine wpAnyH_take (i := 12) (oi := _) (v := undef) rfl (by kernel_rfl) (by kernel_rfl) (by kernel_rfl) (fun _ _ _ h => h) (Or.inr ⟨by rfl, rfl⟩) (by assumption) ?_
        try simp only [Act.put, List.getElem_toArray, List.getElem_cons_zero, List.getElem_cons_succ, List.setIfInBounds_toArray, List.set_cons_zero, List.set_cons_succ]
        refine wpAnyH_take (i := 13) (oi := _) (v := undef) rfl (by kernel_rfl) (by kernel_rfl) (by kernel_rfl) (fun _ _ _ h => h) (Or.inr ⟨by rfl, rfl⟩) (by assumption) ?_
        try simp only [Act.put, List.getElem_toArray, List.getElem_cons_zero, List.getElem_cons_succ, List.setIfInBounds_toArray, List.set_cons_zero, List.set_cons_succ]
        refine wpAnyH_take (i := 14) (oi := _) (v := ?_) rfl (by kernel_rfl) (by kernel_rfl) (by kernel_rfl) (fun _ _ _ h => h) (Or.inl ⟨by rfl, ?_⟩) (by assumption) ?_
        rotate_left
        · (intro w0 hSw; (try dsimp only at hSw); (try simp only [List.getElem_toArray, List.getElem_cons_zero, List.getElem_cons_succ]); go_simp; try (with_reducible rfl))
        try simp only [Act.put, List.getElem_toArray, List.getElem_cons_zero, List.getElem_cons_succ, List.setIfInBounds_toArray, List.set_cons_zero, List.set_cons_succ]
        refine wpAnyH_ready (rs := [15]) (by kernel_rfl) (by simp) ?_
        refine AllReadyH.cons (o := _) rfl (fun K hK => ?_) AllReadyH.nil
        (try simp only [List.getElem_toArray, List.getElem_cons_zero, List.getElem_cons_succ])
        go_simp
        go_at_call 53
        refine (MN.out _ (by first | exact Below.drew (Below.refl _ _) | exact Below.refl _ _)).mono ?_
        rintro e w3 ⟨p0, rfl, hp1, hp2, hp3⟩
        unfold thrown
        go_wp2
        )
        have hTh : Thr w r (k : Int) (thrown p0) w3 := ⟨p0, rfl, hp1, Nat.le_trans HG.out.size hp2, grown_trans HG.out (grown_of_drew hp3)⟩
        first | exact ⟨rfl, Or.inr ⟨HNO.out, hTh⟩⟩ | exact Or.inr ⟨HNO.out, hTh⟩
    · have HEQ : Hid (sevB T k = some (v, k + i)) := by have := HSV.out; unfold SevAt at this; rw [if_pos rfl] at this; exact this
      have HT : Hid (ByAt wr r T (k + i) h) := ⟨⟨_, HB.out⟩, HKI.out, HLN.out⟩
      obtain ⟨b, hb⟩ : ∃ b, b = decide (least ≤ v ∧ v ≤ most) := ⟨_, rfl⟩
      have MU := hidden (must_by r T _ h _ b wr HB.out)
      have HBB := hidden hb
      clear hb HVS HSV HKI HGT HC6
      by_cases h1 : least ≤ v
      · by_cases h2 : v ≤ most
        · have hbt : b = true := by rw [HBB.out]; simp [h1, h2]
          subst hbt
          go_wp2_with fail
          go_at_call 53
          refine MU.out.mono ?_
          rintro e w3 hc
          obtain ⟨he3, hw3⟩ : e = .returned (.tuple #[]) ∧ w3 = wr := by
            rcases hc with ⟨-, h1, h2⟩ | ⟨hf, -⟩
            · exact ⟨h1, h2⟩
            · cases hf
          subst he3
          subst hw3
          go_wp2
          go_ret
          exact Or.inl ⟨v, _, HEQ.out, h1, h2, rfl, HT.out, HG.out⟩
        · have hbf : b = false := by rw [HBB.out]; simp [h2]
          subst hbf
          have HNO : Hid (∀ y q, sevB T k = some (y, q) → ¬ (least ≤ y ∧ y ≤ most)) := fun y q hq hh => by rw [HEQ.out] at hq; cases hq; exact h2 hh.2
          go_wp2_with fail
          go_at_call 53
          refine MU.out.mono ?_
          rintro e w3 hc
          obtain ⟨p0, rfl, hp1, hp2, hp3⟩ : Thr wr r (k : Int) e w3 := by
            rcases hc with ⟨hf, -⟩ | ⟨-, hc⟩
            · cases hf
            · exact hc
          unfold thrown
          go_wp2
          have hTh : Thr w r (k : Int) (thrown p0) w3 := ⟨p0, rfl, hp1, Nat.le_trans HG.out.size hp2, grown_trans HG.out hp3⟩
          first | exact ⟨rfl, Or.inr ⟨HNO.out, hTh⟩⟩ | exact Or.inr ⟨HNO.out, hTh⟩
      · have hbf : b = false := by rw [HBB.out]; simp [h1]
        subst hbf
        have HNO : Hid (∀ y q, sevB T k = some (y, q) → ¬ (least ≤ y ∧ y ≤ most)) := fun y q hq hh => by rw [HEQ.out] at hq; cases hq; exact h1 hh.1
        go_wp2_with fail
        go_at_call 53
        refine MU.out.mono ?_
        rintro e w3 hc
        obtain ⟨p0, rfl, hp1, hp2, hp3⟩ : Thr wr r (k : Int) e w3 := by
          rcases hc with ⟨hf, -⟩ | ⟨-, hc⟩
          · cases hf
          · exact hc
        unfold thrown
        go_wp2
        have hTh : Thr w r (k : Int) (thrown p0) w3 := ⟨p0, rfl, hp1, Nat.le_trans HG.out.size hp2, grown_trans HG.out hp3⟩
        first | exact ⟨rfl, Or.inr ⟨HNO.out, hTh⟩⟩ | exact Or.inr ⟨HNO.out, hTh⟩


end Go.Proofs.YtdiahnommkhkiaaDoor
