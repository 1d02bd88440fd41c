import Derived.Test.YtdiahnommkhkiaaDoorJ14
namespace Go.Proofs.YtdiahnommkhkiaaDoor
open Go.RowKit

theorem bs_sub (l : List UInt8) (a b : Nat) : (bs l).extract a b = bs ((l.take b).drop a) := by
  apply ByteArray.ext
  rw [ByteArray.data_extract]
  apply Array.toList_inj.1
  simp only [bs, Array.toList_extract, List.extract_eq_take_drop]
  simp [List.drop_take]
def ilo (c : UInt8) : Bool := c == 105 || c == 108 || c == 111
theorem ilo_idx (c : UInt8) : decide (0 ≤ Lib.indexByte [105, 108, 111] c) = ilo c := by
  unfold ilo
  simp only [Lib.indexByte]
  by_cases h1 : c = 105
  · subst h1; rfl
  by_cases h2 : c = 108
  · subst h2; rfl
  by_cases h3 : c = 111
  · subst h3; rfl
  have e1 : ((105 : UInt8) == c) = false := by simp; exact fun e => h1 e.symm
  have e2 : ((108 : UInt8) == c) = false := by simp; exact fun e => h2 e.symm
  have e3 : ((111 : UInt8) == c) = false := by simp; exact fun e => h3 e.symm
  simp [e1, e2, e3, h1, h2, h3]
theorem name_cons (c : UInt8) (r : List UInt8) : nameOk (c :: r) = (decide (0 ≤ Lib.indexByte [105, 108, 111] c) && numOk (Lib.cut r [32]).1 && !(Lib.cut r [32]).2.1.isEmpty) := rfl
theorem name_short {l : List UInt8} (h : l.length < 4) : nameOk l = false := by
  cases l with
  | nil => rfl
  | cons c r =>
    rw [name_cons]
    rcases first_or 32 r with hf | ⟨a, b, ha, rfl⟩
    · rw [cut_free 32 r hf]; simp
    · rw [cut_cut 32 a b ha]
      simp only [List.length_cons, List.length_append] at h
      by_cases h0 : a = []
      · subst h0; simp [numOk]
      · have : 0 < a.length := List.length_pos_iff.2 h0
        have hb : b = [] := List.eq_nil_of_length_eq_zero (by omega)
        subst hb; simp
theorem name_out {c : UInt8} {r : List UInt8} (h : ilo c = false) : nameOk (c :: r) = false := by
  rw [name_cons, ilo_idx, h]; rfl
theorem take_not {l : List UInt8} {k : Nat} (h : ∀ j, j < k → l[j]? ≠ some 32) : 32 ∉ l.take k := by
  intro hm
  obtain ⟨j, hj⟩ := List.mem_iff_getElem?.1 hm
  rw [List.getElem?_take] at hj
  split at hj
  · exact h j (by assumption) hj
  · cases hj
theorem name_doc {c : UInt8} {r : List UInt8} {k : Nat} (hc : ilo c = true) (h1 : 1 ≤ k) (h2 : ∀ j, 1 ≤ j → j < k → (c :: r)[j]? ≠ some 32) (hk : k ≤ (c :: r).length) (h3 : k < (c :: r).length → (c :: r)[k]? = some 32) : nameOk (c :: r) = (numOk (((c :: r).take k).drop 1) && decide (k + 1 < (c :: r).length)) := by
  obtain ⟨m, rfl⟩ : ∃ m, k = m + 1 := ⟨k - 1, by omega⟩
  have hn : ∀ j, j < m → r[j]? ≠ some 32 := fun j hj => by have := h2 (j + 1) (by omega) (by omega); simpa using this
  have ht : ((c :: r).take (m + 1)).drop 1 = r.take m := by simp
  rw [ht]
  rw [name_cons, ilo_idx, hc]
  simp only [List.length_cons] at hk h3 ⊢
  rcases Nat.lt_or_ge m r.length with hlt | hge
  · have h32 : r[m]? = some 32 := by have := h3 (by omega); simpa using this
    have hr : r = r.take m ++ 32 :: r.drop (m + 1) := by
      have hg : r[m] = 32 := by rw [List.getElem?_eq_getElem hlt] at h32; exact Option.some.inj h32
      have := List.drop_eq_getElem_cons hlt
      rw [hg] at this
      rw [← this, List.take_append_drop]
    have hcut : Lib.cut r [32] = (r.take m, r.drop (m + 1), true) := by
      rw (occs := .pos [1]) [hr]
      exact cut_cut 32 _ _ (take_not hn)
    rw [hcut]
    simp only [Bool.true_and]
    congr 1
    by_cases hd : m + 1 + 1 < r.length + 1
    · have : (r.drop (m + 1)).isEmpty = false := by
        cases hx : r.drop (m + 1) with
        | nil => have := congrArg List.length hx; simp at this; omega
        | cons _ _ => rfl
      simp [this, hd]
    · have : r.drop (m + 1) = [] := List.drop_eq_nil_of_le (by omega)
      rw [this]
      simp; omega
  · have hmr : r.take m = r := List.take_of_length_le hge
    have hfree : 32 ∉ r := by have := take_not hn; rw [hmr] at this; exact this
    rw [cut_free 32 r hfree]
    have : decide (m + 1 + 1 < r.length + 1) = false := by simp; omega
    rw [this]; simp
theorem ret_two {x y x' y' : Bool} (h : x = x') (h' : y = y') : Ending.returned (.tuple #[.bool x, .bool y]) = .returned (.tuple #[.bool x', .bool y']) := by rw [h, h']
set_option maxRecDepth 100000 in
set_option maxHeartbeats 4000000 in
theorem trailer_any (l : List UInt8) (hl : l.length ≤ 1048576) (w : World) :
    Calls Tryd.prog 37 #[.string (bs l)] w fun e w' => e = .returned (.tuple #[.bool (decide (l = [99]) || nameOk l), .bool (decide (l = [99]))]) ∧ w' = w := by
  have hz := bs_size l
  have hce : ((bs l).toList == [99]) = decide (l = [99]) := by rw [bs_toList]; by_cases hx : l = [99] <;> simp [hx]
  have HG : Hid (∀ k c, l[k]? = some c → ∀ hk, (bs l)[k]'hk = c) := fun k c h hk => bs_get l k c h hk
  have HS : Hid (∀ b, (bs l).extract 1 b = bs ((l.take b).drop 1)) := fun b => bs_sub l 1 b
  generalize bs l = s at *
  by_cases h99 : l = [99]
  · have hd : decide (l = [99]) = true := by simp [h99]
    rw [hd] at hce ⊢
    simp only [Bool.true_or]
    clear h99 hd
    go_enter Tryd.func37, Tryd.ntmps37
    go_wp2
    go_ret2
    exact ⟨rfl, rfl⟩
  have hd : decide (l = [99]) = false := by simp [h99]
  rw [hd] at hce ⊢
  simp only [Bool.false_or]
  obtain ⟨nm, HNM⟩ : ∃ b, Hid (nameOk l = b) := ⟨_, rfl⟩
  rw [HNM.out]
  clear hd h99
  by_cases h4 : l.length < 4
  · have HNF : Hid (nm = false) := by rw [← HNM.out]; exact name_short h4
    have hs4 : (s.size : Int) < 4 := by omega
    go_enter Tryd.func37, Tryd.ntmps37
    go_wp2
    go_ret2
    exact ⟨ret_two HNF.out.symm rfl, rfl⟩
  have hs4 : ¬ (s.size : Int) < 4 := by omega
  cases l with
  | nil => simp at h4
  | cons c r =>
  have hk0 : 0 < s.size := by omega
  have g0 := HG.out 0 c rfl hk0
  obtain ⟨il, HIL⟩ : ∃ b, Hid (ilo c = b) := ⟨_, rfl⟩
  cases il
  · have HNF : Hid (nm = false) := by rw [← HNM.out]; exact name_out HIL.out
    have hne : ¬ c = 105 ∧ ¬ c = 108 ∧ ¬ c = 111 := by
      have := HIL.out
      unfold ilo at this
      simp at this
      exact ⟨this.1.1, this.1.2, this.2⟩
    have n1 : ((c.toNat : Int) == 105) = false := by simp; intro e; exact hne.1 (UInt8.toNat_inj.1 (by show c.toNat = 105; omega))
    have n2 : ((c.toNat : Int) == 108) = false := by simp; intro e; exact hne.2.1 (UInt8.toNat_inj.1 (by show c.toNat = 108; omega))
    have n3 : ((c.toNat : Int) == 111) = false := by simp; intro e; exact hne.2.2 (UInt8.toNat_inj.1 (by show c.toNat = 111; omega))
    have m1 : ((c.toNat : Int) != 105) = true := by simpa using n1
    have m2 : ((c.toNat : Int) != 108) = true := by simpa using n2
    have m3 : ((c.toNat : Int) != 111) = true := by simpa using n3
    clear hne hz hl h4
    go_enter Tryd.func37, Tryd.ntmps37
    go_wp2
    go_ret2
    exact ⟨ret_two HNF.out.symm rfl, rfl⟩
  · have HSTEP : Hid (∀ k, 1 ≤ k → (∀ j, 1 ≤ j → j < k → (c :: r)[j]? ≠ some 32) → k ≤ (c :: r).length → (k < (c :: r).length → (c :: r)[k]? = some 32) → nm = (numOk (((c :: r).take k).drop 1) && decide (k + 1 < (c :: r).length))) := fun k h1 h2 h3 h4 => by rw [← HNM.out]; exact name_doc HIL.out h1 h2 h3 h4
    have hcc : c = 105 ∨ c = 108 ∨ c = 111 := by
      have := HIL.out
      unfold ilo at this
      simp at this
      rcases this with (h | h) | h
      · exact .inl h
      · exact .inr (.inl h)
      · exact .inr (.inr h)
    generalize hL : c :: r = L at *
    have TAIL : ∀ (c' : UInt8) (q : s[0]'hk0 = c'), (c' = 105 ∨ c' = 108 ∨ c' = 111) → Calls Tryd.prog 37 #[.string s] w fun e w' => e = .returned (.tuple #[.bool nm, .bool false]) ∧ w' = w := by
      intro c' q hc'
      have hc1 : (((c'.toNat : Int) != 105) = false ∨ ((c'.toNat : Int) != 105) = true ∧ ((c'.toNat : Int) != 108) = false ∨ ((c'.toNat : Int) != 105) = true ∧ ((c'.toNat : Int) != 108) = true ∧ ((c'.toNat : Int) != 111) = false) := by
        rcases hc' with rfl | rfl | rfl
        · exact .inl rfl
        · exact .inr (.inl ⟨rfl, rfl⟩)
        · exact .inr (.inr ⟨rfl, rfl, rfl⟩)
      have HZ := hidden hz
      have HFG : Hid (∀ (k : Nat) w', k ≤ L.length → Calls Tryd.prog 45 #[.string (bs ((L.take k).drop 1))] w' fun e w'' => e = .returned (.tuple #[.int .i64 (if numOk ((L.take k).drop 1) then numV ((L.take k).drop 1) else 0), .bool (numOk ((L.take k).drop 1))]) ∧ w'' = w') := fun k w' _ => figures_any _ (by simp; omega) w'
      have hl2 : L.length ≤ 1048576 := hl
      have h42 : 4 ≤ L.length := by omega
      clear g0 hcc HIL hL hl h4 HNM hc'
      generalize hLL : L.length = n at *
      have HLN := hidden hLL
      clear hLL
      have SP : Hid ((s.size : Int) = (n : Int)) := by show _ = _; rw [HZ.out]
      rcases hc1 with q1 | ⟨q1, q2⟩ | ⟨q1, q2, q3⟩
      all_goals
        go_enter Tryd.func37, Tryd.ntmps37
        go_wp2_with fail
        clear q
        go_loopw [4] (fun k' w' => ∃ (k : Nat), 1 ≤ k ∧ k ≤ n ∧ k' = .int .i64 k ∧ Hid (∀ j, 1 ≤ j → j < k → L[j]? ≠ some 32) ∧ w' = w) (fun k' _ => n - (intOf k').toNat)
        case atStart => exact ⟨1, Nat.le_refl _, by omega, rfl, (fun j h1 h2 => absurd h1 (by omega)), rfl⟩
        case round =>
          obtain ⟨k, hk1, hk, rfl, HA, rfl⟩ := hrel
          by_cases hlt : k < n
          · obtain ⟨d, hd⟩ := getElem_lt (show k < L.length by rw [HLN.out]; exact hlt)
            have hks : k < s.size := by have := HZ.out; omega
            have g1 := HG.out k d hd hks
            have hltI : (k : Int) < (n : Int) := by omega
            have HD := hidden hd
            have e5 : IntKind.i64.wrap ((k : Int) + 1) = (k : Int) + 1 := wrapI _ (by omega) (by omega)
            clear hd
            by_cases h32 : d = 32
            · have b1 : ((d.toNat : Int) != 32) = false := by subst h32; rfl
              have HNE := hidden (HSTEP.out k hk1 HA.out hk (fun _ => by rw [HD.out, h32]))
              have FG := hidden (HFG.out k wr hk)
              have hx := HS.out k
              have hkI : (k : Int) ≤ (n : Int) := by omega
              have hk1I : (1 : Int) ≤ (k : Int) := by omega
              obtain ⟨bn, HBN⟩ : ∃ b, Hid (numOk ((L.take k).drop 1) = b) := ⟨_, rfl⟩
              rw [HBN.out] at FG HNE
              generalize (if bn = true then numV ((L.take k).drop 1) else 0) = vn at FG
              generalize bs ((L.take k).drop 1) = sn at *
              go_wp2_with fail
              go_at_call 45
              refine FG.out.mono ?_
              rintro e w1 ⟨rfl, rfl⟩
              by_cases hk2 : k + 1 < n
              · have hk2I : (k : Int) + 1 < (n : Int) := by omega
                have hdd : decide (k + 1 < n) = true := by simp [hk2]
                rw [hdd] at HNE
                cases bn
                · go_wp2
                  go_ret2
                  exact ⟨ret_two (by first | exact HNE.out.symm | (rw [HNE.out]; simp; omega)) rfl, rfl⟩
                · go_wp2
                  go_ret2
                  exact ⟨ret_two (by first | exact HNE.out.symm | (rw [HNE.out]; simp; omega)) rfl, rfl⟩
              · have hk2I : ¬ (k : Int) + 1 < (n : Int) := by omega
                have hdd : decide (k + 1 < n) = false := by simp [hk2]
                rw [hdd] at HNE
                cases bn
                · go_wp2
                  go_ret2
                  exact ⟨ret_two (by first | exact HNE.out.symm | (rw [HNE.out]; simp; omega)) rfl, rfl⟩
                · go_wp2
                  go_ret2
                  exact ⟨ret_two (by first | exact HNE.out.symm | (rw [HNE.out]; simp; omega)) rfl, rfl⟩
            · have b1 : ((d.toNat : Int) != 32) = true := by simp; intro e; exact h32 (UInt8.toNat_inj.1 (by show d.toNat = 32; omega))
              have HA2 : Hid (∀ j, 1 ≤ j → j < k + 1 → L[j]? ≠ some 32) := fun j h1 h2 => by
                rcases Nat.lt_or_ge j k with h' | h'
                · exact HA.out j h1 h'
                · have : j = k := by omega
                  subst this
                  rw [HD.out]
                  intro e
                  exact h32 (Option.some.inj e)
              go_wp2
              go_roundw
              case measure => simp [intOf]; omega
              case rel => exact ⟨k + 1, by omega, by omega, by simp, HA2.out, by first | rfl | trivial⟩
          · have hltI : ¬ (k : Int) < (n : Int) := by omega
            have HNE := hidden (HSTEP.out k hk1 HA.out hk (fun h => absurd h hlt))
            have FG := hidden (HFG.out k wr hk)
            have hx := HS.out k
            have hkI : (k : Int) ≤ (n : Int) := by omega
            have hk1I : (1 : Int) ≤ (k : Int) := by omega
            obtain ⟨bn, HBN⟩ : ∃ b, Hid (numOk ((L.take k).drop 1) = b) := ⟨_, rfl⟩
            rw [HBN.out] at FG HNE
            generalize (if bn = true then numV ((L.take k).drop 1) else 0) = vn at FG
            generalize bs ((L.take k).drop 1) = sn at *
            have hk2I : ¬ (k : Int) + 1 < (n : Int) := by omega
            have hdd : decide (k + 1 < n) = false := by simp; omega
            have e5 : IntKind.i64.wrap ((k : Int) + 1) = (k : Int) + 1 := wrapI _ (by omega) (by omega)
            rw [hdd] at HNE
            go_wp2_with fail
            go_at_call 45
            refine FG.out.mono ?_
            rintro e w1 ⟨rfl, rfl⟩
            cases bn
            · go_wp2
              go_ret2
              exact ⟨ret_two (by first | exact HNE.out.symm | (rw [HNE.out]; simp; omega)) rfl, rfl⟩
            · go_wp2
              go_ret2
              exact ⟨ret_two (by first | exact HNE.out.symm | (rw [HNE.out]; simp; omega)) rfl, rfl⟩
    exact TAIL c g0 hcc


end Go.Proofs.YtdiahnommkhkiaaDoor
