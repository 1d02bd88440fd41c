import Derived.Test.YtdiahnommkhkiaaDoorJ04
namespace Go.Proofs.YtdiahnommkhkiaaDoor
open Go.RowKit

theorem bytes_loop (s : ByteArray) (n : Nat) : ∀ (i : Nat) (r : List UInt8), s.size - i = n → ByteArray.toList.loop s i r = r.reverse ++ s.data.toList.drop i := by
  induction n with
  | zero =>
    intro i r h
    rw [ByteArray.toList.loop]
    have h1 : ¬ i < s.size := by omega
    have h2 : s.data.toList.drop i = [] := List.drop_eq_nil_of_le (by show s.data.toList.length ≤ i; rw [Array.length_toList]; have : s.data.size = s.size := rfl; omega)
    rw [if_neg h1, h2]; simp
  | succ n ih =>
    intro i r h
    rw [ByteArray.toList.loop]
    have h1 : i < s.size := by omega
    have h3 : i < s.data.toList.length := by rw [Array.length_toList]; exact h1
    rw [if_pos h1, ih (i + 1) _ (by omega), List.drop_eq_getElem_cons h3]
    have e : s.get! i = s.data.toList[i] := by
      show s.data[i]! = _
      rw [getElem!_pos s.data i h1]; simp
    rw [e]; simp
theorem bs_toList (l : List UInt8) : (bs l).toList = l := by
  show ByteArray.toList.loop (bs l) 0 [] = l
  rw [bytes_loop (bs l) _ 0 [] rfl]; simp [bs]
theorem bs_empty (l : List UInt8) : (bs l).toList.isEmpty = l.isEmpty := by rw [bs_toList]
theorem bs_get (l : List UInt8) (k : Nat) (c : UInt8) (h : l[k]? = some c) (hk : k < (bs l).size) : (bs l)[k]'hk = c := by
  have hk2 : k < l.length := by rw [bs_size] at hk; exact hk
  have e : l[k] = c := by rw [List.getElem?_eq_getElem hk2] at h; exact Option.some.inj h
  rw [← e]
  show (bs l).data[k] = _
  simp [bs]
def isDig (c : UInt8) : Bool := decide (48 ≤ c.toNat ∧ c.toNat ≤ 57)
def numV (l : List UInt8) : Int := l.foldl (fun v c => 10 * v + ((c.toNat : Int) - 48)) 0
theorem numV_snoc (l : List UInt8) (c : UInt8) : numV (l ++ [c]) = 10 * numV l + ((c.toNat : Int) - 48) := by unfold numV; rw [List.foldl_append]; rfl
/-- a number as lines have them -/
def numOk (l : List UInt8) : Bool := !l.isEmpty && decide (l.length ≤ 9) && !(decide (1 < l.length) && decide (l[0]? = some 48)) && l.all isDig
theorem numV_take (l : List UInt8) (k : Nat) (hd : (l.take k).all isDig = true) (hk : k ≤ l.length) : 0 ≤ numV (l.take k) ∧ numV (l.take k) < 10 ^ k := by
  induction k with
  | zero => simp [numV]
  | succ k ih =>
    obtain ⟨c, hc⟩ := getElem_lt (show k < l.length by omega)
    rw [all_next isDig l k c hc] at hd
    simp only [Bool.and_eq_true] at hd
    have := ih hd.1 (by omega)
    rw [take_next l k c hc, numV_snoc, Int.pow_succ]
    have hc2 := hd.2
    simp [isDig] at hc2
    omega
set_option maxHeartbeats 400000 in
theorem digit_any (c : UInt8) (w : World) :
    Calls Tryd.prog 63 #[.int .u8 (c.toNat : Int)] w fun e w' => e = .returned (.bool (isDig c)) ∧ w' = w := by
  have e : isDig c = decide (48 ≤ c.toNat ∧ c.toNat ≤ 57) := rfl
  by_cases h1 : (48 : Int) ≤ (c.toNat : Int)
  · by_cases h2 : (c.toNat : Int) ≤ 57
    · have hd : isDig c = true := by rw [e]; simp; omega
      rw [hd]; clear hd e
      go_enter Tryd.func63, Tryd.ntmps63
      go_wp2
      go_ret
      exact ⟨rfl, rfl⟩
    · have hd : isDig c = false := by rw [e]; simp; omega
      rw [hd]; clear hd e
      go_enter Tryd.func63, Tryd.ntmps63
      go_wp2
      go_ret
      exact ⟨rfl, rfl⟩
  · have hd : isDig c = false := by rw [e]; simp; omega
    rw [hd]; clear hd e
    go_enter Tryd.func63, Tryd.ntmps63
    go_wp2
    go_ret
    exact ⟨rfl, rfl⟩
/-- why a word is no number ahead of its figures -/
theorem num_cases (l : List UInt8) : (numOk l = false ∧ l.isEmpty = true) ∨ (numOk l = false ∧ l.isEmpty = false ∧ 9 < l.length) ∨ (numOk l = false ∧ l.isEmpty = false ∧ l.length ≤ 9 ∧ 1 < l.length ∧ l[0]? = some 48) ∨ (l.isEmpty = false ∧ l.length ≤ 9 ∧ 1 < l.length ∧ (∃ c, l[0]? = some c ∧ ¬ (c.toNat : Int) = 48) ∧ numOk l = l.all isDig) ∨ (l.isEmpty = false ∧ l.length ≤ 9 ∧ ¬ 1 < l.length ∧ numOk l = l.all isDig) := by
  unfold numOk
  by_cases h0 : l.isEmpty = true
  · left; simp [h0]
  · have h0' : l.isEmpty = false := by simpa using h0
    right
    by_cases h1 : 9 < l.length
    · left; refine ⟨?_, h0', h1⟩
      have : decide (l.length ≤ 9) = false := by simp; omega
      simp [this]
    · right
      have h1' : decide (l.length ≤ 9) = true := by simp; omega
      by_cases h2 : 1 < l.length
      · obtain ⟨c, hc⟩ := getElem_lt (show 0 < l.length by omega)
        by_cases h3 : c = 48
        · left; subst h3; exact ⟨by simp [hc, h2], h0', by omega, h2, hc⟩
        · right; left
          refine ⟨h0', by omega, h2, ⟨c, hc, fun e => h3 ?_⟩, by simp [h0', h1', h2, hc, h3]⟩
          have : c.toNat = 48 := by omega
          exact UInt8.toNat_inj.1 (by rw [this]; rfl)
      · right; right
        exact ⟨h0', by omega, h2, by simp [h0', h1', h2]⟩
set_option maxRecDepth 100000 in
set_option maxHeartbeats 1000000 in
theorem isNumber_any (l : List UInt8) (hl : l.length ≤ 1048576) (w : World) :
    Calls Tryd.prog 70 #[.string (bs l)] w fun e w' => e = .returned (.bool (numOk l)) ∧ w' = w := by
  have hz := bs_size l
  have he := bs_empty l
  have HG : Hid (∀ k c, l[k]? = some c → ∀ hk, (bs l)[k]'hk = c) := fun k c h hk => bs_get l k c h hk
  generalize bs l = s at *
  have LOOP : ∀ (tm : Array Value), True := fun _ => trivial
  rcases num_cases l with ⟨hn, h0⟩ | ⟨hn, h0, h1⟩ | ⟨hn, h0, h1, h2, h3⟩ | ⟨h0, h1, h2, ⟨c, hc, hc48⟩, hn⟩ | ⟨h0, h1, h2, hn⟩
  · rw [hn]; rw [h0] at he
    clear hn h0 LOOP
    go_enter Tryd.func70, Tryd.ntmps70
    go_wp2
    go_ret
    exact ⟨rfl, rfl⟩
  · rw [hn]; rw [h0] at he
    have hs9 : (9 : Int) < (s.size : Int) := by omega
    clear hn h0 LOOP
    go_enter Tryd.func70, Tryd.ntmps70
    go_wp2
    go_ret
    exact ⟨rfl, rfl⟩
  · rw [hn]; rw [h0] at he
    have hk0 : 0 < s.size := by omega
    have g0 := HG.out 0 48 h3 hk0
    have hs9 : ¬ (9 : Int) < (s.size : Int) := by omega
    have hs1 : (1 : Int) < (s.size : Int) := by omega
    clear hn h0 LOOP h3
    go_enter Tryd.func70, Tryd.ntmps70
    go_wp2
    go_ret
    exact ⟨rfl, rfl⟩
  all_goals
    rw [h0] at he
    have hs9 : ¬ (9 : Int) < (s.size : Int) := by omega
    have HNN := hidden hn
  · have hk0 : 0 < s.size := by omega
    have g0 := HG.out 0 c hc hk0
    have hs1 : (1 : Int) < (s.size : Int) := by omega
    have hcb : ((c.toNat : Int) == 48) = false := by simpa using hc48
    clear hn h0 LOOP hc hc48
    go_enter Tryd.func70, Tryd.ntmps70
    go_wp2_with fail
    clear g0
    go_loopw [23] (fun i' w' => ∃ (k : Nat), k ≤ l.length ∧ i' = .int .i64 k ∧ Hid ((l.take k).all isDig = true) ∧ w' = w) (fun i' _ => l.length - (intOf i').toNat)
    case atStart => exact ⟨0, Nat.zero_le _, rfl, by simp [Hid], rfl⟩
    case round =>
      obtain ⟨k, hk, rfl, HA, rfl⟩ := hrel
      by_cases hlt : k < l.length
      · obtain ⟨d, hd⟩ := getElem_lt hlt
        have hks : k < s.size := by omega
        have g1 := HG.out k d hd hks
        have HX : Hid (numOk l = true → isDig d = true) := fun h => by rw [HNN.out] at h; exact List.all_eq_true.1 h d (List.mem_of_getElem? hd)
        have HN := hidden (all_next isDig l k d hd)
        have hltI : (k : Int) < (s.size : Int) := by omega
        have e3 : IntKind.i64.wrap ((k : Int) + 1) = (k : Int) + 1 := wrapI _ (by omega) (by omega)
        clear hd
        by_cases hd1 : (d.toNat : Int) < 48
        · have hF : numOk l = false := by
            rw [Bool.eq_false_iff]; intro h
            have := HX.out h
            simp [isDig] at this; omega
          have HFF := hidden hF
          clear HX HN HA hF
          go_wp2
          go_ret
          exact ⟨ret_bool HFF.out.symm, rfl⟩
        · by_cases hd2 : 57 < (d.toNat : Int)
          · have hF : numOk l = false := by
              rw [Bool.eq_false_iff]; intro h
              have := HX.out h
              simp [isDig] at this; omega
            have HFF := hidden hF
            clear HX HN HA hF
            go_wp2
            go_ret
            exact ⟨ret_bool HFF.out.symm, rfl⟩
          · have HA2 : Hid ((l.take (k + 1)).all isDig = true) := by
              show _ = _
              rw [HN.out, HA.out]
              simp [isDig]; omega
            clear HX HN HA
            go_wp2
            go_roundw
            case measure => simp [intOf]; omega
            case rel => exact ⟨k + 1, by omega, by simp, HA2.out, by first | rfl | trivial⟩
      · have hge : ¬ ((k : Int) < (s.size : Int)) := by omega
        have hF : numOk l = true := by
          have := HA.out
          rw [List.take_of_length_le (by omega)] at this
          rw [HNN.out]; exact this
        have HFF := hidden hF
        clear HA hF
        go_wp2
        go_ret
        exact ⟨ret_bool HFF.out.symm, rfl⟩
  · have hs1 : ¬ (1 : Int) < (s.size : Int) := by omega
    clear hn h0 LOOP
    go_enter Tryd.func70, Tryd.ntmps70
    go_wp2_with fail
    go_loopw [23] (fun i' w' => ∃ (k : Nat), k ≤ l.length ∧ i' = .int .i64 k ∧ Hid ((l.take k).all isDig = true) ∧ w' = w) (fun i' _ => l.length - (intOf i').toNat)
    case atStart => exact ⟨0, Nat.zero_le _, rfl, by simp [Hid], rfl⟩
    case round =>
      obtain ⟨k, hk, rfl, HA, rfl⟩ := hrel
      by_cases hlt : k < l.length
      · obtain ⟨d, hd⟩ := getElem_lt hlt
        have hks : k < s.size := by omega
        have g1 := HG.out k d hd hks
        have HX : Hid (numOk l = true → isDig d = true) := fun h => by rw [HNN.out] at h; exact List.all_eq_true.1 h d (List.mem_of_getElem? hd)
        have HN := hidden (all_next isDig l k d hd)
        have hltI : (k : Int) < (s.size : Int) := by omega
        have e3 : IntKind.i64.wrap ((k : Int) + 1) = (k : Int) + 1 := wrapI _ (by omega) (by omega)
        clear hd
        by_cases hd1 : (d.toNat : Int) < 48
        · have hF : numOk l = false := by
            rw [Bool.eq_false_iff]; intro h
            have := HX.out h
            simp [isDig] at this; omega
          have HFF := hidden hF
          clear HX HN HA hF
          go_wp2
          go_ret
          exact ⟨ret_bool HFF.out.symm, rfl⟩
        · by_cases hd2 : 57 < (d.toNat : Int)
          · have hF : numOk l = false := by
              rw [Bool.eq_false_iff]; intro h
              have := HX.out h
              simp [isDig] at this; omega
            have HFF := hidden hF
            clear HX HN HA hF
            go_wp2
            go_ret
            exact ⟨ret_bool HFF.out.symm, rfl⟩
          · have HA2 : Hid ((l.take (k + 1)).all isDig = true) := by
              show _ = _
              rw [HN.out, HA.out]
              simp [isDig]; omega
            clear HX HN HA
            go_wp2
            go_roundw
            case measure => simp [intOf]; omega
            case rel => exact ⟨k + 1, by omega, by simp, HA2.out, by first | rfl | trivial⟩
      · have hge : ¬ ((k : Int) < (s.size : Int)) := by omega
        have hF : numOk l = true := by
          have := HA.out
          rw [List.take_of_length_le (by omega)] at this
          rw [HNN.out]; exact this
        have HFF := hidden hF
        clear HA hF
        go_wp2
        go_ret
        exact ⟨ret_bool HFF.out.symm, rfl⟩
set_option maxRecDepth 100000 in
set_option maxHeartbeats 1000000 in
theorem valueOf_any (l : List UInt8) (h9 : l.length ≤ 9) (hd : l.all isDig = true) (w : World) :
    Calls Tryd.prog 71 #[.string (bs l)] w fun e w' => e = .returned (.int .i64 (numV l)) ∧ w' = w := by
  have hz := bs_size l
  have HG : Hid (∀ k c, l[k]? = some c → ∀ hk, (bs l)[k]'hk = c) := fun k c h hk => bs_get l k c h hk
  generalize bs l = s at *
  have HD := hidden hd
  clear hd
  go_enter Tryd.func71, Tryd.ntmps71
  go_wp2_with fail
  go_loopw [3, 7] (fun v' i' w' => ∃ (k : Nat) (v : Int), k ≤ l.length ∧ v' = .int .i64 v ∧ i' = .int .i64 k ∧ Hid (v = numV (l.take k)) ∧ w' = w) (fun _ i' _ => l.length - (intOf i').toNat)
  case atStart => exact ⟨0, 0, Nat.zero_le _, rfl, rfl, by simp [Hid, numV], rfl⟩
  case round =>
    obtain ⟨k, v, hk, rfl, rfl, HV, rfl⟩ := hrel
    by_cases hlt : k < l.length
    · obtain ⟨c, hc⟩ := getElem_lt hlt
      have hks : k < s.size := by omega
      have g0 := HG.out k c hc hks
      have hdc := List.all_eq_true.1 HD.out c (List.mem_of_getElem? hc)
      simp [isDig] at hdc
      have hv := numV_take l k (List.all_eq_true.2 fun x hx => List.all_eq_true.1 HD.out x (List.mem_of_mem_take hx)) hk
      rw [← HV.out] at hv
      have hp : (10 : Int) ^ k ≤ 10 ^ 8 := by
        have : (10 : Nat) ^ k ≤ 10 ^ 8 := Nat.pow_le_pow_right (by decide) (by omega)
        exact_mod_cast this
      have HN : Hid (10 * v + ((c.toNat : Int) - 48) = numV (l.take (k + 1))) := by show _ = _; rw [take_next l k c hc, numV_snoc, HV.out]
      have e1 : IntKind.i64.wrap (10 * v) = 10 * v := wrapI _ (by omega) (by omega)
      have e2 : IntKind.u8.wrap ((c.toNat : Int) - 48) = (c.toNat : Int) - 48 := by rw [IntKind.wrap_u8]; omega
      have e3 : IntKind.i64.wrap ((c.toNat : Int) - 48) = (c.toNat : Int) - 48 := wrapI _ (by omega) (by omega)
      have e4 : IntKind.i64.wrap (10 * v + ((c.toNat : Int) - 48)) = 10 * v + ((c.toNat : Int) - 48) := wrapI _ (by omega) (by omega)
      have e5 : IntKind.i64.wrap ((k : Int) + 1) = (k : Int) + 1 := wrapI _ (by omega) (by omega)
      have hltI : (k : Int) < (s.size : Int) := by omega
      clear hc HV hv hp
      go_wp2
      go_roundw
      case measure => simp [intOf]; omega
      case rel => exact ⟨k + 1, _, by omega, rfl, by simp, HN.out, by first | rfl | trivial⟩
    · have hge : ¬ ((k : Int) < (s.size : Int)) := by omega
      have HF : Hid (v = numV l) := by have := HV.out; rwa [List.take_of_length_le (by omega)] at this
      clear HV
      go_wp2
      go_ret
      exact ⟨ret_int HF.out, rfl⟩


end Go.Proofs.YtdiahnommkhkiaaDoor
