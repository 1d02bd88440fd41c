import Derived.Test.YtdiahnommkhkiaaDoorJ07
import Derived.Test.YtdiahnommkhkiaaDoorJ36
namespace Go.Proofs.YtdiahnommkhkiaaDoor
open Go.RowKit

def sV (p : List UInt8) : Value := .string (bs p)
set_option maxRecDepth 100000 in
set_option maxHeartbeats 4000000 in
theorem lines_any (l : List UInt8) (hl : l.length ≤ 1048576) (w : World) :
    Calls Tryd.prog 22 #[.string (bs l)] w fun e w' => ∃ v, e = .returned (.tuple #[v, .bool (sp 10 l).2.isEmpty]) ∧ w'.ownsRow w.heap.size 9 1 v (sp 10 l).1.length ((sp 10 l).1.map sV) ∧ Below w.heap.size w w' := by
  have hz := bs_size l
  have HG : Hid (∀ k c, l[k]? = some c → ∀ hk, (bs l)[k]'hk = c) := fun k c h hk => bs_get l k c h hk
  have HE : Hid (∀ k c, l[k]? = some c → (bs l).extract k (k + 1) = bs [c]) := fun k c h => bs_piece l k c h
  generalize hbl : bs l = s at *
  clear hbl
  obtain ⟨Ps, Wd, HSP⟩ : ∃ P W, Hid (sp 10 l = (P, W)) := ⟨_, _, rfl⟩
  rw [HSP.out]
  simp only
  obtain ⟨ib, hib, hzb, hsb, hbb⟩ := info_str
  have HI := hidden hib
  have HZ := hidden hzb
  have HS := hidden hsb
  have HBY := hidden hbb
  clear hib hzb hsb hbb
  go_enter Tryd.func22, Tryd.ntmps22
  go_wp2_with fail
  go_loopw [4, 5, 6] (fun o' s' i' w' => ∃ (k : Nat) (ps : List (List UInt8)) (wd : List UInt8), k ≤ l.length ∧ wd.length ≤ k ∧ ps.length ≤ k ∧ i' = .int .i64 k ∧ s' = .string (bs wd) ∧ Hid (sp 10 (l.take k) = (ps, wd)) ∧ Hid (w'.ownsRow w.heap.size 9 1 o' ps.length (ps.map sV)) ∧ Hid (Below w.heap.size w w')) (fun _ _ i' _ => l.length - (intOf i').toNat)
  case atStart => exact ⟨0, [], [], Nat.zero_le _, Nat.zero_le _, Nat.zero_le _, rfl, rfl, by simp [Hid, sp], World.ownsRow_nil _ _ _ _, Below.refl _ _⟩
  case round =>
    obtain ⟨k, ps, wd, hk, hwd, hps, rfl, rfl, HPW, HO, HBr⟩ := hrel
    have hzw := bs_size wd
    by_cases hlt : k < l.length
    · obtain ⟨d, hd⟩ := getElem_lt hlt
      have hltI : (k : Int) < (s.size : Int) := by omega
      have e5 : IntKind.i64.wrap ((k : Int) + 1) = (k : Int) + 1 := wrapI _ (by omega) (by omega)
      have hks : k < s.size := by omega
      have g1 := HG.out k d hd hks
      have x1 := HE.out k d hd
      by_cases hd10 : d = 10
      · have HP2 : Hid (sp 10 (l.take (k + 1)) = (ps ++ [wd], [])) := by show _ = _; rw [take_next l k d hd, sp_snoc, if_pos hd10, HPW.out]
        subst hd10
        have hm1 : ps.length + 1 ≤ maxLen := by simp only [maxLen]; omega
        have hm2 : (ps.length + 1) * 16 ≤ 140737488355328 := by omega
        have hsz := HBr.out.size
        have hm4 : w.heap.size ≤ (wr.alloc (.cells #[.string (bs wd)] 9)).heap.size := by simp; omega
        clear hd HPW x1
        have tok : True := trivial
        go_wp2_with (have _t := tok; at_builtin; (refine wpList_append_lies _ rfl (.tmp 17) (.tmp 19) 55 rfl w.heap.size 9 ib _ 1 16 Tryd.underlying55 HI.out HZ.out HS.out HBY.out rfl (by decide) u4 ps.length _ rfl (HO.out.alloc _) ⟨wr.heap.size, 0, none⟩ 1 1 [.string (bs wd)] rfl rfl (World.news_of_block (heap_new _ _)) (by simp [Value.oneCell']) (by decide) hm1 hm2 hm4 _ rfl ?_; intro g cap w5 hown hgrow hat5 hlt5; clear tok))
        have HO5 : Hid (w5.ownsRow w.heap.size 9 1 (.slice (some ⟨g, 0, none⟩) (ps.length + 1) cap) (ps ++ [wd]).length ((ps ++ [wd]).map sV)) := by
          show World.ownsRow _ _ _ _ _ _ _
          rw [List.map_append, List.length_append]
          exact hown
        have HB5 : Hid (Below w.heap.size w w5) := grown_plain HBr.out HO.out hgrow
        clear hown hgrow hat5 hlt5 hm1 hm2 hm4 HO HBr
        go_wp2
        go_roundw
        case measure => simp [intOf]; omega
        case rel => exact ⟨k + 1, ps ++ [wd], [], by omega, Nat.zero_le _, by simp; omega, by simp, rfl, HP2.out, HO5.out, HB5.out⟩
      · have hb1 : ((d.toNat : Int) == 10) = false := by
          simp; intro e; exact hd10 (UInt8.toNat_inj.1 (by rw [show d.toNat = 10 by omega]; rfl))
        have HP2 : Hid (sp 10 (l.take (k + 1)) = (ps, wd ++ [d])) := by show _ = _; rw [take_next l k d hd, sp_snoc, if_neg hd10, HPW.out]
        have hz1 := bs_size [d]
        have hap := bs_append wd [d]
        simp only [List.length_cons, List.length_nil] at hz1
        clear hd HPW
        go_wp2
        go_roundw
        case measure => simp [intOf]; omega
        case rel => exact ⟨k + 1, ps, wd ++ [d], by omega, by simp; omega, by omega, by simp, by first | rfl | (rw [← hap]), HP2.out, HO.out, HBr.out⟩
    · have hge : ¬ ((k : Int) < (s.size : Int)) := by omega
      have HPP : Hid (sp 10 l = (ps, wd)) := by
        have := HPW.out
        rwa [List.take_of_length_le (by omega)] at this
      obtain ⟨hP, hW⟩ := Prod.mk.inj (HPP.out.symm.trans HSP.out)
      subst hP
      subst hW
      have he := bs_empty wd
      clear HPW HPP HSP
      go_wp2
      go_ret2
      exact ⟨_, rfl, HO.out, HBr.out⟩


end Go.Proofs.YtdiahnommkhkiaaDoor

namespace Go.Proofs.YtdiahnommkhkiaaDoor
open Go.RowKit

/-- a text's lines in memory -/
def LnAt (w : World) (a : Option Addr) (T : List UInt8) : Prop := ∀ (i : Nat) (l : List UInt8), (linesOf T)[i]? = some l → ∃ b, a = some ⟨b, 0, none⟩ ∧ b < w.heap.size ∧ w.cell? ⟨b, i, none⟩ = some (.string (bs l))
theorem LnAt.to {w w' : World} {a : Option Addr} {T : List UInt8} (h : LnAt w a T) (hb : Below w.heap.size w w') : LnAt w' a T := fun i l hl => by
  obtain ⟨b, h1, h2, h3⟩ := h i l hl
  exact ⟨b, h1, Nat.lt_of_lt_of_le h2 hb.size, (hb.cell (p := ⟨b, i, none⟩) h2).trans h3⟩
theorem lnAt_of {w : World} {C : Nat} {v : Value} {T : List UInt8} (h : w.ownsRow C 9 1 v (linesOf T).length ((linesOf T).map sV)) : ∃ a c, v = .slice a (linesOf T).length c ∧ LnAt w a T ∧ ∀ b o, a = some ⟨b, o, none⟩ → C ≤ b := by
  rcases h.2 with ⟨h0, h1⟩ | ⟨g, cap, cur, hv, h1, h2, h3, h4, h5, h6⟩
  · refine ⟨none, 0, by rw [h0, h1], fun i l hl => ?_, fun b o e => by cases e⟩
    have := (List.getElem?_eq_some_iff.1 hl).1
    omega
  · refine ⟨_, cap, hv, fun i l hl => ⟨g, rfl, ?_, ?_⟩, fun b o e => ?_⟩
    · rcases Nat.lt_or_ge g w.heap.size with h' | h'
      · exact h'
      · simp [Array.getElem?_eq_none h'] at h2
    · rw [heap_cell h2]
      have e : (cur.toList.take ((linesOf T).length * 1))[i]? = some (.string (bs l)) := by rw [h6]; simp [hl, sV]
      rw [← Array.getElem?_toList]
      rw [List.getElem?_take] at e
      split at e
      · exact e
      · cases e
    · cases e; exact h1
theorem lines_len (T : List UInt8) : (linesOf T).length ≤ T.length := by have := offs_len 0 T (Nat.zero_le _); omega
theorem line_len {T a : List UInt8} {i : Nat} (h : (linesOf T)[i]? = some a) : a.length ≤ T.length := by
  have h0 := (List.getElem?_eq_some_iff.1 h).1
  have h1 := offs_len (i + 1) T h0
  have h2 := offs_next _ i a h
  omega
theorem nums_none {T : List UInt8} {i : Nat} (h : (linesOf T).length ≤ i) : nums T i = none := by unfold nums; rw [List.getElem?_eq_none h]
theorem nums_some {T a : List UInt8} {i : Nat} (h : (linesOf T)[i]? = some a) : nums T i = if (pcs 32 a).all numOk then some ((pcs 32 a).map numV) else none := by unfold nums; rw [h]
def RowLen (xs : List Int) (n : Nat) (more : Bool) : Prop := xs.length = n ∨ (more = true ∧ xs.length = n + 1 ∧ ∃ f, xs[n]? = some f ∧ f < 2)
set_option maxRecDepth 100000 in
set_option maxHeartbeats 4000000 in
theorem row_any (T : List UInt8) (hT : T.length ≤ 1048576) (a : Option Addr) (c : Nat) (w : World) (h : LnAt w a T) (i n : Nat) (hn : n ≤ 10) (more : Bool) :
    Calls Tryd.prog 25 #[.slice a (linesOf T).length c, .int .i64 i, .int .i64 n, .bool more] w fun e w' => ∃ v b, e = .returned (.tuple #[v, .bool b]) ∧ Below w.heap.size w w' ∧ ((b = true ∧ ∃ xs, nums T i = some xs ∧ w'.ownsRow w.heap.size 3 1 v xs.length (xs.map iV) ∧ RowLen xs n more) ∨ (b = false ∧ ∀ xs, nums T i = some xs → ¬ RowLen xs n more)) := by
  by_cases hlt : i < (linesOf T).length
  · obtain ⟨l, hl⟩ := getElem_lt hlt
    obtain ⟨b, rfl, hb, hc⟩ := h i l hl
    have PA := hidden (parted_any l (by have := line_len hl; omega) w)
    have HNU := hidden (nums_some hl)
    have hltI : ¬ ((linesOf T).length : Int) ≤ (i : Int) := by omega
    have hltI2 : (i : Int) < ((linesOf T).length : Int) := by omega
    have hll := lines_len T
    have HPL : Hid ((pcs 32 l).length ≤ 1048577) := by have := pcs_len 32 l; have := line_len hl; show _ ≤ _; omega
    clear h hl hlt
    generalize (linesOf T).length = ln at *
    generalize bs l = sl at *
    generalize hps : pcs 32 l = ps at *
    obtain ⟨g, HG⟩ : ∃ g, Hid (ps.all numOk = g) := ⟨_, rfl⟩
    rw [HG.out] at PA
    rw [HG.out] at HNU
    clear hps
    go_enter Tryd.func25, Tryd.ntmps25
    go_wp2_with fail
    go_at_call 36
    refine PA.out.mono ?_
    rintro e w1 ⟨v, rfl, ho, hb1⟩
    have HB1 := hidden hb1
    cases g
    · have HNO : Hid (nums T i = none) := HNU.out
      clear ho hb1 PA
      go_wp2
      go_ret2
      exact ⟨_, false, rfl, HB1.out, Or.inr ⟨rfl, fun xs hx => by rw [HNO.out] at hx; cases hx⟩⟩
    · have HNS : Hid (nums T i = some (ps.map numV)) := HNU.out
      have ho' : w1.ownsRow w.heap.size 3 1 v (ps.map numV).length ((ps.map numV).map iV) := by
        have := ho rfl
        rw [List.map_map, List.length_map]; exact this
      have HO := hidden ho'
      have hxl : (ps.map numV).length ≤ 1048577 := by rw [List.length_map]; exact HPL.out
      have hxb := nums_bound HNS.out
      generalize ps.map numV = xs at *
      have DONE : Hid (∀ b, (b = true ↔ RowLen xs n more) → ((b = true ∧ ∃ xs, nums T i = some xs ∧ w1.ownsRow w.heap.size 3 1 v xs.length (xs.map iV) ∧ RowLen xs n more) ∨ (b = false ∧ ∀ xs, nums T i = some xs → ¬ RowLen xs n more))) := fun b hbb => by
        cases b
        · exact Or.inr ⟨rfl, fun ys hy hh => by rw [HNS.out] at hy; cases hy; exact absurd (hbb.2 hh) (by simp)⟩
        · exact Or.inl ⟨rfl, xs, HNS.out, HO.out, hbb.1 rfl⟩
      obtain ⟨va, vc, hv⟩ : ∃ a c, v = .slice a xs.length c := by
        rcases ho'.2 with ⟨h0, h1⟩ | ⟨g, cap, cur, hv, _⟩
        · exact ⟨none, 0, by rw [h0, h1]⟩
        · exact ⟨_, _, hv⟩
      subst hv
      have e1 : IntKind.i64.wrap ((n : Int) + 1) = (n : Int) + 1 := wrapI _ (by omega) (by omega)
      clear ho hb1 PA HNU HG
      have LAST : Hid (((xs.length : Int) == (n : Int)) = true ↔ xs.length = n) := by show _ ↔ _; simp; omega
      cases more
      · clear ho'
        go_wp2
        go_ret2
        refine ⟨_, _, rfl, HB1.out, DONE.out _ ?_⟩
        rw [LAST.out]
        unfold RowLen
        simp
      · by_cases hle : xs.length = n + 1
        · have hle1 : ((xs.length : Int) == (n : Int) + 1) = true := by simp; omega
          obtain ⟨f, hf⟩ := getElem_lt (show n < xs.length by omega)
          obtain ⟨lb, lc, hve, hlb, hlb2, hlc, hel⟩ := row_els ho' (by omega)
          have cf := hel n f hf
          cases hve
          have HF := hidden hf
          have hnI : (n : Int) < (xs.length : Int) := by omega
          have hxn : ((xs.length : Int) == (n : Int)) = false := by simp; omega
          have HLE := hidden hle
          clear hle
          by_cases hf2 : f < 2
          · clear ho' hf hel
            go_wp2
            go_ret2
            refine ⟨_, _, rfl, HB1.out, DONE.out _ ?_⟩
            exact ⟨fun _ => Or.inr ⟨rfl, HLE.out, f, HF.out, hf2⟩, fun _ => rfl⟩
          · have hf3 : ¬ f < 2 := hf2
            clear ho' hf hel
            go_wp2
            go_ret2
            refine ⟨_, _, rfl, HB1.out, DONE.out _ ?_⟩
            refine ⟨fun hh => ?_, fun hh => ?_⟩
            · exact absurd hh (by first | decide | (have := HLE.out; simp; omega))
            · rcases hh with hh | ⟨_, _, f', h1, h2⟩
              · have := HLE.out; omega
              · rw [HF.out] at h1; cases h1; omega
        · have hle1 : ((xs.length : Int) == (n : Int) + 1) = false := by simp; omega
          clear ho'
          go_wp2
          go_ret2
          refine ⟨_, _, rfl, HB1.out, DONE.out _ ?_⟩
          rw [LAST.out]
          refine ⟨fun hh => Or.inl hh, fun hh => ?_⟩
          rcases hh with hh | ⟨_, h1, _⟩
          · exact hh
          · exact absurd h1 hle
  · have hltI : ((linesOf T).length : Int) ≤ (i : Int) := by omega
    have HNO := hidden (nums_none (T := T) (i := i) (by omega))
    clear h hlt
    generalize (linesOf T).length = ln at *
    go_enter Tryd.func25, Tryd.ntmps25
    go_wp2
    go_ret2
    exact ⟨_, false, rfl, Below.refl _ _, Or.inr ⟨rfl, fun xs hx => by rw [HNO.out] at hx; cases hx⟩⟩
set_option maxRecDepth 100000 in
set_option maxHeartbeats 4000000 in
theorem behind_any (T : List UInt8) (hT : T.length ≤ 1048576) (a : Option Addr) (c : Nat) (w : World) (h : LnAt w a T) (n : Nat) (hn : n ≤ (linesOf T).length) :
    Calls Tryd.prog 26 #[.slice a (linesOf T).length c, .int .i64 n] w fun e w' => Below w.heap.size w w' ∧ ((e = .returned (.int .i64 0) ∧ ∃ m, n ≤ m ∧ Names T n m ∧ ((linesOf T)[m]? = some [99] ∨ m = (linesOf T).length)) ∨ ∃ m, e = .returned (.int .i64 ((m + 1 : Nat) : Int)) ∧ m < (linesOf T).length ∧ n ≤ m ∧ Names T n m ∧ ∃ a, (linesOf T)[m]? = some a ∧ a ≠ [99] ∧ nameOk a = false) := by
  have hll := lines_len T
  have HL := hidden h
  have TR : Hid (∀ l w', l.length ≤ 1048576 → Calls Tryd.prog 37 #[.string (bs l)] w' fun e w'' => e = .returned (.tuple #[.bool (decide (l = [99]) || nameOk l), .bool (decide (l = [99]))]) ∧ w'' = w') := fun l w' hl => trailer_any l hl w'
  clear h
  generalize hln : (linesOf T).length = ln at *
  have HLN := hidden hln
  clear hln
  go_enter Tryd.func26, Tryd.ntmps26
  go_wp2_with fail
  go_loopw [5] (fun i' w' => ∃ (k : Nat), n ≤ k ∧ k ≤ ln ∧ i' = .int .i64 k ∧ Hid (Names T n k) ∧ Hid (Below w.heap.size w w')) (fun i' _ => ln - (intOf i').toNat)
  case atStart => exact ⟨n, Nat.le_refl _, hn, rfl, (fun j b h1 h2 => absurd h1 (by omega)), Below.refl _ _⟩
  case round =>
    obtain ⟨k, hnk, hk, rfl, HN, HB⟩ := hrel
    by_cases hlt : k < ln
    · obtain ⟨l, hl⟩ := getElem_lt (show k < (linesOf T).length by rw [HLN.out]; exact hlt)
      obtain ⟨b, hab, hb, hc⟩ := HL.out.to HB.out k l hl
      subst hab
      have T1 := hidden (TR.out l wr (by have := line_len hl; omega))
      have HLL := hidden hl
      have hltI : (k : Int) < (ln : Int) := by omega
      have e1 : IntKind.i64.wrap ((k : Int) + 1) = (k : Int) + 1 := wrapI _ (by omega) (by omega)
      clear hl
      generalize bs l = sl at *
      by_cases h99 : l = [99]
      · have hd : decide (l = [99]) = true := by simp [h99]
        rw [hd] at T1
        simp only [Bool.true_or] at T1
        have H99 : Hid ((linesOf T)[k]? = some [99]) := by rw [HLL.out, h99]; rfl
        go_wp2_with fail
        go_at_call 37
        refine T1.out.mono ?_
        rintro e w1 ⟨rfl, rfl⟩
        go_wp2
        go_ret
        exact ⟨HB.out, Or.inl ⟨rfl, k, hnk, HN.out, Or.inl H99.out⟩⟩
      · have hd : decide (l = [99]) = false := by simp [h99]
        rw [hd] at T1
        simp only [Bool.false_or] at T1
        obtain ⟨nm, HNM⟩ : ∃ b, Hid (nameOk l = b) := ⟨_, rfl⟩
        rw [HNM.out] at T1
        go_wp2_with fail
        go_at_call 37
        refine T1.out.mono ?_
        rintro e w1 ⟨rfl, rfl⟩
        cases nm
        · go_wp2
          go_ret
          exact ⟨HB.out, Or.inr ⟨k, rfl, by first | exact hlt | (rw [HLN.out]; exact hlt), hnk, HN.out, l, HLL.out, h99, HNM.out⟩⟩
        · have HN2 : Hid (Names T n (k + 1)) := fun j b h1 h2 h3 => by
            rcases Nat.lt_or_ge j k with h' | h'
            · exact HN.out j b h1 h' h3
            · have : j = k := by omega
              subst this
              rw [HLL.out] at h3
              cases h3
              exact ⟨h99, HNM.out⟩
          clear HN
          go_wp2
          go_roundw
          case measure => simp [intOf]; omega
          case rel => exact ⟨k + 1, by omega, by omega, by simp, HN2.out, HB.out⟩
    · have hltI : ¬ (k : Int) < (ln : Int) := by omega
      have HKL : Hid (k = ln) := by show _ = _; omega
      go_wp2
      go_ret
      exact ⟨HB.out, Or.inl ⟨rfl, k, hnk, HN.out, Or.inr HKL.out⟩⟩


end Go.Proofs.YtdiahnommkhkiaaDoor
