import Derived.Test.YtibjgoigdajkkaaDoorJ26
import Derived.Test.YtibjgoigdajkkaaDoorJ29
namespace Go.Proofs.YtibjgoigdajkkaaDoor
open Go.RowKit

set_option maxRecDepth 100000 in
set_option maxHeartbeats 8000000 in
theorem state_any (w : World) (a : Option Addr) (c : Nat) (l : List Bool) (R : RowAt w.heap.size w a 1 (l.map boolC)) (n : Nat) (hn : n ≤ 60000) :
    Calls Tryd.prog 27 #[.slice a l.length c, .int .i64 0, .int .i64 (n : Int)] w fun e w' => ∃ v, e = .returned v ∧ w'.ownsRow w.heap.size 4 1 v n ((inRow n l).map bV) ∧ Below w.heap.size w w' := by
  have HR := hidden R
  obtain ⟨ln, Eln⟩ := exh l.length
  rw [← Eln.out]
  obtain ⟨ib, hib, hzb, hsb, hbb⟩ := info_bool
  have HI := hidden hib
  have HZ := hidden hzb
  have HS := hidden hsb
  have HBY := hidden hbb
  clear R hib hzb hsb hbb
  go_enter Tryd.func27, Tryd.ntmps27
  go_wp2_with fail
  go_loopw [7, 8] (fun v' i' w' => ∃ k : Nat, k ≤ n ∧ i' = .int .i64 (k : Int) ∧ Hid (w'.ownsRow w.heap.size 4 1 v' k ((inRow k l).map bV)) ∧ Hid (Below w.heap.size w w')) (fun _ i' _ => n - (intOf i').toNat)
  case atStart => exact ⟨0, Nat.zero_le _, rfl, ⟨rfl, Or.inl ⟨rfl, rfl⟩⟩, Below.refl _ _⟩
  case round =>
    obtain ⟨k, hk, rfl, HO, HB⟩ := hrel
    by_cases hlt : k < n
    · have hltI : (k : Int) < (n : Int) := by omega
      have hsz := HB.out.size
      have hm1 : k + 1 ≤ maxLen := by simp only [maxLen]; omega
      have hm2 : (k + 1) * 1 ≤ 140737488355328 := by omega
      have e1 : IntKind.i64.wrap ((0 : Int) + (k : Int)) = (k : Int) := by rw [Int.zero_add]; exact wrapI _ (by omega) (by omega)
      have e1' : IntKind.i64.wrap (k : Int) = (k : Int) := wrapI _ (by omega) (by omega)
      have e2 : IntKind.i64.wrap ((k : Int) + 1) = (k : Int) + 1 := wrapI _ (by omega) (by omega)
      by_cases hkl : k < ln
      · have hklI : (k : Int) < (ln : Int) := by omega
        obtain ⟨x, hx⟩ := getElem_lt (show k < l.length by rw [← Eln.out]; exact hkl)
        obtain ⟨b, o, ea, hbl, hc⟩ := rowB HR.out hx
        have cx : wr.cell? ⟨b, o + k, none⟩ = some (.bool x) := (HB.out.cell (p := ⟨b, o + k, none⟩) hbl).trans hc
        have HNX : Hid ((inRow (k + 1) l).map bV = (inRow k l).map bV ++ [.bool x]) := by show _ = _; rw [inRow_next, List.map_append, hx]; rfl
        have hm3 : w.heap.size ≤ (wr.alloc (.cells #[.bool x] 4)).heap.size := by simp; omega
        subst ea
        clear hx hc
        have tok : True := trivial
        go_wp2_with (have _t := tok; at_builtin; (refine wpList_append_lies _ rfl (.tmp 14) (.tmp 29) 22 rfl w.heap.size 4 ib _ 1 1 Tryd.underlying22 HI.out HZ.out HS.out HBY.out rfl (by decide) u7 k _ rfl (HO.out.alloc _) ⟨wr.heap.size, 0, none⟩ 1 1 [.bool x] rfl rfl (World.news_of_block (heap_new _ _)) (by simp [Value.oneCell']) (by decide) hm1 hm2 hm3 _ rfl ?_; intro g cap w5 hown hgrow hat5 hlt5; clear tok))
        have HO5 : Hid (w5.ownsRow w.heap.size 4 1 (.slice (some ⟨g, 0, none⟩) (k + 1) cap) (k + 1) ((inRow (k + 1) l).map bV)) := by rw [HNX.out]; exact hown
        have HB5 : Hid (Below w.heap.size w w5) := grown_plain HB.out HO.out hgrow
        clear hown hgrow hat5 hlt5 HO HB
        go_roundw
        case measure => simp [intOf]; omega
        case rel => exact ⟨k + 1, by omega, by simp, HO5.out, HB5.out⟩
      · have hklI : ¬ (k : Int) < (ln : Int) := by omega
        have HNX : Hid ((inRow (k + 1) l).map bV = (inRow k l).map bV ++ [.bool false]) := by show _ = _; rw [inRow_next, List.map_append, List.getElem?_eq_none (by rw [← Eln.out]; omega)]; rfl
        have hm3 : w.heap.size ≤ (wr.alloc (.cells #[.bool false] 4)).heap.size := by simp; omega
        have tok : True := trivial
        go_wp2_with (have _t := tok; at_builtin; (refine wpList_append_lies _ rfl (.tmp 14) (.tmp 29) 22 rfl w.heap.size 4 ib _ 1 1 Tryd.underlying22 HI.out HZ.out HS.out HBY.out rfl (by decide) u7 k _ rfl (HO.out.alloc _) ⟨wr.heap.size, 0, none⟩ 1 1 [.bool false] rfl rfl (World.news_of_block (heap_new _ _)) (by simp [Value.oneCell']) (by decide) hm1 hm2 hm3 _ rfl ?_; intro g cap w5 hown hgrow hat5 hlt5; clear tok))
        have HO5 : Hid (w5.ownsRow w.heap.size 4 1 (.slice (some ⟨g, 0, none⟩) (k + 1) cap) (k + 1) ((inRow (k + 1) l).map bV)) := by rw [HNX.out]; exact hown
        have HB5 : Hid (Below w.heap.size w w5) := grown_plain HB.out HO.out hgrow
        clear hown hgrow hat5 hlt5 HO HB
        go_roundw
        case measure => simp [intOf]; omega
        case rel => exact ⟨k + 1, by omega, by simp, HO5.out, HB5.out⟩
    · obtain rfl : k = n := by omega
      have hge : ¬ (k : Int) < (k : Int) := by omega
      go_wp2
      go_ret
      exact ⟨_, rfl, HO.out, HB.out⟩
theorem own_slice {w : World} {C e s n : Nat} {v : Value} {xs : List Value} (h : w.ownsRow C e s v n xs) : ∃ a c, v = .slice a n c := by
  rcases h.2 with ⟨rfl, rfl⟩ | ⟨g, cap, cur, rfl, _⟩
  · exact ⟨_, _, rfl⟩
  · exact ⟨_, _, rfl⟩
/-- rows of bits that can be read -/
def RlAt (w : World) (a : Option Addr) (ls : List (List Bool)) : Prop := ∀ (i : Nat) (l : List Bool), ls[i]? = some l → ∃ b o a' c', a = some ⟨b, o, none⟩ ∧ b < w.heap.size ∧ w.cell? ⟨b, o + i, none⟩ = some (.slice a' l.length c') ∧ RowAt w.heap.size w a' 1 (l.map boolC)
theorem RlAt.to {w w' : World} {a : Option Addr} {ls : List (List Bool)} (h : RlAt w a ls) (hb : Below w.heap.size w w') : RlAt w' a ls := fun i l hl => by
  obtain ⟨b, o, a', c', h1, h2, h3, h4⟩ := h i l hl
  exact ⟨b, o, a', c', h1, Nat.lt_of_lt_of_le h2 hb.size, (hb.cell (p := ⟨b, o + i, none⟩) h2).trans h3, (h4.to hb).mono hb.size⟩
set_option maxRecDepth 100000 in
set_option maxHeartbeats 8000000 in
theorem heads_any (w : World) (a : Option Addr) (c : Nat) (ls : List (List Bool)) (R : RlAt w a ls) (hl : ls.length ≤ 5864062014805) (n : Nat) (hn : n ≤ 60000) :
    Calls Tryd.prog 11 #[.slice a ls.length c, .int .i64 (n : Int)] w fun e w' => ∃ v, ∃ rows : List RD, e = .returned v ∧ w'.ownsRow w.heap.size 22 1 v ls.length (rows.map RD.v) ∧ rows.map RD.l = ls.map (inRow n) ∧ (∀ r, r ∈ rows → BS w' r.v r.l) ∧ Below w.heap.size w w' := by
  have HR := hidden R
  obtain ⟨ln, Eln⟩ := exh ls.length
  rw [← Eln.out] at hl
  rw [← Eln.out]
  obtain ⟨ic, hib, hzb, hsb, hbb⟩ := info_sl
  have HI := hidden hib
  have HZ := hidden hzb
  have HS := hidden hsb
  have HBY := hidden hbb
  clear R hib hzb hsb hbb
  go_enter Tryd.func11, Tryd.ntmps11
  go_wp2_with fail
  go_loopw [5, 6] (fun v' i' w' => ∃ (k : Nat) (rows : List RD), k ≤ ln ∧ i' = .int .i64 (k : Int) ∧ Hid (w'.ownsRow w.heap.size 22 1 v' k (rows.map RD.v)) ∧ Hid (rows.map RD.l = (ls.take k).map (inRow n)) ∧ Hid (∀ r, r ∈ rows → BS w' r.v r.l ∧ Far v' r.v) ∧ Hid (Below w.heap.size w w')) (fun _ i' _ => ln - (intOf i').toNat)
  case atStart => exact ⟨0, [], Nat.zero_le _, rfl, ⟨rfl, Or.inl ⟨rfl, rfl⟩⟩, rfl, (fun r hr => by cases hr), Below.refl _ _⟩
  case round =>
    obtain ⟨k, rows, hk, rfl, HO, HL, HRB, HB⟩ := hrel
    by_cases hlt : k < ln
    · have hltI : (k : Int) < (ln : Int) := by omega
      obtain ⟨l, hx⟩ := getElem_lt (show k < ls.length by rw [← Eln.out]; exact hlt)
      obtain ⟨b, o, a', c', ea, -, cx, hrow⟩ := (HR.out.to HB.out) k l hx
      have SA := hidden (state_any wr a' c' l hrow n hn)
      have e2 : IntKind.i64.wrap ((k : Int) + 1) = (k : Int) + 1 := wrapI _ (by omega) (by omega)
      have HLX : Hid ((ls.take (k + 1)).map (inRow n) = (ls.take k).map (inRow n) ++ [inRow n l]) := by show _ = _; rw [take_next _ k _ hx, List.map_append]; rfl
      obtain ⟨lw, Elw⟩ := exh l.length
      rw [← Elw.out] at cx SA
      subst ea
      clear hx hrow
      go_wp2_with fail
      go_at_call 27
      refine SA.out.mono ?_
      rintro e w1 ⟨ov, rfl, hov, hb1⟩
      obtain ⟨oa, oc, rfl⟩ := own_slice hov
      have HB1 : Hid (Below w.heap.size w w1) := HB.out.trans (hb1.mono HB.out.size)
      have HBO : Hid (BS w1 (.slice oa n oc) (inRow n l)) := BS.of hov
      have HFO : Hid (Far u5 (.slice oa n oc)) := far_own HO.out hov (Nat.le_refl _)
      have HO1 : Hid (w1.ownsRow w.heap.size 22 1 u5 k (rows.map RD.v)) := own_below HO.out hb1
      have HRB1 : Hid (∀ r, r ∈ rows → BS w1 r.v r.l ∧ Far u5 r.v) := fun r hr => ⟨(HRB.out r hr).1.to hb1, (HRB.out r hr).2⟩
      have hsz := HB1.out.size
      have hm1 : k + 1 ≤ maxLen := by simp only [maxLen]; omega
      have hm2 : (k + 1) * 24 ≤ 140737488355328 := by omega
      have hm3 : w.heap.size ≤ (w1.alloc (.cells #[.slice oa n oc] 22)).heap.size := by simp; omega
      clear hov hb1 HO HRB HB SA cx
      have tok : True := trivial
      go_wp2_with (have _t := tok; at_builtin; (refine wpList_append_lies _ rfl (.tmp 13) (.tmp 20) 29 rfl w.heap.size 22 ic _ 1 24 Tryd.underlying29 HI.out HZ.out HS.out HBY.out rfl (by decide) u5 k _ rfl (HO1.out.alloc _) ⟨w1.heap.size, 0, none⟩ 1 1 [.slice oa n oc] rfl rfl (World.news_of_block (heap_new _ _)) (by simp [Value.oneCell']) (by decide) hm1 hm2 hm3 _ rfl ?_; intro g cap w5 hown hgrow hat5 hlt5; clear tok))
      have hb25 : Below w1.heap.size w1 (w1.alloc (.cells #[.slice oa n oc] 22)) := (Below.refl _ _).alloc (Nat.le_refl _) _
      have HAL : Hid (∀ v l, BS w1 v l → Far u5 v → BS w5 v l ∧ Far (.slice (some ⟨g, 0, none⟩) (k + 1) cap) v) := fun v l hv hf => by
        have hv1 : BS (w1.alloc (.cells #[.slice oa n oc] 22)) v l := hv.to hb25
        exact ⟨hv1.kept hgrow hf, hf.new hv1 hat5 (Nat.le_refl _)⟩
      have HO5 : Hid (w5.ownsRow w.heap.size 22 1 (.slice (some ⟨g, 0, none⟩) (k + 1) cap) (k + 1) ((rows ++ [(RD.mk (.slice oa n oc) (inRow n l))]).map RD.v)) := by
        show World.ownsRow _ _ _ _ _ _ _
        rw [List.map_append]
        exact hown
      have HB5 : Hid (Below w.heap.size w w5) := grown_plain HB1.out HO1.out hgrow
      have HR5 : Hid (∀ r, r ∈ rows ++ [(RD.mk (.slice oa n oc) (inRow n l))] → BS w5 r.v r.l ∧ Far (.slice (some ⟨g, 0, none⟩) (k + 1) cap) r.v) := by
        intro r hr
        rcases List.mem_append.1 hr with hr | hr
        · exact HAL.out _ _ (HRB1.out r hr).1 (HRB1.out r hr).2
        · rw [List.mem_singleton.1 hr]
          exact HAL.out _ _ HBO.out HFO.out
      have HL5 : Hid ((rows ++ [(RD.mk (.slice oa n oc) (inRow n l))]).map RD.l = (ls.take (k + 1)).map (inRow n)) := by
        show _ = _
        rw [HLX.out, List.map_append, HL.out]; rfl
      clear hown hgrow hat5 hlt5 HAL HO1 HRB1 HB1 HL hb25
      go_roundw
      case measure => simp [intOf]; omega
      case rel => exact ⟨k + 1, _, by omega, by simp, HO5.out, HL5.out, HR5.out, HB5.out⟩
    · obtain rfl : k = ln := by omega
      have hge : ¬ (k : Int) < (k : Int) := by omega
      have HL2 : Hid (rows.map RD.l = ls.map (inRow n)) := by
        have := HL.out
        rw [List.take_of_length_le (by rw [← Eln.out]; exact Nat.le_refl _)] at this
        exact this
      go_wp2
      go_ret
      exact ⟨_, rfl, rows, HO.out, HL2.out, fun r hr => (HRB.out r hr).1, HB.out⟩


end Go.Proofs.YtibjgoigdajkkaaDoor
