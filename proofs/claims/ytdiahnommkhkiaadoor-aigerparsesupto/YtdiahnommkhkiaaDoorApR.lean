import Derived.Test.YtdiahnommkhkiaaDoorApQ
namespace Go.Proofs.YtdiahnommkhkiaaDoor
open Go.RowKit

def sV (p : List UInt8) : Value := .string (bs p)
set_option maxRecDepth 100000 in
set_option maxHeartbeats 4000000 in
theorem lines_any (l : List UInt8) (hl : l.length ≤ 1048576) (w : World) :
    Calls Tryd.prog 22 #[.string (bs l)] w fun e w' => ∃ v, e = .returned (.tuple #[v, .bool (sp 10 l).2.isEmpty]) ∧ w'.ownsRow w.heap.size 9 1 v (sp 10 l).1.length ((sp 10 l).1.map sV) ∧ Below w.heap.size w w' := by
  have hz := bs_size l
  have HG : Hid (∀ k c, l[k]? = some c → ∀ hk, (bs l)[k]'hk = c) := fun k c h hk => bs_get l k c h hk
  have HE : Hid (∀ k c, l[k]? = some c → (bs l).extract k (k + 1) = bs [c]) := fun k c h => bs_piece l k c h
  generalize hbl : bs l = s at *
  clear hbl
  obtain ⟨Ps, Wd, HSP⟩ : ∃ P W, Hid (sp 10 l = (P, W)) := ⟨_, _, rfl⟩
  rw [HSP.out]
  simp only
  obtain ⟨ib, hib, hzb, hsb, hbb⟩ := info_str
  have HI := hidden hib
  have HZ := hidden hzb
  have HS := hidden hsb
  have HBY := hidden hbb
  clear hib hzb hsb hbb
  go_enter Tryd.func22, Tryd.ntmps22
  go_wp2_with fail
  go_loopw [4, 5, 6] (fun o' s' i' w' => ∃ (k : Nat) (ps : List (List UInt8)) (wd : List UInt8), k ≤ l.length ∧ wd.length ≤ k ∧ ps.length ≤ k ∧ i' = .int .i64 k ∧ s' = .string (bs wd) ∧ Hid (sp 10 (l.take k) = (ps, wd)) ∧ Hid (w'.ownsRow w.heap.size 9 1 o' ps.length (ps.map sV)) ∧ Hid (Below w.heap.size w w')) (fun _ _ i' _ => l.length - (intOf i').toNat)
  case atStart => exact ⟨0, [], [], Nat.zero_le _, Nat.zero_le _, Nat.zero_le _, rfl, rfl, by simp [Hid, sp], World.ownsRow_nil _ _ _ _, Below.refl _ _⟩
  case round =>
    obtain ⟨k, ps, wd, hk, hwd, hps, rfl, rfl, HPW, HO, HBr⟩ := hrel
    have hzw := bs_size wd
    by_cases hlt : k < l.length
    · obtain ⟨d, hd⟩ := getElem_lt hlt
      have hltI : (k : Int) < (s.size : Int) := by omega
      have e5 : IntKind.i64.wrap ((k : Int) + 1) = (k : Int) + 1 := wrapI _ (by omega) (by omega)
      have hks : k < s.size := by omega
      have g1 := HG.out k d hd hks
      have x1 := HE.out k d hd
      by_cases hd10 : d = 10
      · have HP2 : Hid (sp 10 (l.take (k + 1)) = (ps ++ [wd], [])) := by show _ = _; rw [take_next l k d hd, sp_snoc, if_pos hd10, HPW.out]
        subst hd10
        have hm1 : ps.length + 1 ≤ maxLen := by simp only [maxLen]; omega
        have hm2 : (ps.length + 1) * 16 ≤ 140737488355328 := by omega
        have hsz := HBr.out.size
        have hm4 : w.heap.size ≤ (wr.alloc (.cells #[.string (bs wd)] 9)).heap.size := by simp; omega
        clear hd HPW x1
        have tok : True := trivial
        go_wp2_with (have _t := tok; at_builtin; (refine wpList_append_lies _ rfl (.tmp 17) (.tmp 19) 55 rfl w.heap.size 9 ib _ 1 16 Tryd.underlying55 HI.out HZ.out HS.out HBY.out rfl (by decide) u4 ps.length _ rfl (HO.out.alloc _) ⟨wr.heap.size, 0, none⟩ 1 1 [.string (bs wd)] rfl rfl (World.news_of_block (heap_new _ _)) (by simp [Value.oneCell']) (by decide) hm1 hm2 hm4 _ rfl ?_; intro g cap w5 hown hgrow hat5 hlt5; clear tok))
        have HO5 : Hid (w5.ownsRow w.heap.size 9 1 (.slice (some ⟨g, 0, none⟩) (ps.length + 1) cap) (ps ++ [wd]).length ((ps ++ [wd]).map sV)) := by
          show World.ownsRow _ _ _ _ _ _ _
          rw [List.map_append, List.length_append]
          exact hown
        have HB5 : Hid (Below w.heap.size w w5) := grown_plain HBr.out HO.out hgrow
        clear hown hgrow hat5 hlt5 hm1 hm2 hm4 HO HBr
        go_wp2
        go_roundw
        case measure => simp [intOf]; omega
        case rel => exact ⟨k + 1, ps ++ [wd], [], by omega, Nat.zero_le _, by simp; omega, by simp, rfl, HP2.out, HO5.out, HB5.out⟩
      · have hb1 : ((d.toNat : Int) == 10) = false := by
          simp; intro e; exact hd10 (UInt8.toNat_inj.1 (by rw [show d.toNat = 10 by omega]; rfl))
        have HP2 : Hid (sp 10 (l.take (k + 1)) = (ps, wd ++ [d])) := by show _ = _; rw [take_next l k d hd, sp_snoc, if_neg hd10, HPW.out]
        have hz1 := bs_size [d]
        have hap := bs_append wd [d]
        simp only [List.length_cons, List.length_nil] at hz1
        clear hd HPW
        go_wp2
        go_roundw
        case measure => simp [intOf]; omega
        case rel => exact ⟨k + 1, ps, wd ++ [d], by omega, by simp; omega, by omega, by simp, by first | rfl | (rw [← hap]), HP2.out, HO.out, HBr.out⟩
    · have hge : ¬ ((k : Int) < (s.size : Int)) := by omega
      have HPP : Hid (sp 10 l = (ps, wd)) := by
        have := HPW.out
        rwa [List.take_of_length_le (by omega)] at this
      obtain ⟨hP, hW⟩ := Prod.mk.inj (HPP.out.symm.trans HSP.out)
      subst hP
      subst hW
      have he := bs_empty wd
      clear HPW HPP HSP
      go_wp2
      go_ret2
      exact ⟨_, rfl, HO.out, HBr.out⟩

end Go.Proofs.YtdiahnommkhkiaaDoor
