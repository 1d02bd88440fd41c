import Derived.Test.YtcmfiamejncboaaLrH
namespace Go.Proofs.Ytcmfiamejncboaa
open Go.RowKit

set_option maxRecDepth 100000 in
set_option maxHeartbeats 8000000 in
theorem toldT_any (w : World) (mk gb g : Nat) (S : NtS) (N : NtD) (vals : List Bool) (h : MkT w mk gb g S N vals) (hlen : vals.length < huge) (la : Option Addr) (lc : Nat) (l : List Int) (HOU : Hid (RowAt w.heap.size w la 1 (l.map intC))) (hin : ∀ s, s ∈ l → 0 ≤ s ∧ s < (vals.length : Int)) (hol : l.length ≤ 17592186044416) :
    Calls Try.prog 22 #[.pointer (some ⟨mk, 0, none⟩), .slice la l.length lc] w fun e w' => e = .returned (.slice (some ⟨w.heap.size, 0, none⟩) l.length l.length) ∧ w'.ownsRow w.heap.size 4 1 (.slice (some ⟨w.heap.size, 0, none⟩) l.length l.length) l.length ((l.map (sV vals)).map bV) ∧ Below w.heap.size w w' := by
  obtain ⟨ib, hib, hzb, hsb, hbb⟩ := info_bool
  have HI := hidden hib
  have HZ := hidden hzb
  have HS := hidden hsb
  have HBY := hidden hbb
  clear hib hzb hsb hbb
  have HM := hidden h
  have HIN := hidden hin
  have mlt := h.mlt
  simp only [huge] at hlen
  obtain ⟨nv, HNV⟩ : ∃ n, Hid (n = vals.length) := ⟨_, rfl⟩
  rw [← HNV.out] at hlen HIN
  obtain ⟨ln, HLN⟩ : ∃ n, Hid (n = l.length) := ⟨_, rfl⟩
  rw [← HLN.out] at hol
  rw [← HLN.out]
  obtain ⟨ox, HOX⟩ : ∃ x, Hid (l.map (sV vals) = x) := ⟨_, rfl⟩
  rw [HOX.out]
  clear h hin
  have hmkb : ib.bytes * ln ≤ 281474976710656 := by rw [HBY.out]; omega
  have hmx : ln ≤ maxLen := by simp only [maxLen]; omega
  have tok : True := trivial
  go_enter Try.func22, Try.ntmps22
  go_wp2_with (have _t := tok; at_make; (refine wpList_make_full _ rfl (.tmp 9) (.tmp 9) 22 rfl w.heap.size 4 ib _ 1 Try.underlying22 HI.out HZ.out HS.out .i64 .i64 (ln : Int) (ln : Int) ln rfl rfl rfl rfl hmkb hmx (Nat.le_refl _) ?_; intro w1 hown1 hgrow1; have HB1 := hidden (none_below hgrow1); have HOM := hidden hown1; clear tok hown1 hgrow1))
  have HO0 : Hid (w1.ownsRow w.heap.size 4 1 (.slice (some ⟨w.heap.size, 0, none⟩) ln ln) ln ((List.replicate ln false).map bV)) := by
    have := HOM.out
    rw [made_false] at this
    exact this
  clear HOM
  go_loopw [13] (fun i' w' => ∃ (k : Nat), k ≤ ln ∧ i' = .int .i64 k ∧ Hid (w'.ownsRow w.heap.size 4 1 (.slice (some ⟨w.heap.size, 0, none⟩) ln ln) ln ((((l.take k).map (sV vals)) ++ (List.replicate ln false).drop k).map bV)) ∧ Hid (w1.grownBy w' (some w.heap.size))) (fun i' _ => ln - (intOf i').toNat)
  case atStart => exact ⟨0, Nat.zero_le _, rfl, by show World.ownsRow _ _ _ _ _ _ _; simpa using HO0.out, grown_refl _ _⟩
  case round =>
    obtain ⟨k, hk, rfl, HO, HG⟩ := hrel
    have HBW : Hid (Below w.heap.size w wr) := HB1.out.trans (below_grown HG.out HB1.out.size (fun k hk => by cases hk; exact Nat.le_refl _))
    by_cases hlt : k < ln
    · obtain ⟨z, hz⟩ := getElem_lt (show k < l.length by rw [← HLN.out]; exact hlt)
      obtain ⟨ob, oo, ea, hob, hoc⟩ := HOU.out.int hz
      have co := (HBW.out.cell (p := ⟨ob, oo + k, none⟩) hob).trans hoc
      have HMR := hidden (HM.out.to HBW.out)
      have m1R : wr.cell? ⟨mk, 1, none⟩ = some (.slice (some ⟨g, 0, none⟩) nv nv) := by rw [HNV.out]; exact HMR.out.m1
      have hz0 := (HIN.out z (List.mem_of_getElem? hz)).1
      have hz1 := (HIN.out z (List.mem_of_getElem? hz)).2
      obtain ⟨x, hx⟩ := getElem_lt (l := vals) (k := z.toNat) (by have := HNV.out; omega)
      have cx := HMR.out.cell hx
      have hsx : sV vals z = x := by unfold sV; rw [hx]; rfl
      have hcl := HO.out.cellAt k (by omega)
      have hfz := HO.out.frozenAt k
      have hold : ∃ old, wr.cell? ⟨w.heap.size, k, none⟩ = some old := by
        rw [hcl]
        have hL : k < ((((l.take k).map (sV vals)) ++ (List.replicate ln false).drop k).map bV).length := by simp; have := HLN.out; omega
        exact ⟨_, List.getElem?_eq_getElem hL⟩
      obtain ⟨old, hold⟩ := hold
      have HST := hidden (HO.out.stored k (.bool x))
      have HNX : Hid (((((l.take k).map (sV vals)) ++ (List.replicate ln false).drop k).map bV).set k (.bool x) = ((((l.take (k + 1)).map (sV vals)) ++ (List.replicate ln false).drop (k + 1)).map bV)) := by
        show _ = _
        have e : ((l.take k ++ [z]).map (sV vals)) = ((l.take k).map (sV vals)) ++ [x] := by rw [List.map_append]; simp [hsx]
        rw [take_next _ k _ hz, e]
        exact set_next _ _ k _ (by simp; have := HLN.out; omega) (by simpa using hlt)
      subst ea
      have hltI : (k : Int) < (ln : Int) := by omega
      have e3 : IntKind.i64.wrap ((k : Int) + 1) = (k : Int) + 1 := wrapI _ (by omega) (by omega)
      clear hoc hz hcl HO hx hsx
      go_wp2
      go_roundw
      case measure => simp [intOf]; omega
      case rel => exact ⟨k + 1, by omega, by simp, by show World.ownsRow _ _ _ _ _ _ _; rw [← HNX.out]; exact HST.out.1, grown_trans HG.out HST.out.2⟩
    · have hge : ¬ ((k : Int) < (ln : Int)) := by omega
      have HO6 : Hid (wr.ownsRow w.heap.size 4 1 (.slice (some ⟨w.heap.size, 0, none⟩) ln ln) ln (ox.map bV)) := by
        have := HO.out
        rw [List.take_of_length_le (by have := HLN.out; omega), List.drop_eq_nil_of_le (by simp; omega), List.append_nil, HOX.out] at this
        exact this
      clear HO
      go_wp2
      go_ret
      exact ⟨rfl, HO6.out, HBW.out⟩

set_option maxRecDepth 100000 in
set_option maxHeartbeats 8000000 in
theorem registers_any (w : World) (mk gb g : Nat) (S : NtS) (N : NtD) (vals : List Bool) (h : MkT w mk gb g S N vals) (ni : Nat) (hni : N.ins = (ni : Int)) (hnl : ni ≤ 60000) (hil : N.init.length ≤ 17592186044416) (hv : 2 + ni + N.init.length ≤ vals.length) (hlen : vals.length ≤ 22000000000000) :
    Calls Try.prog 28 #[.pointer (some ⟨mk, 0, none⟩)] w fun e w' => (∃ dp dc, e = .returned (.slice dp N.init.length dc) ∧ (0 < N.init.length → dp = some ⟨g, 2 + ni, none⟩)) ∧ ∃ q, w' = w.drewN q := by
  have FA : Hid (∀ q, Calls Try.prog 10 #[.pointer (some ⟨gb, 0, none⟩)] (w.drewN q) fun e w' => e = .returned (.int .i64 N.first) ∧ ∃ n, w' = (w.drewN q).drewN n) := fun q => firstTable_any (w.drewN q) gb S N (h.box.to h.box.lt (Below.drewN (Below.refl _ _) q)) (by omega) (by omega) (by simp only [huge]; omega)
  have m0 := h.m0
  have m1 := h.m1
  have q0 := h.box.c0
  rw [hni] at q0
  have HFV : Hid (N.first = 2 + (ni : Int) + N.init.length) := by show 2 + N.ins + _ = _; rw [hni]
  obtain ⟨nv, HNV⟩ : ∃ n, Hid (n = vals.length) := ⟨_, rfl⟩
  rw [← HNV.out] at m1 hv hlen
  obtain ⟨il, HIL⟩ : ∃ n, Hid (n = N.init.length) := ⟨_, rfl⟩
  rw [← HIL.out] at hv hil HFV
  rw [← HIL.out]
  obtain ⟨F, HF⟩ : ∃ f : Nat, Hid (f = 2 + ni + il) := ⟨_, rfl⟩
  have HFE : Hid (N.first = (F : Int)) := by show _ = _; rw [HFV.out, HF.out]; omega
  rw [HFE.out] at FA
  obtain ⟨lo, HLO⟩ : ∃ f : Nat, Hid (f = 2 + ni) := ⟨_, rfl⟩
  have e1 : IntKind.i64.wrap (2 + (ni : Int)) = (lo : Int) := by rw [HLO.out]; rw [wrapI _ (by omega) (by omega)]; omega
  have hlF : lo ≤ F := by have := HF.out; have := HLO.out; omega
  have hFn : F ≤ nv := by have := HF.out; omega
  have HD : Hid (F - lo = il) := by show _ = _; have := HF.out; have := HLO.out; omega
  have e2 : 2 + (ni : Int) = (lo : Int) := by have := HLO.out; omega
  clear h hni HFV HFE
  have hcs : lo = nv ∨ lo < nv := by omega
  rcases hcs with hcs | hcs
  · have hil0 : Hid (il = 0) := by show _ = _; have := HD.out; omega
    have hFl : F = lo := by omega
    subst hFl
    subst hcs
    go_enter Try.func28, Try.ntmps28
    go_wp2_with fail
    go_quiet ((go_at_call 10; exact Calls.quiet_of (FA.out _)))
    go_wp2
    go_ret
    exact ⟨⟨_, _, by rw [hil0.out]; exact rfl, fun hp => by have := hil0.out; omega⟩, _, rfl⟩
  · go_enter Try.func28, Try.ntmps28
    go_wp2_with fail
    go_quiet ((go_at_call 10; exact Calls.quiet_of (FA.out _)))
    go_wp2
    go_ret
    exact ⟨⟨_, _, by rw [← HD.out]; exact rfl, fun _ => by rw [← HLO.out]⟩, _, rfl⟩

end Go.Proofs.Ytcmfiamejncboaa
