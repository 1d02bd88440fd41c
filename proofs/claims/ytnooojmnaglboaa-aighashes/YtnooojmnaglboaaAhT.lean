import Derived.Test.YtnooojmnaglboaaAhS
import Derived.Test.YtnooojmnaglboaaAgO
namespace Go.Proofs.Ytnooojmnaglboaa
open Go.RowKit

/-- a piece of a row, false behind its end -/
def stOf (l : List Bool) (f n : Nat) : List Bool := (List.range n).map fun i => l[f + i]?.getD false
theorem stOf_next (l : List Bool) (f k : Nat) : (stOf l f (k + 1)).map bV = (stOf l f k).map bV ++ [.bool (l[f + k]?.getD false)] := by
  unfold stOf
  rw [List.range_succ, List.map_append, List.map_append]; rfl
theorem stOf_length (l : List Bool) (f n : Nat) : (stOf l f n).length = n := by unfold stOf; rw [List.length_map, List.length_range]

set_option maxRecDepth 100000 in
set_option maxHeartbeats 4000000 in
theorem state_any (B : Nat) (w : World) (al : Option Addr) (cl : Nat) (l : List Bool) (f n : Nat) (h : RowAt B w al 1 (l.map bC)) (hB : B ≤ w.heap.size) (hf : f ≤ 60000) (hn : n ≤ 60000) :
    Calls Try.prog 15 #[.slice al l.length cl, .int .i64 f, .int .i64 n] w fun e w' => ∃ v, e = .returned v ∧ w'.ownsRow w.heap.size 4 1 v n ((stOf l f n).map bV) ∧ Below w.heap.size w w' := by
  obtain ⟨ib, hib, hzb, hsb, hbb⟩ := info_bool
  have HI := hidden hib
  have HZ := hidden hzb
  have HS := hidden hsb
  have HBY := hidden hbb
  clear hib hzb hsb hbb
  have HR := hidden h
  clear h
  go_enter Try.func15, Try.ntmps15
  go_wp2_with fail
  go_loopw [7, 8] (fun v i' w' => ∃ (k : Nat), k ≤ n ∧ i' = .int .i64 k ∧ Hid (w'.ownsRow w.heap.size 4 1 v k ((stOf l f k).map bV)) ∧ Hid (Below w.heap.size w w')) (fun _ i' _ => n - (intOf i').toNat)
  case atStart => exact ⟨0, Nat.zero_le _, rfl, World.ownsRow_nil _ _ _ _, Below.refl _ _⟩
  case round =>
    obtain ⟨k, hk, rfl, HO, HBr⟩ := hrel
    by_cases hlt : k < n
    · have HNX := hidden (stOf_next l f k)
      have hltI : (k : Int) < (n : Int) := by omega
      have e3 : IntKind.i64.wrap ((k : Int) + 1) = (k : Int) + 1 := wrapI _ (by omega) (by omega)
      obtain ⟨ix, hix⟩ : ∃ x, x = f + k := ⟨_, rfl⟩
      have e4 : IntKind.i64.wrap ((f : Int) + (k : Int)) = (ix : Int) := by rw [wrapI _ (by omega) (by omega)]; omega
      rw [← hix] at HNX
      clear hix
      have hm1 : k + 1 ≤ maxLen := by simp only [maxLen]; omega
      have hm2 : (k + 1) * 1 ≤ 140737488355328 := by omega
      have hsz := HBr.out.size
      by_cases hin : ix < l.length
      · obtain ⟨x, hx⟩ := getElem_lt hin
        obtain ⟨rb, ro, ea, hrb, hrc⟩ := rowB HR.out hx
        subst ea
        have c1 : wr.cell? ⟨rb, ro + ix, none⟩ = some (.bool x) := (HBr.out.cell (p := ⟨rb, ro + ix, none⟩) (Nat.lt_of_lt_of_le hrb hB)).trans (by simpa using hrc)
        rw [hx] at HNX
        simp only [Option.getD_some] at HNX
        have hinI : (ix : Int) < (l.length : Int) := by omega
        have hm3 : w.heap.size ≤ (wr.alloc (.cells #[.bool x] 4)).heap.size := by simp; omega
        clear hrc hx
        have tok : True := trivial
        go_wp2_with (have _t := tok; at_builtin; (refine wpList_append_lies _ rfl (.tmp 14) (.tmp 29) 30 rfl w.heap.size 4 ib _ 1 1 Try.underlying30 HI.out HZ.out HS.out HBY.out rfl (by decide) u7 k _ rfl (HO.out.alloc _) ⟨wr.heap.size, 0, none⟩ 1 1 [.bool x] rfl rfl (World.news_of_block (heap_new _ _)) (by simp [Value.oneCell']) (by decide) hm1 hm2 hm3 _ rfl ?_; intro g cap w5 hown hgrow hat5 hlt5; clear tok))
        have HO5 : Hid (w5.ownsRow w.heap.size 4 1 (.slice (some ⟨g, 0, none⟩) (k + 1) cap) (k + 1) ((stOf l f (k + 1)).map bV)) := by
          show World.ownsRow _ _ _ _ _ _ _
          rw [HNX.out]
          exact hown
        have HB5 : Hid (Below w.heap.size w w5) := grown_plain HBr.out HO.out hgrow
        clear hown hgrow hat5 hlt5 hm1 hm2 hm3 HO HBr HNX
        go_wp2
        go_roundw
        case measure => simp [intOf]; omega
        case rel => exact ⟨k + 1, by omega, by simp, HO5.out, HB5.out⟩
      · rw [List.getElem?_eq_none (by omega)] at HNX
        simp only [Option.getD_none] at HNX
        have hinI : ¬ ((ix : Int) < (l.length : Int)) := by omega
        have hm3 : w.heap.size ≤ (wr.alloc (.cells #[.bool false] 4)).heap.size := by simp; omega
        have tok : True := trivial
        go_wp2_with (have _t := tok; at_builtin; (refine wpList_append_lies _ rfl (.tmp 14) (.tmp 29) 30 rfl w.heap.size 4 ib _ 1 1 Try.underlying30 HI.out HZ.out HS.out HBY.out rfl (by decide) u7 k _ rfl (HO.out.alloc _) ⟨wr.heap.size, 0, none⟩ 1 1 [.bool false] rfl rfl (World.news_of_block (heap_new _ _)) (by simp [Value.oneCell']) (by decide) hm1 hm2 hm3 _ rfl ?_; intro g cap w5 hown hgrow hat5 hlt5; clear tok))
        have HO5 : Hid (w5.ownsRow w.heap.size 4 1 (.slice (some ⟨g, 0, none⟩) (k + 1) cap) (k + 1) ((stOf l f (k + 1)).map bV)) := by
          show World.ownsRow _ _ _ _ _ _ _
          rw [HNX.out]
          exact hown
        have HB5 : Hid (Below w.heap.size w w5) := grown_plain HBr.out HO.out hgrow
        clear hown hgrow hat5 hlt5 hm1 hm2 hm3 HO HBr HNX
        go_wp2
        go_roundw
        case measure => simp [intOf]; omega
        case rel => exact ⟨k + 1, by omega, by simp, HO5.out, HB5.out⟩
    · have hge : ¬ ((k : Int) < (n : Int)) := by omega
      have hke : k = n := by omega
      subst hke
      have HBn := HBr
      have HOn := HO
      clear HBr HO
      go_wp2
      go_ret
      exact ⟨_, rfl, HOn.out, HBn.out⟩

end Go.Proofs.Ytnooojmnaglboaa
