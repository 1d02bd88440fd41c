import Derived.Test.YtlgihgidpngifaaAgQ
import Derived.Laws.OwnMore
namespace Go.Proofs.Ytlgihgidpngifaa
open Go.RowKit

/-- a machine in memory -/
structure MkAt (w : World) (mk gb g : Nat) (S : GrS) (G : GrD) (vals : List Bool) : Prop where
  m0 : w.cell? ⟨mk, 0, none⟩ = some (.pointer (some ⟨gb, 0, none⟩))
  m1 : w.cell? ⟨mk, 1, none⟩ = some (.slice (some ⟨g, 0, none⟩) vals.length vals.length)
  mlt : mk < w.heap.size
  glt : g < w.heap.size
  box : BoxAt w gb S G
  row : w.heap[g]? = some (.cells (vals.map bV).toArray 4 (0, 0))
theorem MkAt.to {w w' : World} {mk gb g : Nat} {S : GrS} {G : GrD} {vals : List Bool} (h : MkAt w mk gb g S G vals) (hb : Below w.heap.size w w') : MkAt w' mk gb g S G vals :=
  ⟨(hb.cell (p := ⟨mk, 0, none⟩) h.mlt).trans h.m0, (hb.cell (p := ⟨mk, 1, none⟩) h.mlt).trans h.m1, Nat.lt_of_lt_of_le h.mlt hb.size, Nat.lt_of_lt_of_le h.glt hb.size, h.box.to h.box.lt hb, (hb.block g h.glt).trans h.row⟩
theorem MkAt.cell {w : World} {mk gb g : Nat} {S : GrS} {G : GrD} {vals : List Bool} (h : MkAt w mk gb g S G vals) {i : Nat} {x : Bool} (hx : vals[i]? = some x) : w.cell? ⟨g, i, none⟩ = some (.bool x) := by
  rw [cell_of_row w g i _ _ _ h.row]
  simp [hx, bV]

set_option maxRecDepth 100000 in
set_option maxHeartbeats 8000000 in
theorem worth_any (w : World) (mk gb g : Nat) (S : GrS) (G : GrD) (vals : List Bool) (h : MkAt w mk gb g S G vals) (hlen : vals.length < big) (l : Int) (hl : InV vals l) :
    Calls Try.prog 23 #[.pointer (some ⟨mk, 0, none⟩), .int .i64 l] w fun e w' => e = .returned (.bool (litV vals l)) ∧ w' = w := by
  obtain ⟨h0, h1⟩ := hl
  simp only [big] at hlen
  obtain ⟨x, hx⟩ : ∃ x, vals[(l / 2).toNat]? = some x := getElem_lt (by omega)
  have hc := h.cell hx
  have m1 := h.m1
  have mlt := h.mlt
  have e : litV vals l = (x != decide (l % 2 = 1)) := by unfold litV; rw [hx]; rfl
  rw [e]
  have hlt : l / 2 < (vals.length : Int) := by omega
  have h2 : 0 ≤ l / 2 := by omega
  have q1 : Int.tdiv l 2 = l / 2 := by rw [Int.tdiv_eq_ediv_of_nonneg h0]
  have q2 : Int.tmod l 2 = l % 2 := by rw [Int.tmod_eq_emod_of_nonneg h0]
  clear e hx h
  generalize l / 2 = m at *
  generalize hr : l % 2 = r at *
  have e1 : IntKind.i64.wrap m = m := wrapI _ (by omega) (by omega)
  have e2 : IntKind.i64.wrap r = r := wrapI _ (by omega) (by omega)
  go_enter Try.func23, Try.ntmps23
  go_wp2
  go_ret
  refine ⟨ret_bool ?_, rfl⟩
  have er : (r == 1) = decide (r = 1) := by rw [Bool.eq_iff_iff]; simp
  cases x <;> simp [er]

set_option maxRecDepth 100000 in
set_option maxHeartbeats 8000000 in
theorem told_any (w : World) (mk gb g : Nat) (S : GrS) (G : GrD) (vals : List Bool) (h : MkAt w mk gb g S G vals) (hlen : vals.length < big) (HOU : Hid (RowAt w.heap.size w S.a3 1 (G.outs.map intC))) (hin : OutsIn G vals.length) (hol : G.outs.length ≤ 60000) :
    Calls Try.prog 18 #[.pointer (some ⟨mk, 0, none⟩)] w fun e w' => e = .returned (.slice (some ⟨w.heap.size, 0, none⟩) G.outs.length G.outs.length) ∧ w'.ownsRow w.heap.size 4 1 (.slice (some ⟨w.heap.size, 0, none⟩) G.outs.length G.outs.length) G.outs.length ((outN G vals).map bV) ∧ Below w.heap.size w w' := by
  obtain ⟨ib, hib, hzb, hsb, hbb⟩ := info_bool
  have HI := hidden hib
  have HZ := hidden hzb
  have HS := hidden hsb
  have HBY := hidden hbb
  clear hib hzb hsb hbb
  have HM := hidden h
  have HLEN := hidden hlen
  have HIN := hidden hin
  unfold OutsIn at HIN
  have m0 := h.m0
  have mlt := h.mlt
  have blt := h.box.lt
  have q3 := h.box.c3
  clear h hlen hin
  obtain ⟨sa1, sc1, sa2, sc2, sa3, sc3⟩ := S
  dsimp only at *
  have hmkb : ib.bytes * G.outs.length ≤ 281474976710656 := by rw [HBY.out]; omega
  have hmx : G.outs.length ≤ maxLen := by simp only [maxLen]; omega
  have tok : True := trivial
  go_enter Try.func18, Try.ntmps18
  go_wp2_with (have _t := tok; at_make; (refine wpList_make_full _ rfl (.tmp 13) (.tmp 13) 31 rfl w.heap.size 4 ib _ 1 Try.underlying31 HI.out HZ.out HS.out .i64 .i64 (G.outs.length : Int) (G.outs.length : Int) G.outs.length rfl rfl rfl rfl hmkb hmx (Nat.le_refl _) ?_; intro w1 hown1 hgrow1; have HB1 := hidden (none_below hgrow1); have HOM := hidden hown1; have m0' := (HB1.out.cell (p := ⟨mk, 0, none⟩) mlt).trans m0; have q3' := (HB1.out.cell (p := ⟨gb, 3, none⟩) blt).trans q3; clear tok hown1 hgrow1))
  have HO0 : Hid (w1.ownsRow w.heap.size 4 1 (.slice (some ⟨w.heap.size, 0, none⟩) G.outs.length G.outs.length) G.outs.length ((List.replicate G.outs.length false).map bV)) := by
    have := HOM.out
    rw [made_false] at this
    exact this
  clear HOM
  go_loopw [23] (fun i' w' => ∃ (k : Nat), k ≤ G.outs.length ∧ i' = .int .i64 k ∧ Hid (w'.ownsRow w.heap.size 4 1 (.slice (some ⟨w.heap.size, 0, none⟩) G.outs.length G.outs.length) G.outs.length ((((G.outs.take k).map (litV vals)) ++ (List.replicate G.outs.length false).drop k).map bV)) ∧ Hid (w1.grownBy w' (some w.heap.size))) (fun i' _ => G.outs.length - (intOf i').toNat)
  case atStart => exact ⟨0, Nat.zero_le _, rfl, by show World.ownsRow _ _ _ _ _ _ _; simpa using HO0.out, grown_refl _ _⟩
  case round =>
    obtain ⟨k, hk, rfl, HO, HG⟩ := hrel
    have HBW : Hid (Below w.heap.size w wr) := HB1.out.trans (below_grown HG.out HB1.out.size (fun k hk => by cases hk; exact Nat.le_refl _))
    by_cases hlt : k < G.outs.length
    · obtain ⟨z, hz⟩ := getElem_lt hlt
      obtain ⟨ob, oo, ea, hob, hoc⟩ := HOU.out.intR hz
      have co := (HBW.out.cell (p := ⟨ob, oo + k, none⟩) hob).trans hoc
      have WT : Hid (∀ w', w' = wr → Calls Try.prog 23 #[.pointer (some ⟨mk, 0, none⟩), .int .i64 z] w' fun e w'' => e = .returned (.bool (litV vals z)) ∧ w'' = w') := fun w' hw' => by subst hw'; exact worth_any _ mk gb g _ G vals (HM.out.to HBW.out) HLEN.out z (HIN.out k z hz)
      have hcl := HO.out.cellAt k (by omega)
      have hfz := HO.out.frozenAt k
      have hold : ∃ old, wr.cell? ⟨w.heap.size, k, none⟩ = some old := by
        rw [hcl]
        have hL : k < ((((G.outs.take k).map (litV vals)) ++ (List.replicate G.outs.length false).drop k).map bV).length := by simp; omega
        exact ⟨_, List.getElem?_eq_getElem hL⟩
      obtain ⟨old, hold⟩ := hold
      have HST := hidden (HO.out.stored k (.bool (litV vals z)))
      have HNX : Hid (((((G.outs.take k).map (litV vals)) ++ (List.replicate G.outs.length false).drop k).map bV).set k (.bool (litV vals z)) = ((((G.outs.take (k + 1)).map (litV vals)) ++ (List.replicate G.outs.length false).drop (k + 1)).map bV)) := by
        show _ = _
        have e : ((G.outs.take k ++ [z]).map (litV vals)) = ((G.outs.take k).map (litV vals)) ++ [litV vals z] := by rw [List.map_append]; simp
        rw [take_next _ k _ hz, e]
        exact set_next _ _ k _ (by simp; omega) (by simpa using hlt)
      generalize litV vals z = y at *
      subst ea
      have hltI : (k : Int) < (G.outs.length : Int) := by omega
      have e3 : IntKind.i64.wrap ((k : Int) + 1) = (k : Int) + 1 := wrapI _ (by omega) (by omega)
      clear hoc hz hcl HO
      go_wp2_with fail
      go_at_call 23
      refine (WT.out _ rfl).mono ?_
      rintro e w2 ⟨rfl, hw2⟩
      subst hw2
      clear WT
      go_wp2
      go_roundw
      case measure => simp [intOf]; omega
      case rel => exact ⟨k + 1, by omega, by simp, by show World.ownsRow _ _ _ _ _ _ _; rw [← HNX.out]; exact HST.out.1, grown_trans HG.out HST.out.2⟩
    · have hge : ¬ ((k : Int) < (G.outs.length : Int)) := by omega
      have HO6 : Hid (wr.ownsRow w.heap.size 4 1 (.slice (some ⟨w.heap.size, 0, none⟩) G.outs.length G.outs.length) G.outs.length ((outN G vals).map bV)) := by
        have := HO.out
        rw [List.take_of_length_le (by omega), List.drop_eq_nil_of_le (by simp; omega), List.append_nil] at this
        exact this
      clear HO
      go_wp2
      go_ret
      exact ⟨rfl, HO6.out, HBW.out⟩

end Go.Proofs.Ytlgihgidpngifaa
