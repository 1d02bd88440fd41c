import Derived.Test.YtjbnejjjbdalaaaDoorFaU
namespace Go.Proofs.YtjbnejjjbdalaaaDoor
open Go.RowKit

/-- a row of bytes that are truths -/
def BRow (w : World) (g : Nat) (vs : List Bool) : Prop := g < w.heap.size ∧ w.heap[g]? = some (.cells (vs.map b8).toArray 5 (0, 0))
theorem BRow.to {B : Nat} {w w' : World} {g : Nat} {vs : List Bool} (h : BRow w g vs) (hg : g < B) (hb : Below B w w') : BRow w' g vs :=
  ⟨Nat.lt_of_lt_of_le h.1 hb.size, (hb.block g hg).trans h.2⟩
theorem BRow.cell {w : World} {g : Nat} {vs : List Bool} (h : BRow w g vs) {i : Nat} {x : Bool} (hx : vs[i]? = some x) : w.cell? ⟨g, i, none⟩ = some (b8 x) := by
  rw [cell_of_row w g i _ _ _ h.2]
  simp [hx]
/-- a machine in memory -/
structure MkC (w : World) (mk gb sb g0 g1 : Nat) (S : CnS) (N : CnD) (src l0 l1 : List Bool) : Prop where
  m0 : w.cell? ⟨mk, 0, none⟩ = some (.pointer (some ⟨gb, 0, none⟩))
  m1 : w.cell? ⟨mk, 1, none⟩ = some (.slice (some ⟨sb, 0, none⟩) src.length src.length)
  m2 : w.cell? ⟨mk, 2, none⟩ = some (.slice (some ⟨g0, 0, none⟩) l0.length l0.length)
  m3 : w.cell? ⟨mk, 3, none⟩ = some (.slice (some ⟨g1, 0, none⟩) l1.length l1.length)
  mlt : mk < w.heap.size
  box : BoxAt w gb S N
  rs : BRow w sb src
  r0 : BRow w g0 l0
  r1 : BRow w g1 l1
theorem MkC.to {w w' : World} {mk gb sb g0 g1 : Nat} {S : CnS} {N : CnD} {src l0 l1 : List Bool} (h : MkC w mk gb sb g0 g1 S N src l0 l1) (hb : Below w.heap.size w w') : MkC w' mk gb sb g0 g1 S N src l0 l1 :=
  ⟨(hb.cell (p := ⟨mk, 0, none⟩) h.mlt).trans h.m0, (hb.cell (p := ⟨mk, 1, none⟩) h.mlt).trans h.m1, (hb.cell (p := ⟨mk, 2, none⟩) h.mlt).trans h.m2, (hb.cell (p := ⟨mk, 3, none⟩) h.mlt).trans h.m3, Nat.lt_of_lt_of_le h.mlt hb.size, h.box.to h.box.lt hb, h.rs.to h.rs.1 hb, h.r0.to h.r0.1 hb, h.r1.to h.r1.1 hb⟩

set_option maxRecDepth 100000 in
set_option maxHeartbeats 8000000 in
theorem shown_any (w : World) (mk gb g c : Nat) (S : CnS) (N : CnD) (vals : List Bool) (m0 : w.cell? ⟨mk, 0, none⟩ = some (.pointer (some ⟨gb, 0, none⟩))) (m4 : w.cell? ⟨mk, 4, none⟩ = some (.slice (some ⟨g, 0, none⟩) vals.length c)) (mlt : mk < w.heap.size) (hx : BoxAt w gb S N) (hr : BRow w g vals) (hlen : vals.length ≤ 100000)
    (HOU : Hid (RowAt w.heap.size w S.a3 1 (N.outs.map intC))) (hin : ∀ s, s ∈ N.outs → 0 ≤ s ∧ s < (vals.length : Int)) (hol : N.outs.length ≤ 17592186044416) :
    Calls Tryd.prog 19 #[.pointer (some ⟨mk, 0, none⟩)] w fun e w' => e = .returned (.slice (some ⟨w.heap.size, 0, none⟩) N.outs.length N.outs.length) ∧ w'.ownsRow w.heap.size 4 1 (.slice (some ⟨w.heap.size, 0, none⟩) N.outs.length N.outs.length) N.outs.length ((outC N vals).map bV) ∧ Below w.heap.size w w' := by
  obtain ⟨ib, hib, hzb, hsb, hbb⟩ := info_bool
  have HI := hidden hib
  have HZ := hidden hzb
  have HS := hidden hsb
  have HBY := hidden hbb
  clear hib hzb hsb hbb
  have HBX := hidden hx
  have HBR := hidden hr
  have HIN := hidden hin
  have q7 := hx.c7
  have blt := hx.lt
  obtain ⟨nv, HNV⟩ : ∃ n, Hid (n = vals.length) := ⟨_, rfl⟩
  rw [← HNV.out] at hlen HIN m4
  obtain ⟨l, HL⟩ : ∃ l, Hid (N.outs = l) := ⟨_, rfl⟩
  have HOXE : Hid (outC N vals = l.map (sV vals)) := by show N.outs.map _ = _; rw [HL.out]
  rw [HL.out] at HOU HIN hol q7
  rw [HL.out]
  obtain ⟨ln, HLN⟩ : ∃ n, Hid (n = l.length) := ⟨_, rfl⟩
  rw [← HLN.out] at hol q7
  rw [← HLN.out]
  obtain ⟨ox, HOX⟩ : ∃ x, Hid (l.map (sV vals) = x) := ⟨_, rfl⟩
  rw [HOXE.out, HOX.out]
  obtain ⟨sa1, sc1, sa2, sc2, sa3, sc3⟩ := S
  dsimp only at *
  clear hx hr hin HOXE
  have hmkb : ib.bytes * ln ≤ 281474976710656 := by rw [HBY.out]; omega
  have hmx : ln ≤ maxLen := by simp only [maxLen]; omega
  have HM0 := hidden m0
  have HM4 := hidden m4
  have HQ7 := hidden q7
  have tok : True := trivial
  go_enter Tryd.func19, Tryd.ntmps19
  go_wp2_with (have _t := tok; at_make; (refine wpList_make_full _ rfl (.tmp 13) (.tmp 13) 34 rfl w.heap.size 4 ib _ 1 Tryd.underlying34 HI.out HZ.out HS.out .i64 .i64 (ln : Int) (ln : Int) ln rfl rfl rfl rfl hmkb hmx (Nat.le_refl _) ?_; intro w1 hown1 hgrow1; have HB1 := hidden (none_below hgrow1); have HOM := hidden hown1; have m0w := (HB1.out.cell (p := ⟨mk, 0, none⟩) mlt).trans m0; have q7w := (HB1.out.cell (p := ⟨gb, 7, none⟩) blt).trans q7; clear tok hown1 hgrow1))
  have HO0 : Hid (w1.ownsRow w.heap.size 4 1 (.slice (some ⟨w.heap.size, 0, none⟩) ln ln) ln ((List.replicate ln false).map bV)) := by
    have := HOM.out
    rw [made_false] at this
    exact this
  clear HOM m0w q7w
  go_loopw [23] (fun i' w' => ∃ (k : Nat), k ≤ ln ∧ i' = .int .i64 k ∧ Hid (w'.ownsRow w.heap.size 4 1 (.slice (some ⟨w.heap.size, 0, none⟩) ln ln) ln ((((l.take k).map (sV vals)) ++ (List.replicate ln false).drop k).map bV)) ∧ Hid (w1.grownBy w' (some w.heap.size))) (fun i' _ => ln - (intOf i').toNat)
  case atStart => exact ⟨0, Nat.zero_le _, rfl, by show World.ownsRow _ _ _ _ _ _ _; simpa using HO0.out, grown_refl _ _⟩
  case round =>
    obtain ⟨k, hk, rfl, HO, HG⟩ := hrel
    have HBW : Hid (Below w.heap.size w wr) := HB1.out.trans (below_grown HG.out HB1.out.size (fun k hk => by cases hk; exact Nat.le_refl _))
    by_cases hlt : k < ln
    · obtain ⟨z, hz⟩ := getElem_lt (show k < l.length by rw [← HLN.out]; exact hlt)
      obtain ⟨ob, oo, ea, hob, hoc⟩ := HOU.out.int hz
      have co := (HBW.out.cell (p := ⟨ob, oo + k, none⟩) hob).trans hoc
      have m4R := (HBW.out.cell (p := ⟨mk, 4, none⟩) mlt).trans HM4.out
      have hz0 := (HIN.out z (List.mem_of_getElem? hz)).1
      have hz1 := (HIN.out z (List.mem_of_getElem? hz)).2
      obtain ⟨x, hx⟩ := getElem_lt (l := vals) (k := z.toNat) (by have := HNV.out; omega)
      have cx := (HBR.out.to HBR.out.1 HBW.out).cell hx
      have HXE : Hid ((((bN x : Nat) : Int) == 1) = x) := by cases x <;> rfl
      unfold b8 at cx
      have bx := bN_lt x
      have hsx : sV vals z = x := by unfold sV; rw [hx]; rfl
      have hcl := HO.out.cellAt k (by omega)
      have hfz := HO.out.frozenAt k
      have hold : ∃ old, wr.cell? ⟨w.heap.size, k, none⟩ = some old := by
        rw [hcl]
        have hL : k < ((((l.take k).map (sV vals)) ++ (List.replicate ln false).drop k).map bV).length := by simp; have := HLN.out; omega
        exact ⟨_, List.getElem?_eq_getElem hL⟩
      obtain ⟨old, hold⟩ := hold
      have HST := hidden (HO.out.stored k (.bool (((bN x : Nat) : Int) == 1)))
      have HNX : Hid (((((l.take k).map (sV vals)) ++ (List.replicate ln false).drop k).map bV).set k (.bool x) = ((((l.take (k + 1)).map (sV vals)) ++ (List.replicate ln false).drop (k + 1)).map bV)) := by
        show _ = _
        have e : ((l.take k ++ [z]).map (sV vals)) = ((l.take k).map (sV vals)) ++ [x] := by rw [List.map_append]; simp [hsx]
        rw [take_next _ k _ hz, e]
        exact set_next _ _ k _ (by simp; have := HLN.out; omega) (by simpa using hlt)
      subst ea
      have hltI : (k : Int) < (ln : Int) := by omega
      have e3 : IntKind.i64.wrap ((k : Int) + 1) = (k : Int) + 1 := wrapI _ (by omega) (by omega)
      clear hoc hz hcl HO hx hsx
      go_wp2
      go_roundw
      case measure => simp [intOf]; omega
      case rel => exact ⟨k + 1, by omega, by simp, by show World.ownsRow _ _ _ _ _ _ _; rw [← HNX.out]; have := HST.out.1; rwa [show Value.bool (((bN x : Nat) : Int) == 1) = .bool x by rw [HXE.out]] at this ⊢, grown_trans HG.out HST.out.2⟩
    · have hge : ¬ ((k : Int) < (ln : Int)) := by omega
      have HO6 : Hid (wr.ownsRow w.heap.size 4 1 (.slice (some ⟨w.heap.size, 0, none⟩) ln ln) ln (ox.map bV)) := by
        have := HO.out
        rw [List.take_of_length_le (by have := HLN.out; omega), List.drop_eq_nil_of_le (by simp; omega), List.append_nil, HOX.out] at this
        exact this
      clear HO
      go_wp2
      go_ret
      exact ⟨rfl, HO6.out, HBW.out⟩

end Go.Proofs.YtjbnejjjbdalaaaDoor
