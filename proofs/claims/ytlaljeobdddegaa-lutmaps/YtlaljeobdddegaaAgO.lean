import Derived.Test.YtlaljeobdddegaaAgN
namespace Go.Proofs.Ytlaljeobdddegaa
open Go.RowKit

def LatsIn (G : GrD) (n : Nat) : Prop := ∀ (k : Nat) (d : LatD), G.lats[k]? = some d → 0 ≤ d.next ∧ d.next < 2 * (n : Int)
def OutsIn (G : GrD) (n : Nat) : Prop := ∀ (k : Nat) (l : Int), G.outs[k]? = some l → 0 ≤ l ∧ l < 2 * (n : Int)

set_option maxRecDepth 100000 in
set_option maxHeartbeats 8000000 in
theorem next_any (B : Nat) (w : World) (S : GrS) (G : GrD) (h : GrAt B w S G) (hB : B ≤ w.heap.size) (hs : G.small) (ha : AndsIn G) (hli : LatsIn G (1 + G.ins.toNat + G.lats.length + G.ands.length)) (hoi : OutsIn G (1 + G.ins.toNat + G.lats.length + G.ands.length)) (row st : List Bool) (hst : st.length = G.lats.length) (ai : Option Addr) (ci : Nat) (hrow : RowAt B w ai 1 (row.map bC)) (sv : Value) (hsv : BS w sv st) :
    Calls Try.prog 24 #[.agg (S.cells G), .slice ai row.length ci, sv] w fun e w' => ∃ vn vo, e = .returned (.tuple #[vn, vo]) ∧ w'.ownsRow w.heap.size 4 1 vn G.lats.length ((nextN G (cycN G row st)).map bV) ∧ w'.ownsRow w.heap.size 4 1 vo G.outs.length ((outN G (cycN G row st)).map bV) ∧ Below w.heap.size w w' := by
  have hvl := cyc_length G row st
  rw [hst] at hvl
  have CY : Hid (∀ w', Below w.heap.size w w' → Calls Try.prog 43 #[.agg (S.cells G), .slice ai row.length ci, sv] w' fun e w'' => ∃ v, e = .returned v ∧ w''.ownsRow w'.heap.size 4 1 v (cycN G row st).length ((cycN G row st).map bV) ∧ Below w'.heap.size w' w'') := by
    intro w' hw'
    rw [hvl]
    exact cycle_any B w' S G (h.to (hw'.mono hB)) (Nat.le_trans hB hw'.size) hs ha row st hst ai ci (hrow.to (hw'.mono hB)) sv (hsv.to hw')
  rw [← hvl] at hli hoi
  obtain ⟨vs, HVS⟩ : ∃ vs, cycN G row st = vs := ⟨_, rfl⟩
  rw [HVS] at CY hli hoi hvl ⊢
  clear HVS
  obtain ⟨g0, g1, g2, g3, g4⟩ := hs
  have HVL : Hid (vs.length < big) := by
    show _ < _
    unfold GrD.vars GrD.first at g4
    simp only [big]; omega
  have HLI := hidden hli
  have HOI := hidden hoi
  unfold LatsIn at HLI
  unfold OutsIn at HOI
  unfold GrS.cells at *
  clear g0 g1 g4 ha hvl hst hsv hli hoi
  obtain ⟨ib, hib, hzb, hsb, hbb⟩ := info_bool
  have HI := hidden hib
  have HZ := hidden hzb
  have HS := hidden hsb
  have HBY := hidden hbb
  clear hib hzb hsb hbb
  go_enter Try.func24, Try.ntmps24
  go_upto_region 1 with fail
  generalize hW : World.alloc w _ = W
  have HB : Hid (Below w.heap.size w W) := by rw [← hW]; exact (Below.refl _ _).alloc (Nat.le_refl _) _
  have hN : w.heap.size < W.heap.size := by rw [← hW]; simp
  have HX : Hid (BoxAt W w.heap.size S G) := by
    rw [← hW]
    exact ⟨by simp, by simp, by simp, by simp, by simp⟩
  have HAW : Hid (GrAt B W S G) := h.to (HB.out.mono hB)
  have hBW : B ≤ W.heap.size := Nat.le_trans hB HB.out.size
  clear hW h
  clear hrow
  have q0 := HX.out.c0
  have q1 := HX.out.c1
  have q2 := HX.out.c2
  have q3 := HX.out.c3
  go_wp2_with (go_at_call 43; refine (CY.out _ HB.out).mono ?_; rintro e V ⟨v, rfl, hov, hbv⟩; have HBV := hidden hbv; have HOV := hidden hov; clear hov hbv)
  obtain ⟨-, av, cv, hu, hrv⟩ := ownRow (g := bV) HOV.out
  subst hu
  have HRV : Hid (RowAt V.heap.size V av 1 (vs.map bC)) := hrv
  clear hrv q0 q1 q2 q3 CY HOV
  go_loopw [9, 11] (fun v i' w' => ∃ (k : Nat), k ≤ G.lats.length ∧ i' = .int .i64 k ∧ Hid (w'.ownsRow V.heap.size 4 1 v k (((G.lats.take k).map (fun d => litV vs d.next)).map bV)) ∧ Hid (Below V.heap.size V w')) (fun _ i' _ => G.lats.length - (intOf i').toNat)
  case atStart => exact ⟨0, Nat.zero_le _, rfl, World.ownsRow_nil _ _ _ _, Below.refl _ _⟩
  case round =>
    obtain ⟨k, hk, rfl, HO, HBr⟩ := hrel
    have qR := (HBr.out.cell (p := ⟨w.heap.size, 1, none⟩) (Nat.lt_of_lt_of_le hN HBV.out.size)).trans ((HBV.out.cell (p := ⟨w.heap.size, 1, none⟩) hN).trans HX.out.c1)
    by_cases hlt : k < G.lats.length
    · obtain ⟨z, hz⟩ := getElem_lt hlt
      obtain ⟨rb, ro, ea, hrb, hrc⟩ := HAW.out.l.el hz
      have hrbW : rb < W.heap.size := Nat.lt_of_lt_of_le hrb hBW
      have c0 : wr.cell? ⟨rb, ro + k * 2, none⟩ = some (.int .i64 z.next) := (HBr.out.cell (p := ⟨rb, ro + k * 2, none⟩) (Nat.lt_of_lt_of_le hrbW HBV.out.size)).trans ((HBV.out.cell (p := ⟨rb, ro + k * 2, none⟩) hrbW).trans (hrc 0 _ rfl))
      rw [ea] at qR
      have hin := HLI.out k z hz
      have HNX : Hid (((G.lats.take (k + 1)).map (fun d => litV vs d.next)).map bV = ((G.lats.take k).map (fun d => litV vs d.next)).map bV ++ [.bool (litV vs z.next)]) := by
        show _ = _
        rw [take_next _ k z hz, List.map_append, List.map_append]; rfl
      have LX : Hid (Calls Try.prog 44 #[.slice av vs.length cv, .int .i64 z.next] wr fun e w' => e = .returned (.bool (litV vs z.next)) ∧ w' = wr) := lit_any wr av cv vs (((HRV.out).to (HBr.out)).mono HBr.out.size) HVL.out z.next hin
      generalize litV vs z.next = bx at *
      generalize z.next = x at *
      have hltI : (k : Int) < (G.lats.length : Int) := by omega
      have e3 : IntKind.i64.wrap ((k : Int) + 1) = (k : Int) + 1 := wrapI _ (by omega) (by omega)
      have hm1 : k + 1 ≤ maxLen := by simp only [maxLen]; omega
      have hm2 : (k + 1) * 1 ≤ 140737488355328 := by omega
      have hsz := HBr.out.size
      have hm3 : V.heap.size ≤ (wr.alloc (.cells #[.bool bx] 4)).heap.size := by simp; omega
      clear hrc ea hz hrb hin
      go_wp2_with fail
      go_at_call 44
      refine LX.out.mono ?_
      rintro e w2 ⟨rfl, rfl⟩
      have tok : True := trivial
      go_wp2_with (have _t := tok; at_builtin; (refine wpList_append_lies _ rfl (.tmp 24) (.tmp 33) 30 rfl V.heap.size 4 ib _ 1 1 Try.underlying30 HI.out HZ.out HS.out HBY.out rfl (by decide) u9 k _ rfl (HO.out.alloc _) ⟨w2.heap.size, 0, none⟩ 1 1 [.bool bx] rfl rfl (World.news_of_block (heap_new _ _)) (by simp [Value.oneCell']) (by decide) hm1 hm2 hm3 _ rfl ?_; intro g cap w5 hown hgrow hat5 hlt5; clear tok))
      have HO5 : Hid (w5.ownsRow V.heap.size 4 1 (.slice (some ⟨g, 0, none⟩) (k + 1) cap) (k + 1) (((G.lats.take (k + 1)).map (fun d => litV vs d.next)).map bV)) := by
        show World.ownsRow _ _ _ _ _ _ _
        rw [HNX.out]
        exact hown
      have HB5 : Hid (Below V.heap.size V w5) := grown_plain HBr.out HO.out hgrow
      clear hown hgrow hat5 hlt5 hm1 hm2 hm3 HO HBr HNX LX
      go_wp2
      go_roundw
      case measure => simp [intOf]; omega
      case rel => exact ⟨k + 1, by omega, by simp, HO5.out, HB5.out⟩
    · have hge : ¬ ((k : Int) < (G.lats.length : Int)) := by omega
      have HNR : Hid (wr.ownsRow V.heap.size 4 1 u9 G.lats.length ((nextN G vs).map bV)) := by
        have := HO.out
        rw [List.take_of_length_le (by omega), show k = G.lats.length by omega] at this
        exact this
      clear HO
      obtain ⟨U, hU⟩ : ∃ U, U = wr := ⟨_, rfl⟩
      subst hU
      have HU := hidden HBr.out
      have HBU : Hid (Below W.heap.size W U) := HBV.out.trans (HBr.out.mono HBV.out.size)
      obtain ⟨vn, hvn⟩ : ∃ vn, vn = u9 := ⟨_, rfl⟩
      subst hvn
      clear HBr
      go_wp2_with fail
      go_loopw [10, 12] (fun v i' w' => ∃ (k : Nat), k ≤ G.outs.length ∧ i' = .int .i64 k ∧ Hid (w'.ownsRow U.heap.size 4 1 v k (((G.outs.take k).map (litV vs)).map bV)) ∧ Hid (Below U.heap.size U w')) (fun _ i' _ => G.outs.length - (intOf i').toNat)
      case atStart => exact ⟨0, Nat.zero_le _, rfl, World.ownsRow_nil _ _ _ _, Below.refl _ _⟩
      case round =>
        obtain ⟨k, hk, rfl, HO, HBr⟩ := hrel
        have qR := (HBr.out.cell (p := ⟨w.heap.size, 3, none⟩) (Nat.lt_of_lt_of_le hN HBU.out.size)).trans ((HBU.out.cell (p := ⟨w.heap.size, 3, none⟩) hN).trans HX.out.c3)
        by_cases hlt : k < G.outs.length
        · obtain ⟨z, hz⟩ := getElem_lt hlt
          obtain ⟨rb, ro, ea, hrb, hrc⟩ := HAW.out.o.el hz
          have hrbW : rb < W.heap.size := Nat.lt_of_lt_of_le hrb hBW
          have c0 : wr.cell? ⟨rb, ro + k, none⟩ = some (.int .i64 z) := (HBr.out.cell (p := ⟨rb, ro + k, none⟩) (Nat.lt_of_lt_of_le hrbW HBU.out.size)).trans ((HBU.out.cell (p := ⟨rb, ro + k, none⟩) hrbW).trans (by have := hrc 0 _ rfl; simpa using this))
          rw [ea] at qR
          have hin := HOI.out k z hz
          have HNX : Hid (((G.outs.take (k + 1)).map (litV vs)).map bV = ((G.outs.take k).map (litV vs)).map bV ++ [.bool (litV vs z)]) := by
            show _ = _
            rw [take_next _ k z hz, List.map_append, List.map_append]; rfl
          have LX : Hid (Calls Try.prog 44 #[.slice av vs.length cv, .int .i64 z] wr fun e w' => e = .returned (.bool (litV vs z)) ∧ w' = wr) := lit_any wr av cv vs ((((HRV.out.to HU.out).mono HU.out.size).to (HBr.out)).mono HBr.out.size) HVL.out z hin
          generalize litV vs z = bx at *
          
          have hltI : (k : Int) < (G.outs.length : Int) := by omega
          have e3 : IntKind.i64.wrap ((k : Int) + 1) = (k : Int) + 1 := wrapI _ (by omega) (by omega)
          have hm1 : k + 1 ≤ maxLen := by simp only [maxLen]; omega
          have hm2 : (k + 1) * 1 ≤ 140737488355328 := by omega
          have hsz := HBr.out.size
          have hm3 : U.heap.size ≤ (wr.alloc (.cells #[.bool bx] 4)).heap.size := by simp; omega
          clear hrc ea hz hrb hin
          go_wp2_with fail
          go_at_call 44
          refine LX.out.mono ?_
          rintro e w2 ⟨rfl, rfl⟩
          have tok : True := trivial
          go_wp2_with (have _t := tok; at_builtin; (refine wpList_append_lies _ rfl (.tmp 42) (.tmp 50) 30 rfl U.heap.size 4 ib _ 1 1 Try.underlying30 HI.out HZ.out HS.out HBY.out rfl (by decide) u10 k _ rfl (HO.out.alloc _) ⟨w2.heap.size, 0, none⟩ 1 1 [.bool bx] rfl rfl (World.news_of_block (heap_new _ _)) (by simp [Value.oneCell']) (by decide) hm1 hm2 hm3 _ rfl ?_; intro g cap w5 hown hgrow hat5 hlt5; clear tok))
          have HO5 : Hid (w5.ownsRow U.heap.size 4 1 (.slice (some ⟨g, 0, none⟩) (k + 1) cap) (k + 1) (((G.outs.take (k + 1)).map (litV vs)).map bV)) := by
            show World.ownsRow _ _ _ _ _ _ _
            rw [HNX.out]
            exact hown
          have HB5 : Hid (Below U.heap.size U w5) := grown_plain HBr.out HO.out hgrow
          clear hown hgrow hat5 hlt5 hm1 hm2 hm3 HO HBr HNX LX
          go_wp2
          go_roundw
          case measure => simp [intOf]; omega
          case rel => exact ⟨k + 1, by omega, by simp, HO5.out, HB5.out⟩
        · have hge : ¬ ((k : Int) < (G.outs.length : Int)) := by omega
          have HOR : Hid (wr.ownsRow U.heap.size 4 1 u10 G.outs.length ((outN G vs).map bV)) := by
            have := HO.out
            rw [List.take_of_length_le (by omega), show k = G.outs.length by omega] at this
            exact this
          clear HO
          go_wp2
          refine bodyPost_ret (v := .tuple #[vn, u10]) (by simp [results, Try.results24, go_sem]) rfl ?_
          have hw : w.heap.size ≤ V.heap.size := Nat.le_trans HB.out.size HBV.out.size
          exact ⟨_, _, rfl, own_mono (own_below HNR.out HBr.out) hw, own_mono HOR.out (Nat.le_trans hw HU.out.size), HB.out.trans ((HBU.out.trans (HBr.out.mono HBU.out.size)).mono HB.out.size)⟩

end Go.Proofs.Ytlaljeobdddegaa
