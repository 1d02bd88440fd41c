import Derived.Test.YtlaljeobdddegaaAgO
import Derived.Deep.RegionHeld3
namespace Go.Proofs.Ytlaljeobdddegaa
open Go.RowKit

theorem sees_of {W w' : World} (h : Below W.heap.size W w') : Below W.heap.size W w' ∧ (∀ b' o, b' < W.heap.size → w'.cell? ⟨b', o, none⟩ = W.cell? ⟨b', o, none⟩) := ⟨h, fun b' o hb => h.cell (p := ⟨b', o, none⟩) hb⟩
theorem sees_after {W a b : World} (h : Below W.heap.size W a ∧ (∀ b' o, b' < W.heap.size → a.cell? ⟨b', o, none⟩ = W.cell? ⟨b', o, none⟩)) (hb : Below a.heap.size a b) : Below W.heap.size W b ∧ (∀ b' o, b' < W.heap.size → b.cell? ⟨b', o, none⟩ = W.cell? ⟨b', o, none⟩) :=
  sees_of (h.1.trans (hb.mono h.1.size))
/-- a row of a trace -/
structure TR where
  a : Option Addr
  c : Nat
  l : List Bool
def TR.cells (t : TR) : List Value := [.slice t.a t.l.length t.c]
structure TrAt (B : Nat) (w : World) (a : Option Addr) (trs : List TR) : Prop where
  row : RowAt B w a 1 (trs.map TR.cells)
  each : ∀ t, t ∈ trs → RowAt B w t.a 1 (t.l.map bC)
  len : trs.length ≤ 5864062014805
theorem TrAt.to {B : Nat} {w w' : World} {a : Option Addr} {trs : List TR} (h : TrAt B w a trs) (hb : Below B w w') : TrAt B w' a trs := ⟨h.row.to hb, fun t ht => (h.each t ht).to hb, h.len⟩
theorem TrAt.mono {B B' : Nat} {w : World} {a : Option Addr} {trs : List TR} (h : TrAt B w a trs) (hb : B ≤ B') : TrAt B' w a trs := ⟨h.row.mono hb, fun t ht => (h.each t ht).mono hb, h.len⟩
/-- a row that is told -/
structure RD where
  v : Value
  l : List Bool
/-- they lie in other blocks -/
def Far (a b : Value) : Prop := ∀ x, a.ownBlock = some x → b.ownBlock ≠ some x
theorem BS.blk {w : World} {v : Value} {l : List Bool} (h : BS w v l) : ∀ x, v.ownBlock = some x → x < w.heap.size := by
  intro x hx
  rcases h with ⟨rfl, _⟩ | ⟨b, o, c, rfl, hlt, _⟩
  · cases hx
  · cases hx; exact hlt
theorem BS.kept {w w' : World} {v : Value} {l : List Bool} {row : Option Nat} (h : BS w v l) (hg : w.grownBy w' row) (hne : ∀ x, row = some x → v.ownBlock ≠ some x) : BS w' v l := by
  rcases h with h | ⟨b, o, c, rfl, hlt, hc⟩
  · exact .inl h
  · refine .inr ⟨b, o, c, rfl, Nat.lt_of_lt_of_le hlt hg.size, fun i x hx => ?_⟩
    refine (World.cell?_of_block (w := w) (a := ⟨b, o + i, none⟩) (hg.block b hlt ?_)).trans (hc i x hx)
    intro e
    exact hne b e.symm rfl
theorem Far.new {w : World} {a b : Value} {l : List Bool} (h : Far a b) (hb : BS w b l) {g H m cap : Nat} (hg : a.ownBlock = some g ∨ g = H) (hH : w.heap.size ≤ H) : Far (.slice (some ⟨g, 0, none⟩) m cap) b := by
  intro x hx
  have e : g = x := by cases hx; rfl
  subst e
  rcases hg with hg | hg
  · exact h g hg
  · intro hb2
    have := hb.blk g hb2
    omega
theorem far_own {w w' : World} {C e e' n m C' : Nat} {a b : Value} {xs ys : List Value} (ha : w.ownsRow C e 1 a n xs) (hb : w'.ownsRow C' e' 1 b m ys) (hC : w.heap.size ≤ C') : Far a b := by
  intro x hx hy
  have h1 := (ha.lt x hx).2
  have h2 := (hb.lt x hy).1
  omega

set_option maxRecDepth 100000 in
set_option maxHeartbeats 8000000 in
theorem graphRun_any (B : Nat) (w : World) (S : GrS) (G : GrD) (h : GrAt B w S G) (hB : B ≤ w.heap.size) (hs : G.small) (ha : AndsIn G) (hli : LatsIn G (1 + G.ins.toNat + G.lats.length + G.ands.length)) (hoi : OutsIn G (1 + G.ins.toNat + G.lats.length + G.ands.length)) (ta : Option Addr) (tc : Nat) (trs : List TR) (ht : TrAt B w ta trs) :
    Calls Try.prog 13 #[.agg (S.cells G), .slice ta trs.length tc] w fun e w' => ∃ v, ∃ rows : List RD, e = .returned v ∧ w'.ownsRow w.heap.size 30 1 v trs.length (rows.map RD.v) ∧ rows.map RD.l = runN G (trs.map TR.l) (initN G) ∧ (∀ r, r ∈ rows → BS w' r.v r.l) ∧ Below w.heap.size w w' := by
  have STS : Hid (∀ w', Below w.heap.size w w' → Calls Try.prog 10 #[.agg (S.cells G)] w' fun e w'' => ∃ v, e = .returned v ∧ w''.ownsRow w'.heap.size 4 1 v G.lats.length ((initN G).map bV) ∧ Below w'.heap.size w' w'') := fun w' hw' => states_any B w' S G (h.to (hw'.mono hB)) (Nat.le_trans hB hw'.size)
  have NXT : Hid (∀ w', Below w.heap.size w w' → ∀ (t : TR), t ∈ trs → ∀ (st : List Bool), st.length = G.lats.length → ∀ sv, BS w' sv st → Calls Try.prog 24 #[.agg (S.cells G), .slice t.a t.l.length t.c, sv] w' fun e w'' => ∃ vn vo, e = .returned (.tuple #[vn, vo]) ∧ w''.ownsRow w'.heap.size 4 1 vn G.lats.length ((nextN G (cycN G t.l st)).map bV) ∧ w''.ownsRow w'.heap.size 4 1 vo G.outs.length ((outN G (cycN G t.l st)).map bV) ∧ Below w'.heap.size w' w'') :=
    fun w' hw' t htm st hst sv hsv => next_any B w' S G (h.to (hw'.mono hB)) (Nat.le_trans hB hw'.size) hs ha hli hoi t.l st hst t.a t.c ((ht.each t htm).to (hw'.mono hB)) sv hsv
  have HT : Hid (RowAt B w ta 1 (trs.map TR.cells)) := ht.row
  have hlen := ht.len
  have HIL : Hid ((initN G).length = G.lats.length) := by show _ = _; unfold initN; simp
  obtain ⟨i0, HI0⟩ : ∃ i0, Hid (initN G = i0) := ⟨_, rfl⟩
  rw [HI0.out] at STS HIL ⊢
  unfold GrS.cells at *
  clear ha hli hoi hs ht
  obtain ⟨ib, hib, hzb, hsb, hbb⟩ := info_sl
  have HI := hidden hib
  have HZ := hidden hzb
  have HS := hidden hsb
  have HBY := hidden hbb
  clear hib hzb hsb hbb
  go_enter Try.func13, Try.ntmps13
  go_upto_region 1 with fail
  generalize hW : World.alloc w _ = W
  have HB : Hid (Below w.heap.size w W) := by rw [← hW]; exact (Below.refl _ _).alloc (Nat.le_refl _) _
  have hN : w.heap.size < W.heap.size := by rw [← hW]; simp
  have HX : Hid (BoxAt W w.heap.size S G) := by
    rw [← hW]
    exact ⟨by simp, by simp, by simp, by simp, by simp⟩
  have HAW : Hid (GrAt B W S G) := h.to (HB.out.mono hB)
  have hBW : B ≤ W.heap.size := Nat.le_trans hB HB.out.size
  clear hW h
  have q0 := HX.out.c0
  have q1 := HX.out.c1
  have q2 := HX.out.c2
  have q3 := HX.out.c3
  go_wp2_with (go_at_call 10; refine (STS.out _ HB.out).mono ?_; rintro e V ⟨v, rfl, hov, hbv⟩; have HBV := hidden hbv; have HOV := hidden (BS.of hov); clear hov hbv)
  clear q0 q1 q2 q3 STS
  go_loopw [5, 6, 7] (fun sv all i' w' => ∃ (k : Nat) (rows : List RD), k ≤ trs.length ∧ i' = .int .i64 k ∧ Hid (BS w' sv (stN G i0 ((trs.take k).map TR.l))) ∧ Hid (w'.ownsRow W.heap.size 30 1 all k (rows.map RD.v)) ∧ Hid (rows.map RD.l = runN G ((trs.take k).map TR.l) i0) ∧ Hid (∀ r, r ∈ rows → BS w' r.v r.l ∧ Far all r.v) ∧ Hid (Far all sv) ∧ Hid (Below W.heap.size W w')) (fun _ _ i' _ => trs.length - (intOf i').toNat)
  case atStart =>
    exact ⟨0, [], Nat.zero_le _, rfl, HOV.out, World.ownsRow_nil _ _ _ _, rfl, fun r hr => by simp at hr, fun x hx => (by cases hx), HBV.out⟩
  case round =>
    obtain ⟨k, rows, hk, rfl, HSV, HO, HRL, HRB, HFS, HBr⟩ := hrel
    have hNr : w.heap.size < wr.heap.size := Nat.lt_of_lt_of_le hN HBr.out.size
    have q0 := (HBr.out.cell (p := ⟨w.heap.size, 0, none⟩) hN).trans HX.out.c0
    have q1 := (HBr.out.cell (p := ⟨w.heap.size, 1, none⟩) hN).trans HX.out.c1
    have q2 := (HBr.out.cell (p := ⟨w.heap.size, 2, none⟩) hN).trans HX.out.c2
    have q3 := (HBr.out.cell (p := ⟨w.heap.size, 3, none⟩) hN).trans HX.out.c3
    by_cases hlt : k < trs.length
    · obtain ⟨t, hz⟩ := getElem_lt hlt
      obtain ⟨tb, to, ea, htb, htc⟩ := (HT.out.to (HB.out.mono hB)).el hz
      have htbr : tb < wr.heap.size := Nat.lt_of_lt_of_le (Nat.lt_of_lt_of_le htb hBW) HBr.out.size
      have c0 : wr.cell? ⟨tb, to + k, none⟩ = some (.slice t.a t.l.length t.c) := (HBr.out.cell (p := ⟨tb, to + k, none⟩) (Nat.lt_of_lt_of_le htb hBW)).trans (by have := htc 0 _ rfl; simpa using this)
      subst ea
      have hltI : (k : Int) < (trs.length : Int) := by omega
      have e3 : IntKind.i64.wrap ((k : Int) + 1) = (k : Int) + 1 := wrapI _ (by omega) (by omega)
      obtain ⟨st, HST⟩ : ∃ st, Hid (stN G i0 ((trs.take k).map TR.l) = st) := ⟨_, rfl⟩
      have hsl : st.length = G.lats.length := by rw [← HST.out]; exact st_length G _ _ HIL.out
      have HSV2 : Hid (BS wr u5 st) := by have := HSV.out; rwa [HST.out] at this
      have HNS : Hid (stN G i0 ((trs.take (k + 1)).map TR.l) = nextN G (cycN G t.l st)) := by
        show _ = _
        rw [take_next _ k t hz, List.map_append, show [t].map TR.l = [t.l] from rfl, st_snoc, HST.out]
      have HNR : Hid (runN G ((trs.take (k + 1)).map TR.l) i0 = runN G ((trs.take k).map TR.l) i0 ++ [outN G (cycN G t.l st)]) := by
        show _ = _
        rw [take_next _ k t hz, List.map_append, show [t].map TR.l = [t.l] from rfl, run_snoc, HST.out]
      have NX : Hid (∀ w', Below wr.heap.size wr w' → Calls Try.prog 24 #[.agg #[.int .i64 G.ins, .slice S.a1 G.lats.length S.c1, .slice S.a2 G.ands.length S.c2, .slice S.a3 G.outs.length S.c3], .slice t.a t.l.length t.c, u5] w' fun e w'' => ∃ vn vo, e = .returned (.tuple #[vn, vo]) ∧ w''.ownsRow w'.heap.size 4 1 vn G.lats.length ((nextN G (cycN G t.l st)).map bV) ∧ w''.ownsRow w'.heap.size 4 1 vo G.outs.length ((outN G (cycN G t.l st)).map bV) ∧ Below w'.heap.size w' w'') :=
        fun w' hw' => NXT.out w' (HB.out.trans ((HBr.out.trans (hw'.mono HBr.out.size)).mono HB.out.size)) t (List.mem_of_getElem? hz) st hsl u5 (HSV2.out.to hw')
      clear hz htc HSV
      generalize nextN G (cycN G t.l st) = nx at *
      generalize outN G (cycN G t.l st) = ox at *
      generalize t.l.length = tl at *
      generalize t.a = tA at *
      generalize t.c = tC at *
      go_wp2_with fail
      go_region_held3 (fun w' => Below wr.heap.size wr w' ∧ (∀ b' o, b' < wr.heap.size → w'.cell? ⟨b', o, none⟩ = wr.cell? ⟨b', o, none⟩))
        (first | assumption | exact sees_of (Below.refl _ _) | exact sees_of (Below.refl _ _).drew | exact sees_after (by assumption) (by assumption))
        (first | (go_at_call 24; refine (NX.out _ (And.left (by assumption))).mono ?_; rintro e w2 ⟨vn, vo, rfl, hn2, ho2, hb2⟩))
      all_goals
        obtain ⟨pre, HPW, HN2, HO2, HB2⟩ : ∃ pre : World, Hid (Below wr.heap.size wr pre) ∧ Hid (w2.ownsRow pre.heap.size 4 1 vn G.lats.length (nx.map bV)) ∧ Hid (w2.ownsRow pre.heap.size 4 1 vo G.outs.length (ox.map bV)) ∧ Hid (Below pre.heap.size pre w2) := by
          refine ⟨_, ?_, hn2, ho2, hb2⟩
          first | exact And.left (by assumption) | exact (Below.refl _ _).drew | exact Below.refl _ _
        clear hn2 ho2 hb2
        obtain ⟨oa, oc, hvo, -⟩ := (BS.of HO2.out).row
        subst hvo
        have HBW : Hid (Below wr.heap.size wr w2) := HPW.out.trans (HB2.out.mono HPW.out.size)
        have HO3 : Hid (w2.ownsRow W.heap.size 30 1 u6 k (rows.map RD.v)) := own_below HO.out HBW.out
        have HRB3 : Hid (∀ r, r ∈ rows → BS w2 r.v r.l ∧ Far u6 r.v) := fun r hr => ⟨(HRB.out r hr).1.to HBW.out, (HRB.out r hr).2⟩
        have HFN : Hid (Far u6 vn) := far_own HO.out HN2.out HPW.out.size
        have HFO : Hid (Far u6 (.slice oa ox.length oc)) := far_own HO.out HO2.out HPW.out.size
        have HBN : Hid (BS w2 vn nx) := BS.of HN2.out
        have HBO : Hid (BS w2 (.slice oa ox.length oc) ox) := BS.of HO2.out
        have HW2 : Hid (Below W.heap.size W w2) := HBr.out.trans (HBW.out.mono HBr.out.size)
        have hsz := HW2.out.size
        have hm1 : k + 1 ≤ maxLen := by simp only [maxLen]; omega
        have hm2 : (k + 1) * 24 ≤ 140737488355328 := by omega
        have hm3 : W.heap.size ≤ (w2.alloc (.cells #[.slice oa ox.length oc] 30)).heap.size := by simp; omega
        clear HN2 HO2 HPW HB2 HBW HO HRB NX q0 q1 q2 q3 c0 HSV2
        have tok : True := trivial
        go_wp2_with (have _t := tok; at_builtin; (refine wpList_append_lies _ rfl (.tmp 28) (.tmp 30) 27 rfl W.heap.size 30 ib _ 1 24 Try.underlying27 HI.out HZ.out HS.out HBY.out rfl (by decide) u6 k _ rfl (HO3.out.alloc _) ⟨w2.heap.size, 0, none⟩ 1 1 [.slice oa ox.length oc] rfl rfl (World.news_of_block (heap_new _ _)) (by simp [Value.oneCell']) (by decide) hm1 hm2 hm3 _ rfl ?_; intro g cap w5 hown hgrow hat5 hlt5; clear tok))
        have HAL : Hid (∀ v l, BS w2 v l → Far u6 v → BS w5 v l ∧ Far (.slice (some ⟨g, 0, none⟩) (k + 1) cap) v) := fun v l hv hf => by
          have hv1 : BS (w2.alloc (.cells #[.slice oa ox.length oc] 30)) v l := hv.to ((Below.refl _ _).alloc (Nat.le_refl _) _)
          exact ⟨hv1.kept hgrow hf, hf.new hv1 hat5 (Nat.le_refl _)⟩
        have HO5 : Hid (w5.ownsRow W.heap.size 30 1 (.slice (some ⟨g, 0, none⟩) (k + 1) cap) (k + 1) ((rows ++ [(RD.mk (.slice oa ox.length oc) ox)]).map RD.v)) := by
          show World.ownsRow _ _ _ _ _ _ _
          rw [List.map_append]
          exact hown
        have HB5 : Hid (Below W.heap.size W w5) := grown_plain HW2.out HO3.out hgrow
        have HR5 : Hid (∀ r, r ∈ rows ++ [(RD.mk (.slice oa ox.length oc) ox)] → BS w5 r.v r.l ∧ Far (.slice (some ⟨g, 0, none⟩) (k + 1) cap) r.v) := by
          intro r hr
          rcases List.mem_append.1 hr with hr | hr
          · exact HAL.out _ _ (HRB3.out r hr).1 (HRB3.out r hr).2
          · rw [List.mem_singleton.1 hr]
            exact HAL.out _ _ HBO.out HFO.out
        have HN5 := hidden (HAL.out _ _ HBN.out HFN.out)
        have HL5 : Hid ((rows ++ [(RD.mk (.slice oa ox.length oc) ox)]).map RD.l = runN G ((trs.take (k + 1)).map TR.l) i0) := by
          show _ = _
          rw [List.map_append, HNR.out, HRL.out]; rfl
        have HS5 : Hid (BS w5 vn (stN G i0 ((trs.take (k + 1)).map TR.l))) := by
          show BS _ _ _
          rw [HNS.out]; exact HN5.out.1
        clear hown hgrow hat5 hlt5 hm1 hm2 hm3 HO3 HW2 HAL HRL HNR HNS HBO HFO HBN HFN HRB3 HFS HBr
        go_wp2
        go_roundw
        case measure => simp [intOf]; omega
        case rel => exact ⟨k + 1, _, by omega, by simp, HS5.out, HO5.out, HL5.out, HR5.out, HN5.out.2, HB5.out⟩
    · have hge : ¬ ((k : Int) < (trs.length : Int)) := by omega
      have HO6 : Hid (wr.ownsRow W.heap.size 30 1 u6 trs.length (rows.map RD.v)) := by
        have := HO.out
        rwa [show k = trs.length by omega] at this
      have HL6 : Hid (rows.map RD.l = runN G (trs.map TR.l) i0) := by
        have := HRL.out
        rwa [List.take_of_length_le (by omega)] at this
      clear HO HRL
      go_wp2
      go_ret
      exact ⟨_, rfl, rows, own_mono HO6.out HB.out.size, HL6.out, fun r hr => (HRB.out r hr).1, HB.out.trans (HBr.out.mono HB.out.size)⟩

end Go.Proofs.Ytlaljeobdddegaa
