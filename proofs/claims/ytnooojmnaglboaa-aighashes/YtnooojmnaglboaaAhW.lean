import Derived.Test.YtnooojmnaglboaaAhV
import Derived.Test.YtnooojmnaglboaaAhS
import Derived.Test.YtnooojmnaglboaaAhN
namespace Go.Proofs.Ytnooojmnaglboaa
open Go.RowKit

theorem hash_ins (G : GrD) : (hashG G).ins = G.ins := rfl
theorem hash_lats (G : GrD) : (hashG G).lats.length = G.lats.length := by unfold hashG; simp
theorem hash_outs (G : GrD) : (hashG G).outs.length = G.outs.length := by unfold hashG; simp
theorem hash_init (G : GrD) : initN (hashG G) = initN G := by
  unfold initN hashG
  apply List.ext_getElem?
  intro i
  simp only [List.getElem?_map]
  cases G.lats[i]? <;> rfl

set_option maxRecDepth 100000 in
set_option maxHeartbeats 8000000 in
theorem lawHashed_any (B : Nat) (w : World) (S : GrS) (G : GrD) (h : GrAt B w S G) (hB : B ≤ w.heap.size) (ta : Option Addr) (tc : Nat) (trs : List TR) (ht : TrAt B w ta trs) :
    Calls Try.prog 4 #[.agg (S.cells G), .slice ta trs.length tc] w fun e w' => e = .returned (.bool true) ∧ Below w.heap.size w w' := by
  obtain ⟨r, HR⟩ : ∃ r, Hid (GrOk G = r) := ⟨_, rfl⟩
  obtain ⟨H, HH⟩ : ∃ H, Hid (hashG G = H) := ⟨_, rfl⟩
  have VL : Hid (∀ w', Below w.heap.size w w' → Calls Try.prog 6 #[.agg (S.cells G)] w' fun e w'' => e = .returned (.bool r) ∧ Below w'.heap.size w' w'') := fun w' hw' => by
    have := graphValid_any B w' S G (h.to (hw'.mono hB)) (Nat.le_trans hB hw'.size)
    rw [HR.out] at this
    exact this
  have HA : Hid (r = true → ∀ w', Below w.heap.size w w' → Calls Try.prog 7 #[.agg (S.cells G)] w' fun e w'' => (∃ T, e = .returned (.agg (T.cells H)) ∧ GrAt w''.heap.size w'' T H) ∧ Below w'.heap.size w' w'') := fun hr w' hw' => by
    rw [← HH.out]
    exact hash_any B w' S G (h.to (hw'.mono hB)) (Nat.le_trans hB hw'.size) (HR.out.trans hr)
  have VH : Hid (r = true → ∀ (w' : World) (T : GrS), GrAt w'.heap.size w' T H → Calls Try.prog 6 #[.agg (T.cells H)] w' fun e w'' => e = .returned (.bool true) ∧ Below w'.heap.size w' w'') := fun hr w' T hT => by
    have := graphValid_any w'.heap.size w' T H hT (Nat.le_refl _)
    obtain ⟨ni, n, hF⟩ := fine_of (HR.out.trans hr)
    rw [← HH.out, hash_valid hF] at this
    rw [← HH.out]
    exact this
  have HW : Hid (r = true → H.ands.length ≤ G.ands.length) := fun hr => by
    obtain ⟨ni, n, hF⟩ := fine_of (HR.out.trans hr)
    rw [← HH.out]; exact hash_few hF
  have HD : Hid (r = true → ∀ (w' : World) (T : GrS), GrAt w'.heap.size w' T H → Calls Try.prog 8 #[.agg (T.cells H)] w' fun e w'' => e = .returned (.bool true) ∧ Below w'.heap.size w' w'') := fun hr w' T hT => by
    obtain ⟨ni, n, hF⟩ := fine_of (HR.out.trans hr)
    refine refHashed_any w'.heap.size w' T H hT (Nat.le_refl _) (firstN G) ?_ ?_
    · rw [← HH.out]; exact (hash_ok hF).hs
    · rw [← HH.out]
      have := hash_few hF
      have := hF.all
      have := hF.le
      omega
  have AL : Hid (r = true → ∀ (w' : World) (T : GrS), Below w.heap.size w w' → GrAt w'.heap.size w' T H → Calls Try.prog 9 #[.agg (S.cells G), .agg (T.cells H), .slice ta trs.length tc] w' fun e w'' => e = .returned (.bool true) ∧ Below w'.heap.size w' w'') := fun hr w' T hw' hT => by
    obtain ⟨ni, n, hF⟩ := fine_of (HR.out.trans hr)
    refine alike_any w'.heap.size w' S T G H ((h.to (hw'.mono hB)).mono (Nat.le_trans hB hw'.size)) hT (Nat.le_refl _) (HR.out.trans hr) ?_ ?_ ?_ ?_ ?_ ?_ ta tc trs ((ht.to (hw'.mono hB)).mono (Nat.le_trans hB hw'.size))
    · rw [← HH.out]; exact hash_valid hF
    · rw [← HH.out]; exact hash_ins G
    · rw [← HH.out]; exact hash_lats G
    · rw [← HH.out]; exact hash_outs G
    · rw [← HH.out]; exact hash_init G
    · intro row st hst
      rw [← HH.out]; exact hash_same hF row st hst
  unfold GrS.cells at *
  clear h HR HH ht
  generalize trs.length = tn at *
  go_enter Try.func4, Try.ntmps4
  go_upto_region 1 with fail
  generalize hW : World.alloc w _ = W0
  obtain ⟨gx, hgx⟩ : ∃ x, x = w.heap.size := ⟨_, rfl⟩
  have HB0 : Hid (Below w.heap.size w W0) := by rw [← hW]; exact (Below.refl _ _).alloc (Nat.le_refl _) _
  have hN : gx < W0.heap.size := by rw [← hW, hgx]; simp
  have HX : Hid (BoxAt W0 gx S G) := by
    rw [← hW, hgx]
    exact ⟨by simp, by simp, by simp, by simp, by simp⟩
  rw [← hgx]
  have hgw : w.heap.size ≤ gx := by omega
  clear hW hgx
  have q0 := HX.out.c0
  have q1 := HX.out.c1
  have q2 := HX.out.c2
  have q3 := HX.out.c3
  go_wp2_with fail
  go_at_call 6
  refine (VL.out _ HB0.out).mono ?_
  rintro e w1 ⟨rfl, hb1⟩
  have HX1 := hidden (HX.out.to hN hb1)
  have hN1 : gx < w1.heap.size := HX1.out.lt
  have HBw1 : Hid (Below w.heap.size w w1) := HB0.out.trans (hb1.mono HB0.out.size)
  clear q0 q1 q2 q3 hb1 HX VL
  cases r
  · clear HA VH HD AL HW
    go_wp2
    go_ret
    exact ⟨rfl, HBw1.out⟩
  · have CN' := hidden (HA.out rfl w1 HBw1.out)
    have VH1 := hidden (VH.out rfl)
    have HD1 := hidden (HD.out rfl)
    have AL1 := hidden (AL.out rfl)
    have hfew := HW.out rfl
    have q0 := HX1.out.c0
    have q1 := HX1.out.c1
    have q2 := HX1.out.c2
    have q3 := HX1.out.c3
    clear HA VH HD AL HW
    go_wp2_with fail
    go_at_call 7
    refine CN'.out.mono ?_
    rintro e w2 ⟨⟨T, rfl, hat2⟩, hb2⟩
    have HT2 := hidden hat2
    have HX2 := hidden (HX1.out.to hN1 hb2)
    have HBw2 : Hid (Below w.heap.size w w2) := HBw1.out.trans (hb2.mono HBw1.out.size)
    clear q0 q1 q2 q3 hat2 hb2 CN' HX1
    go_upto_region 5 with fail
    generalize hW : World.alloc w2 _ = W
    obtain ⟨hx, hhx⟩ : ∃ x, x = w2.heap.size := ⟨_, rfl⟩
    have HBW2 : Hid (Below w2.heap.size w2 W) := by rw [← hW]; exact (Below.refl _ _).alloc (Nat.le_refl _) _
    have HC : Hid (∀ j, W.cell? ⟨hx, j, none⟩ = (#[.int .i64 H.ins, .slice T.a1 H.lats.length T.c1, .slice T.a2 H.ands.length T.c2, .slice T.a3 H.outs.length T.c3] : Array Value)[j]?) := by
      rw [← hW, hhx]; intro j; exact cell_new rfl
    have hxl : hx < W.heap.size := by rw [← hW, hhx]; simp
    rw [← hhx]
    clear hW hhx
    have HXW := hidden (HX2.out.to HX2.out.lt HBW2.out)
    have hgl : gx < W.heap.size := HXW.out.lt
    have HAT : Hid (GrAt W.heap.size W T H) := (HT2.out.to HBW2.out).mono HBW2.out.size
    have HBW : Hid (Below w.heap.size w W) := HBw2.out.trans (HBW2.out.mono HBw2.out.size)
    have h0 := HC.out 0
    have h1 := HC.out 1
    have h2 := HC.out 2
    have h3 := HC.out 3
    simp at h0 h1 h2 h3
    have q0 := HXW.out.c0
    have q1 := HXW.out.c1
    have q2 := HXW.out.c2
    have q3 := HXW.out.c3
    have K8 : Hid (∀ w', Below W.heap.size W w' → w'.cell? ⟨hx, 0, none⟩ = some (.int .i64 H.ins) ∧ w'.cell? ⟨hx, 1, none⟩ = some (.slice T.a1 H.lats.length T.c1) ∧ w'.cell? ⟨hx, 2, none⟩ = some (.slice T.a2 H.ands.length T.c2) ∧ w'.cell? ⟨hx, 3, none⟩ = some (.slice T.a3 H.outs.length T.c3) ∧ w'.cell? ⟨gx, 0, none⟩ = some (.int .i64 G.ins) ∧ w'.cell? ⟨gx, 1, none⟩ = some (.slice S.a1 G.lats.length S.c1) ∧ w'.cell? ⟨gx, 2, none⟩ = some (.slice S.a2 G.ands.length S.c2) ∧ w'.cell? ⟨gx, 3, none⟩ = some (.slice S.a3 G.outs.length S.c3)) := fun w' hb => ⟨(hb.cell (p := ⟨hx, 0, none⟩) hxl).trans h0, (hb.cell (p := ⟨hx, 1, none⟩) hxl).trans h1, (hb.cell (p := ⟨hx, 2, none⟩) hxl).trans h2, (hb.cell (p := ⟨hx, 3, none⟩) hxl).trans h3, (hb.cell (p := ⟨gx, 0, none⟩) hgl).trans q0, (hb.cell (p := ⟨gx, 1, none⟩) hgl).trans q1, (hb.cell (p := ⟨gx, 2, none⟩) hgl).trans q2, (hb.cell (p := ⟨gx, 3, none⟩) hgl).trans q3⟩
    have VH2 : Hid (∀ (w' : World), GrAt w'.heap.size w' T H → Calls Try.prog 6 #[.agg #[.int .i64 H.ins, .slice T.a1 H.lats.length T.c1, .slice T.a2 H.ands.length T.c2, .slice T.a3 H.outs.length T.c3]] w' fun e w'' => e = .returned (.bool true) ∧ Below w'.heap.size w' w'') := fun w' hT => VH1.out w' T hT
    have HD2 : Hid (∀ (w' : World), GrAt w'.heap.size w' T H → Calls Try.prog 8 #[.agg #[.int .i64 H.ins, .slice T.a1 H.lats.length T.c1, .slice T.a2 H.ands.length T.c2, .slice T.a3 H.outs.length T.c3]] w' fun e w'' => e = .returned (.bool true) ∧ Below w'.heap.size w' w'') := fun w' hT => HD1.out w' T hT
    have AL2 : Hid (∀ (w' : World), Below w.heap.size w w' → GrAt w'.heap.size w' T H → Calls Try.prog 9 #[.agg #[.int .i64 G.ins, .slice S.a1 G.lats.length S.c1, .slice S.a2 G.ands.length S.c2, .slice S.a3 G.outs.length S.c3], .agg #[.int .i64 H.ins, .slice T.a1 H.lats.length T.c1, .slice T.a2 H.ands.length T.c2, .slice T.a3 H.outs.length T.c3], .slice ta tn tc] w' fun e w'' => e = .returned (.bool true) ∧ Below w'.heap.size w' w'') := fun w' hw' hT => AL1.out w' T hw' hT
    clear HC HX2 HXW HT2 HBW2 VH1 HD1 AL1 HBw1 HBw2
    go_wp2_with fail
    go_at_call 6
    refine (VH2.out _ HAT.out).mono ?_
    rintro e w3 ⟨rfl, hb3⟩
    clear h0 h1 h2 h3 q0 q1 q2 q3 VH2
    obtain ⟨h0, h1, h2, h3, q0, q1, q2, q3⟩ := K8.out _ hb3
    have HB3 := hidden hb3
    have HAT3 : Hid (GrAt w3.heap.size w3 T H) := (HAT.out.to hb3).mono hb3.size
    have hnf : ¬ ((G.ands.length : Int) < (H.ands.length : Int)) := by omega
    clear hb3 HAT
    go_wp2_with fail
    go_at_call 8
    refine (HD2.out _ HAT3.out).mono ?_
    rintro e w4 ⟨rfl, hb4⟩
    have HAT4 : Hid (GrAt w4.heap.size w4 T H) := (HAT3.out.to hb4).mono hb4.size
    have HB4 : Hid (Below W.heap.size W w4) := HB3.out.trans (hb4.mono HB3.out.size)
    clear h0 h1 h2 h3 q0 q1 q2 q3 HD2 hb4 HAT3 HB3
    obtain ⟨h0, h1, h2, h3, q0, q1, q2, q3⟩ := K8.out _ HB4.out
    have HBw4 : Hid (Below w.heap.size w w4) := HBW.out.trans (HB4.out.mono HBW.out.size)
    go_wp2_with fail
    go_at_call 9
    refine (AL2.out _ HBw4.out HAT4.out).mono ?_
    rintro e w5 ⟨rfl, hb5⟩
    have HBw5 : Hid (Below w.heap.size w w5) := HBw4.out.trans (hb5.mono HBw4.out.size)
    clear hb5 AL2 h0 h1 h2 h3 q0 q1 q2 q3
    go_wp2
    go_ret
    exact ⟨rfl, HBw5.out⟩

/-- the law's own trace -/
def ownT (a b : Nat) : List TR := [⟨some ⟨a, 0, none⟩, 3, [true, true, false]⟩, ⟨some ⟨b, 0, none⟩, 1, [false]⟩]

set_option maxRecDepth 100000 in
set_option maxHeartbeats 8000000 in
theorem law_hashes (B : Nat) (w : World) (S : GrS) (G : GrD) (h : GrAt B w S G) (hB : B ≤ w.heap.size) (ta : Option Addr) (tc : Nat) (trs : List TR) (ht : TrAt B w ta trs) :
    Calls Try.prog 3 #[.agg (S.cells G), .slice ta trs.length tc] w fun e w' => e = .returned (.bool true) ∧ Below w.heap.size w w' := by
  have SM : Hid (∀ w : World, Calls Try.prog 5 #[] w fun e w' => ∃ S, e = .returned (.agg (GrS.cells S tinyG)) ∧ GrAt w'.heap.size w' S tinyG ∧ Below w.heap.size w w') := tiny_any
  have RT : Hid (∀ (w : World) S (a : Option Addr) c trs, GrAt w.heap.size w S tinyG → TrAt w.heap.size w a trs → Calls Try.prog 4 #[.agg (GrS.cells S tinyG), .slice a trs.length c] w fun e w' => e = .returned (.bool true) ∧ Below w.heap.size w w') := fun w S a c trs hg ht => lawHashed_any w.heap.size w S tinyG hg (Nat.le_refl _) a c trs ht
  have RG : Hid (∀ w', Below w.heap.size w w' → Calls Try.prog 4 #[.agg (S.cells G), .slice ta trs.length tc] w' fun e w'' => e = .returned (.bool true) ∧ Below w'.heap.size w' w'') := fun w' hw' =>
    lawHashed_any B w' S G (h.to (hw'.mono hB)) (Nat.le_trans hB hw'.size) ta tc trs (ht.to (hw'.mono hB))
  clear h ht
  generalize hcs : S.cells G = cs at *
  have hcs' : cs = #[.int .i64 G.ins, .slice S.a1 G.lats.length S.c1, .slice S.a2 G.ands.length S.c2, .slice S.a3 G.outs.length S.c3] := hcs.symm
  clear hcs
  subst hcs'
  go_enter Try.func3, Try.ntmps3
  go_wp2_with fail
  generalize hW : World.alloc w _ = W
  have HB : Hid (Below w.heap.size w W) := by rw [← hW]; exact (Below.refl _ _).alloc (Nat.le_refl _) _
  have hN : w.heap.size < W.heap.size := by rw [← hW]; simp
  have HX : Hid (BoxAt W w.heap.size S G) := by
    rw [← hW]
    exact ⟨by simp, by simp, by simp, by simp, by simp⟩
  clear hW
  go_at_call 5
  refine (SM.out _).mono ?_
  rintro e w1 ⟨S1, rfl, hn1, hb1⟩
  have HB1 := hidden hb1
  have HN1 := hidden hn1
  obtain ⟨s1, t1, s2, t2, s3, t3⟩ := S1
  clear hb1 hn1 SM
  go_wp2_with fail
  generalize hW2 : World.alloc _ _ = W2
  have hs2 : W2.heap.size = w1.heap.size + 3 := by rw [← hW2]; simp
  have HB2 : Hid (Below w1.heap.size w1 W2) := by
    rw [← hW2]
    exact (((Below.refl _ _).alloc (Nat.le_refl _) _).alloc (by simp) _).alloc (by simp; omega) _
  have zb : ∀ j, W2.cell? ⟨w1.heap.size + 1 + 1, j, none⟩ = (#[.slice (some ⟨w1.heap.size, 0, none⟩) 3 3, .slice (some ⟨w1.heap.size + 1, 0, none⟩) 1 1] : Array Value)[j]? := by intro j; rw [← hW2]; exact cell_new (by simp)
  have z0 : ∀ j, W2.cell? ⟨w1.heap.size, j, none⟩ = (#[.bool true, .bool true, .bool false] : Array Value)[j]? := by intro j; rw [← hW2, World.cell?_alloc_lt _ _ _ (by first | (simp; done) | (simp; omega)), World.cell?_alloc_lt _ _ _ (by first | (simp; done) | (simp; omega))]; exact cell_new (by simp)
  have z1 : ∀ j, W2.cell? ⟨w1.heap.size + 1, j, none⟩ = (#[.bool false] : Array Value)[j]? := by intro j; rw [← hW2, World.cell?_alloc_lt _ _ _ (by first | (simp; done) | (simp; omega))]; exact cell_new (by simp)
  have HT2 : Hid (TrAt W2.heap.size W2 (some ⟨w1.heap.size + 1 + 1, 0, none⟩) (ownT w1.heap.size (w1.heap.size + 1))) := by
    have f : ∀ (b : Nat) (cs : Array Value) (els : List (List Value)), (∀ j, W2.cell? ⟨b, j, none⟩ = cs[j]?) → els.flatten = cs.toList → ∀ (m : Nat) (v : Value), els.flatten[m]? = some v → W2.cell? ⟨b, m, none⟩ = some v := by
      intro b cs els h1 h2 m v hv
      rw [h1 m, ← Array.getElem?_toList, ← h2]; exact hv
    refine ⟨rowAt_flat (by omega) (by simp [ownT, TR.cells]) (f _ _ _ zb rfl), ?_, by simp [ownT]⟩
    intro t htm
    simp only [ownT, List.mem_cons, List.not_mem_nil, or_false] at htm
    rcases htm with rfl | rfl
    · exact rowAt_flat (by omega) (by simp [bC]) (f _ _ _ z0 rfl)
    · exact rowAt_flat (by omega) (by simp [bC]) (f _ _ _ z1 rfl)
  have HG2 : Hid (GrAt W2.heap.size W2 ⟨s1, t1, s2, t2, s3, t3⟩ tinyG) := (HN1.out.to HB2.out).mono HB2.out.size
  have HR2 := hidden (RT.out W2 ⟨s1, t1, s2, t2, s3, t3⟩ _ 2 _ HG2.out HT2.out)
  have HBW2 : Hid (Below W.heap.size W W2) := HB1.out.trans (HB2.out.mono HB1.out.size)
  clear hW2 zb z0 z1 RT HN1 HT2 HG2 hs2
  go_at_call 4
  refine HR2.out.mono ?_
  rintro e w3 ⟨rfl, hb3⟩
  have HB3 := hidden (HBW2.out.trans (hb3.mono HBW2.out.size))
  have HX3 : Hid (BoxAt w3 w.heap.size S G) := HX.out.to hN HB3.out
  have q0 := HX3.out.c0
  have q1 := HX3.out.c1
  have q2 := HX3.out.c2
  have q3 := HX3.out.c3
  clear hb3 HR2 HX3
  go_wp2_with fail
  go_at_call 4
  refine (RG.out _ (HB.out.trans (HB3.out.mono HB.out.size))).mono ?_
  rintro e w4 ⟨rfl, hb4⟩
  have HB4 := hidden (HB3.out.trans (hb4.mono HB3.out.size))
  clear hb4 q0 q1 q2 q3
  go_wp2_with fail
  go_ret
  exact ⟨rfl, HB.out.trans (HB4.out.mono HB.out.size)⟩


end Go.Proofs.Ytnooojmnaglboaa
