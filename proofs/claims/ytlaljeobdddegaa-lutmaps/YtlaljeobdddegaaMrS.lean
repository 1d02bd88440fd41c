import Derived.Test.YtlaljeobdddegaaMrR
import Derived.Test.YtlaljeobdddegaaMrQ
namespace Go.Proofs.Ytlaljeobdddegaa
open Go.RowKit Mp

/-- what Map gives -/
def MapO (G : GrD) (N : L.NtD) : Prop := ∃ (ni n : Nat) (hF : FineG (cleanOf (hashG G)) ni n) (U : Nat → Nat), LaidO (ValG (grG hF) (iaG (cleanOf (hashG G))) (ibG (cleanOf (hashG G))) n) (firstN (cleanOf (hashG G))) n U (cleanOf (hashG G)) N ∧ ∀ u, firstN (cleanOf (hashG G)) ≤ u → u < n → (0 < U u → U u ≤ mxE (dOf (Fd hF (cleanOf (hashG G)).ands.length).2) (endL (cleanOf (hashG G)))) ∧ ((∃ x, x ∈ endL (cleanOf (hashG G)) ∧ (x / 2).toNat = u) → 0 < U u)
theorem hash_fine {G : GrD} {ni n : Nat} (hF : FineG G ni n) : ∃ n', FineG (hashG G) ni n' := by
  obtain ⟨ni', n', h⟩ := fine_of (hash_valid hF)
  have e1 := hF.ins
  have e2 : (hashG G).ins = (ni' : Int) := h.ins
  have e3 : (hashG G).ins = G.ins := rfl
  have : ni' = ni := by omega
  subst this
  exact ⟨n', h⟩
set_option maxRecDepth 100000 in
set_option maxHeartbeats 8000000 in
theorem map_any (B : Nat) (w : World) (S : GrS) (G : GrD) (h : GrAt B w S G) (hB : B ≤ w.heap.size) (hok : GrOk G = true) :
    Calls Try.prog 7 #[.agg (S.cells G)] w fun e w' => ∃ (T : L.NtS) (N : L.NtD), e = .returned (.agg (T.cells N)) ∧ Hid (L.NtAt w'.heap.size w' T N) ∧ Hid (T.a1 = none → T.c1 = 0 ∧ N.init = []) ∧ Hid (MapO G N) ∧ Hid (Bl w w') := by
  obtain ⟨ni, n, hF⟩ := fine_of hok
  obtain ⟨n1, hF1⟩ := hash_fine hF
  have hF2 := clean_fine hF1
  have VL : Hid (∀ w', Bl w w' → Calls Try.prog 17 #[.agg (S.cells G)] w' fun e w'' => e = .returned (.bool true) ∧ Below w'.heap.size w' w'') := fun w' hw' => by
    have := valid_any B w' S G (h.to (hw'.mono hB)) (Nat.le_trans hB hw'.size)
    rw [hok] at this
    exact this
  have HH : Hid (∀ w', Bl w w' → Calls Try.prog 19 #[.agg (S.cells G)] w' fun e w'' => (∃ T, e = .returned (.agg (T.cells (hashG G))) ∧ GrAt w''.heap.size w'' T (hashG G)) ∧ Below w'.heap.size w' w'') := fun w' hw' => hash_any B w' S G (h.to (hw'.mono hB)) (Nat.le_trans hB hw'.size) hok
  have HC : Hid (∀ (w' : World) (T : GrS), GrAt w'.heap.size w' T (hashG G) → Calls Try.prog 18 #[.agg (T.cells (hashG G))] w' fun e w'' => (∃ T', e = .returned (.agg (T'.cells (cleanOf (hashG G)))) ∧ GrAt w''.heap.size w'' T' (cleanOf (hashG G)) ∧ (T'.a3 = none → T'.c3 = 0) ∧ NewAt w'.heap.size T') ∧ Below w'.heap.size w' w'') := fun w' T hT => clean_any w'.heap.size w' T (hashG G) hT (Nat.le_refl _) (hash_valid hF)
  have HM : Hid (∀ N U, LaidO (ValG (grG hF2) (iaG (cleanOf (hashG G))) (ibG (cleanOf (hashG G))) (toV (firstN (hashG G)) (nkOf (hashG G)) n1)) (firstN (cleanOf (hashG G))) (toV (firstN (hashG G)) (nkOf (hashG G)) n1) U (cleanOf (hashG G)) N → (∀ u, firstN (cleanOf (hashG G)) ≤ u → u < toV (firstN (hashG G)) (nkOf (hashG G)) n1 → (0 < U u → U u ≤ mxE (dOf (Fd hF2 (cleanOf (hashG G)).ands.length).2) (endL (cleanOf (hashG G)))) ∧ ((∃ x, x ∈ endL (cleanOf (hashG G)) ∧ (x / 2).toNat = u) → 0 < U u)) → MapO G N) := fun N U h1 h2 => ⟨ni, _, hF2, U, h1, h2⟩
  obtain ⟨n2, En2⟩ := exh (toV (firstN (hashG G)) (nkOf (hashG G)) n1)
  have HCO : Hid (∀ (B : Nat) (w : World) (gb : Nat) (S : GrS), GIn B w gb S (cleanOf (hashG G)) → (S.a3 = none → S.c3 = 0) → Calls Try.prog 21 #[.pointer (some ⟨gb, 0, none⟩)] w fun e w' => ∃ (D : ChS) (C : Nat) (U : Nat → Nat) (gs : List Nat) (Ls : List (List Nat)) (bs : List Nat) (gv lv ev bv : Value), e = .returned (.pointer (some ⟨D.cb, 4, none⟩)) ∧ w.heap.size ≤ D.cb ∧ Hid (CvAt C w' D U gs Ls bs gv lv ev bv) ∧ Hid (CovI (ValG (grG hF2) (iaG (cleanOf (hashG G))) (ibG (cleanOf (hashG G))) (toV (firstN (hashG G)) (nkOf (hashG G)) n1)) (firstN (cleanOf (hashG G))) (toV (firstN (hashG G)) (nkOf (hashG G)) n1) (dOf (Fd hF2 (cleanOf (hashG G)).ands.length).2) (mxE (dOf (Fd hF2 (cleanOf (hashG G)).ands.length).2) (endL (cleanOf (hashG G)))) (fun u => ∃ x, x ∈ endL (cleanOf (hashG G)) ∧ (x / 2).toNat = u) (firstN (cleanOf (hashG G))) U gs Ls bs) ∧ Hid (Bl w w')) := fun B w gb S h1 h2 => covered_any B w gb S _ ni _ hF2 h1 h2
  have HLA : Hid (∀ (B : Nat) (w : World) (gb : Nat) (S : GrS), GIn B w gb S (cleanOf (hashG G)) → (S.a3 = none → S.c3 = 0) → ∀ (D : ChS) (C : Nat) (U : Nat → Nat) (gs : List Nat) (Ls : List (List Nat)) (bs : List Nat) (gv lv ev bv : Value), CvAt C w D U gs Ls bs gv lv ev bv → ∀ (dp : Nat → Nat) (dl : Nat) (E : Nat → Prop), CovI (ValG (grG hF2) (iaG (cleanOf (hashG G))) (ibG (cleanOf (hashG G))) (toV (firstN (hashG G)) (nkOf (hashG G)) n1)) (firstN (cleanOf (hashG G))) (toV (firstN (hashG G)) (nkOf (hashG G)) n1) dp dl E (firstN (cleanOf (hashG G))) U gs Ls bs → Calls Try.prog 20 #[.pointer (some ⟨gb, 0, none⟩), .pointer (some ⟨D.cb, 4, none⟩)] w fun e w' => ∃ (T : L.NtS) (N : L.NtD), e = .returned (.agg (T.cells N)) ∧ Hid (∀ (r : Nat) (v : World), r < w.heap.size → But r w' v → L.NtAt v.heap.size v T N) ∧ Hid (T.a1 = none → T.c1 = 0 ∧ N.init = []) ∧ Hid (LaidO (ValG (grG hF2) (iaG (cleanOf (hashG G))) (ibG (cleanOf (hashG G))) (toV (firstN (hashG G)) (nkOf (hashG G)) n1)) (firstN (cleanOf (hashG G))) (toV (firstN (hashG G)) (nkOf (hashG G)) n1) U (cleanOf (hashG G)) N) ∧ Hid (Bl w w')) := fun B w gb S h1 h2 D C U gs Ls bs gv lv ev bv h3 dp dl E h4 => laid_any _ (fun val hv => hv.zero) B w gb S _ ni _ hF2 h1 h2 D C U gs Ls bs gv lv ev bv h3 dp dl E h4
  generalize ValG (grG hF2) (iaG (cleanOf (hashG G))) (ibG (cleanOf (hashG G))) (toV (firstN (hashG G)) (nkOf (hashG G)) n1) = PP at *
  generalize mxE (dOf (Fd hF2 (cleanOf (hashG G)).ands.length).2) (endL (cleanOf (hashG G))) = dl at *
  generalize dOf (Fd hF2 (cleanOf (hashG G)).ands.length).2 = dp at *
  rw [← En2.out] at HM HCO HLA
  have HHF2 := hidden hF2
  generalize cleanOf (hashG G) = J at *
  clear hF hF1 hF2 h hok HHF2
  generalize hashG G = H at *
  unfold GrS.cells at VL HH HC ⊢
  go_enter Try.func7, Try.ntmps7
  go_upto_region 1 with fail
  obtain ⟨gb, Egb⟩ := exh w.heap.size
  obtain ⟨rb, Erb⟩ := exh (w.heap.size + 1)
  generalize hW0 : World.alloc (World.alloc w _) _ = w0
  have HB0 : Hid (Bl w w0) := by rw [← hW0]; exact ((Below.refl _ _).alloc (Nat.le_refl _) _).alloc (by simp) _
  have HKG : Hid (Blk w0 gb 26 #[.int .i64 G.ins, .slice S.a1 G.lats.length S.c1, .slice S.a2 G.ands.length S.c2, .slice S.a3 G.outs.length S.c3]) := by
    rw [← hW0, Egb.out]
    exact (Blk.new w _ _).below ((Below.refl _ _).alloc (Nat.le_refl _) _)
  have HKR : Hid (Blk w0 rb 34 #[.int .i64 0, .slice none 0 0, .slice none 0 0, .slice none 0 0, .slice none 0 0]) := by
    rw [← hW0, show rb = (w.alloc (.cells #[.int .i64 G.ins, .slice S.a1 G.lats.length S.c1, .slice S.a2 G.ands.length S.c2, .slice S.a3 G.outs.length S.c3] 26)).heap.size by rw [Erb.out]; simp]
    exact Blk.new _ _ _
  rw [← Erb.out, ← Egb.out]
  have hgr : gb ≠ rb := by have := Egb.out; have := Erb.out; omega
  have hwg : w.heap.size ≤ gb := by rw [Egb.out]; exact Nat.le_refl _
  have hwr : w.heap.size ≤ rb := by rw [Erb.out]; omega
  clear hW0 Egb Erb
  have p0 := HKG.out.cell (i := 0) rfl
  have p1 := HKG.out.cell (i := 1) rfl
  have p2 := HKG.out.cell (i := 2) rfl
  have p3 := HKG.out.cell (i := 3) rfl
  have V0 := hidden (VL.out w0 HB0.out)
  go_wp2_with fail
  go_at_call 17
  refine V0.out.mono ?_
  rintro e w1 ⟨rfl, hb1⟩
  have HB1 : Hid (Bl w w1) := Bl.tr HB0.out hb1
  have HKG1 := hidden (HKG.out.below hb1)
  have HKR1 := hidden (HKR.out.below hb1)
  clear hb1 V0 VL HKG HKR HB0 p0 p1 p2 p3
  have p0 := HKG1.out.cell (i := 0) rfl
  have p1 := HKG1.out.cell (i := 1) rfl
  have p2 := HKG1.out.cell (i := 2) rfl
  have p3 := HKG1.out.cell (i := 3) rfl
  have H1 := hidden (HH.out w1 HB1.out)
  go_wp2_with fail
  go_at_call 19
  refine H1.out.mono ?_
  rintro e w2 ⟨⟨T2, rfl, hat2⟩, hb2⟩
  have HB2 : Hid (Bl w w2) := Bl.tr HB1.out hb2
  have HKG2 := hidden (HKG1.out.below hb2)
  have HKR2 := hidden (HKR1.out.below hb2)
  have C2 := hidden (HC.out w2 T2 hat2)
  obtain ⟨H2, EH2⟩ := exh w2.heap.size
  have hg2 : gb < H2 := by rw [EH2.out]; exact HKG2.out.lt
  clear hb2 H1 HH HKG1 HKR1 HB1 p0 p1 p2 p3 hat2 HC
  unfold GrS.cells at C2
  go_wp2_with fail
  go_at_call 18
  refine C2.out.mono ?_
  rintro e w3 ⟨⟨T, rfl, hat3, hnil3, hnw3⟩, hb3⟩
  rw [← EH2.out] at hnw3
  have HB3 : Hid (Bl w w3) := Bl.tr HB2.out hb3
  have HKG3 := hidden (HKG2.out.below hb3)
  have HKR3 := hidden (HKR2.out.below hb3)
  have HAT3 := hidden hat3
  have HNIL3 := hidden hnil3
  have HNW3 := hidden hnw3
  clear hb3 C2 HKG2 HKR2 HB2 hat3 hnil3 hnw3
  have r0 := HKG3.out.cell (i := 0) rfl
  have r1 := HKG3.out.cell (i := 1) rfl
  have r2 := HKG3.out.cell (i := 2) rfl
  have r3 := HKG3.out.cell (i := 3) rfl
  have f0 := HKG3.out.frozen 0
  have f1 := HKG3.out.frozen 1
  have f2 := HKG3.out.frozen 2
  have f3 := HKG3.out.frozen 3
  go_wp2_with fail
  go_at_call 21
  obtain ⟨z0, z1, z2, z3⟩ := set4 r0 r1 r2 r3 (.int .i64 J.ins) (.slice T.a1 J.lats.length T.c1) (.slice T.a2 J.ands.length T.c2) (.slice T.a3 J.outs.length T.c3)
  have hg4 := set4H w3 gb (.int .i64 J.ins) (.slice T.a1 J.lats.length T.c1) (.slice T.a2 J.ands.length T.c2) (.slice T.a3 J.outs.length T.c3)
  generalize World.setCell _ (⟨gb, 3, none⟩ : Addr) _ = w4 at hg4 z0 z1 z2 z3 ⊢
  have hbx : BoxAt w4 gb T J := ⟨Nat.lt_of_lt_of_le HKG3.out.lt hg4.size, z0, z1, z2, z3⟩
  have hat4 := HAT3.out.set HNW3.out hg2 hg4
  have hgi : GIn w4.heap.size w4 gb T J := ⟨hbx, hat4, Nat.lt_of_lt_of_le HKG3.out.lt hg4.size, Nat.le_refl _⟩
  have HGI := hidden hgi
  have HB4 : Hid (Bl w w4) := HB3.out.trans (below_grown hg4 HB3.out.size (fun k hk => by have := Option.some.inj hk; omega))
  have HKR4 : Hid (Blk w4 rb 34 #[.int .i64 0, .slice none 0 0, .slice none 0 0, .slice none 0 0, .slice none 0 0]) := blk_kept HKR3.out hg4 (fun e => hgr (Option.some.inj e).symm)
  have CO := hidden (HCO.out w4.heap.size w4 gb T hgi HNIL3.out)
  clear r0 r1 r2 r3 f0 f1 f2 f3 z0 z1 z2 z3 hg4 hbx hat4 hgi HCO HB3 HKG3 HKR3 HAT3 HNW3
  refine CO.out.mono ?_
  rintro e w5 ⟨D, C, U, gs, Ls, bs, gv, lv, ev, bv, rfl, hcb, HCV, HCI, HB5⟩
  have HGI5 := hidden (HGI.out.to HB5.out)
  have HB5w : Hid (Bl w w5) := Bl.tr HB4.out HB5.out
  have HKR5 := hidden (HKR4.out.below HB5.out)
  have LA := hidden (HLA.out w4.heap.size w5 gb T HGI5.out HNIL3.out D C U gs Ls bs gv lv ev bv HCV.out _ _ _ HCI.out)
  obtain ⟨cb, Ecb⟩ := exh D.cb
  rw [← Ecb.out] at LA
  rw [← Ecb.out]
  have hrH : rb < w5.heap.size := HKR5.out.lt
  have HRH := hidden hrH
  clear CO HB5 HCV HGI HGI5 HLA HB4 HKR4 hrH
  go_wp2_with fail
  go_at_call 20
  refine LA.out.mono ?_
  rintro e w6 ⟨TN, N, rfl, HNT, HNN, HLO, HB6⟩
  have HB6w : Hid (Bl w w6) := Bl.tr HB5w.out HB6.out
  have HKR6 := hidden (HKR5.out.below HB6.out)
  have HMO : Hid (MapO G N) := HM.out N U HLO.out (fun u h1 h2 => ⟨fun h3 => (HCI.out.ok u h1 h2 h3).2, fun h3 => HCI.out.ends u h3 h1 h2⟩)
  have r0 := HKR6.out.cell (i := 0) rfl
  have r1 := HKR6.out.cell (i := 1) rfl
  have r2 := HKR6.out.cell (i := 2) rfl
  have r3 := HKR6.out.cell (i := 3) rfl
  have r4 := HKR6.out.cell (i := 4) rfl
  have f0 := HKR6.out.frozen 0
  have f1 := HKR6.out.frozen 1
  have f2 := HKR6.out.frozen 2
  have f3 := HKR6.out.frozen 3
  have f4 := HKR6.out.frozen 4
  unfold L.NtS.cells
  obtain ⟨n0, En0⟩ := exh N.ins
  obtain ⟨l1, El1⟩ := exh N.init.length
  obtain ⟨l2, El2⟩ := exh N.tabs.length
  obtain ⟨l3, El3⟩ := exh N.next.length
  obtain ⟨l4, El4⟩ := exh N.outs.length
  rw [← En0.out, ← El1.out, ← El2.out, ← El3.out, ← El4.out]
  clear LA HLO HM HCI HKR5 HKR6 HB5w HB6
  go_wp2
  obtain ⟨z0, z1, z2, z3, z4⟩ := set5 r0 r1 r2 r3 r4 (.int .i64 n0) (.slice TN.a1 l1 TN.c1) (.slice TN.a2 l2 TN.c2) (.slice TN.a3 l3 TN.c3) (.slice TN.a4 l4 TN.c4)
  have HG9 := hidden (set5_but w6 rb (.int .i64 n0) (.slice TN.a1 l1 TN.c1) (.slice TN.a2 l2 TN.c2) (.slice TN.a3 l3 TN.c3) (.slice TN.a4 l4 TN.c4))
  generalize World.setCell _ (⟨rb, 4, none⟩ : Addr) _ = w9 at HG9 z0 z1 z2 z3 z4 ⊢
  clear r0 r1 r2 r3 r4 f0 f1 f2 f3 f4
  refine bodyPost_ret (v := .agg #[.int .i64 n0, .slice TN.a1 l1 TN.c1, .slice TN.a2 l2 TN.c2, .slice TN.a3 l3 TN.c3, .slice TN.a4 l4 TN.c4]) (by simp [results, Try.results7, go_sem, *]) rfl ?_
  exact ⟨TN, N, by rw [En0.out, El1.out, El2.out, El3.out, El4.out]; rfl, HNT.out rb w9 HRH.out HG9.out, HNN.out, HMO.out, HB6w.out.trans (HG9.out.below hwr HB6w.out.size)⟩
end Go.Proofs.Ytlaljeobdddegaa
