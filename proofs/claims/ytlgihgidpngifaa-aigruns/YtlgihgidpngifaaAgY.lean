import Derived.Test.YtlgihgidpngifaaAgX
namespace Go.Proofs.Ytlgihgidpngifaa
open Go.RowKit

theorem run_each (G : GrD) (tr : List (List Bool)) (st : List Bool) : ∀ x, x ∈ runN G tr st → x.length = G.outs.length := by
  induction tr generalizing st with
  | nil => intro x hx; cases hx
  | cons r t ih =>
    intro x hx
    rcases List.mem_cons.1 hx with rfl | hx
    · unfold outN; simp
    · exact ih _ x hx
theorem rows_of {w : World} {C n : Nat} {v : Value} {rows : List RD} (h : w.ownsRow C 31 1 v n (rows.map RD.v)) (hb : ∀ r, r ∈ rows → BS w r.v r.l) : ∃ a c, v = .slice a n c ∧ RowsAt w a rows ∧ rows.length = n := by
  have hl : rows.length = n := by have := h.1; simp at this; omega
  rcases h.2 with ⟨h0, h1⟩ | ⟨g, cap, cur, hv, h1⟩
  · refine ⟨none, 0, by rw [h0, h1], fun i r hr => ?_, hl⟩
    have := (List.getElem?_eq_some_iff.1 hr).1
    omega
  · refine ⟨some ⟨g, 0, none⟩, cap, hv, fun i r hr => ⟨g, 0, rfl, (h.lt g (by rw [hv]; rfl)).2, ?_, hb r (List.mem_of_getElem? hr)⟩, hl⟩
    have := h.cells (g := g) (by rw [hv]; rfl) i r.v (by rw [List.getElem?_map, hr]; rfl)
    rw [add0] at this
    simpa using this
theorem RowsAt.to {w w' : World} {a : Option Addr} {rows : List RD} (h : RowsAt w a rows) (hb : Below w.heap.size w w') : RowsAt w' a rows := fun i r hr => by
  obtain ⟨b, o, ha, hlt, hc, hbs⟩ := h i r hr
  exact ⟨b, o, ha, Nat.lt_of_lt_of_le hlt hb.size, (hb.cell (p := ⟨b, o + i, none⟩) hlt).trans hc, hbs.to hb⟩

set_option maxRecDepth 100000 in
set_option maxHeartbeats 8000000 in
theorem graphRan_any (B : Nat) (w : World) (S : GrS) (G : GrD) (h : GrAt B w S G) (hB : B ≤ w.heap.size) (ta : Option Addr) (tc : Nat) (trs : List TR) (ht : TrAt B w ta trs) :
    Calls Try.prog 8 #[.agg (S.cells G), .slice ta trs.length tc] w fun e w' => e = .returned (.bool true) ∧ Below w.heap.size w w' := by
  obtain ⟨r, HR⟩ : ∃ r, Hid (GrOk G = r) := ⟨_, rfl⟩
  have VL : Hid (∀ w', Below w.heap.size w w' → Calls Try.prog 7 #[.agg (S.cells G)] w' fun e w'' => e = .returned (.bool r) ∧ Below w'.heap.size w' w'') := fun w' hw' => by
    have := graphValid_any B w' S G (h.to (hw'.mono hB)) (Nat.le_trans hB hw'.size)
    rw [HR.out] at this
    exact this
  have RP : Hid (r = true → ∀ w', Below w.heap.size w w' → Calls Try.prog 13 #[.agg (S.cells G), .slice ta trs.length tc] w' fun e w'' => ∃ v, ∃ rows : List RD, e = .returned v ∧ w''.ownsRow w'.heap.size 31 1 v trs.length (rows.map RD.v) ∧ rows.map RD.l = runN G (trs.map TR.l) (initN G) ∧ (∀ r, r ∈ rows → BS w'' r.v r.l) ∧ Below w'.heap.size w' w'') := fun hr w' hw' =>
    run_any B w' S G (h.to (hw'.mono hB)) (Nat.le_trans hB hw'.size) (HR.out.trans hr) ta tc trs (ht.to (hw'.mono hB))
  have RD' : Hid (r = true → ∀ w', Below w.heap.size w w' → Calls Try.prog 15 #[.agg (S.cells G), .slice ta trs.length tc] w' fun e w'' => ∃ v, ∃ rows : List RD, e = .returned v ∧ w''.ownsRow w'.heap.size 31 1 v trs.length (rows.map RD.v) ∧ rows.map RD.l = runN G (trs.map TR.l) (initN G) ∧ (∀ r, r ∈ rows → BS w'' r.v r.l) ∧ Below w'.heap.size w' w'') := fun hr w' hw' => by
    obtain ⟨hs, hai, hli, hoi⟩ := grOk_parts (HR.out.trans hr)
    exact graphRun_any B w' S G (h.to (hw'.mono hB)) (Nat.le_trans hB hw'.size) hs hai hli hoi ta tc trs (ht.to (hw'.mono hB))
  have HOS : Hid (r = true → G.outs.length ≤ 60000) := fun hr => (grOk_parts (HR.out.trans hr)).1.2.2.2.1
  have hlen := ht.len
  obtain ⟨RR, HRR⟩ : ∃ RR, Hid (runN G (trs.map TR.l) (initN G) = RR) := ⟨_, rfl⟩
  have HEA : Hid (∀ x, x ∈ RR → x.length = G.outs.length) := by rw [← HRR.out]; exact run_each G _ _
  rw [HRR.out] at RP RD'
  unfold GrS.cells at *
  clear h ht HR
  go_enter Try.func8, Try.ntmps8
  go_upto_region 1 with fail
  generalize hW : World.alloc w _ = W
  have HB : Hid (Below w.heap.size w W) := by rw [← hW]; exact (Below.refl _ _).alloc (Nat.le_refl _) _
  have hN : w.heap.size < W.heap.size := by rw [← hW]; simp
  have HX : Hid (BoxAt W w.heap.size S G) := by
    rw [← hW]
    exact ⟨by simp, by simp, by simp, by simp, by simp⟩
  clear hW
  have q0 := HX.out.c0
  have q1 := HX.out.c1
  have q2 := HX.out.c2
  have q3 := HX.out.c3
  go_wp2_with fail
  go_at_call 7
  refine (VL.out _ HB.out).mono ?_
  rintro e w1 ⟨rfl, hb1⟩
  have HB1 := hidden (HB.out.trans (hb1.mono HB.out.size))
  have HX1 : Hid (BoxAt w1 w.heap.size S G) := HX.out.to hN hb1
  clear hb1 q0 q1 q2 q3 VL HX
  cases r
  · go_wp2_with fail
    go_ret
    exact ⟨rfl, HB1.out⟩
  · have q0 := HX1.out.c0
    have q1 := HX1.out.c1
    have q2 := HX1.out.c2
    have q3 := HX1.out.c3
    go_wp2_with fail
    go_at_call 13
    refine (RP.out trivial _ HB1.out).mono ?_
    rintro e w2 ⟨va, ra, rfl, hoa, hla, hba, hb2⟩
    have HB2 := hidden (HB1.out.trans (hb2.mono HB1.out.size))
    have HX2 : Hid (BoxAt w2 w.heap.size S G) := HX1.out.to HX1.out.lt hb2
    obtain ⟨aa, ca, hva, hra, hna⟩ := rows_of hoa hba
    subst hva
    have HRA := hidden hra
    have HLA := hidden hla
    clear hb2 q0 q1 q2 q3 RP HX1 hoa hba hra hla
    have q0 := HX2.out.c0
    have q1 := HX2.out.c1
    have q2 := HX2.out.c2
    have q3 := HX2.out.c3
    go_wp2_with fail
    go_at_call 15
    refine (RD'.out trivial _ HB2.out).mono ?_
    rintro e w3 ⟨vb, rb, rfl, hob, hlb, hbb, hb3⟩
    have HB3 := hidden (HB2.out.trans (hb3.mono HB2.out.size))
    obtain ⟨ab, cb, hvb, hrb, hnb⟩ := rows_of hob hbb
    subst hvb
    have SR : Hid (Calls Try.prog 14 #[.slice aa trs.length ca, .slice ab trs.length cb] w3 fun e w' => e = .returned (.bool true) ∧ ∃ q, w' = w3.drewN q) :=
      sameRows_any w3 aa ab ca cb ra rb trs.length hna hnb (by simp only [big]; omega) (HRA.out.to hb3) hrb (by rw [HLA.out, hlb]; exact rfl) (fun r hr => by
        have h1 : r.l ∈ RR := by rw [← HLA.out]; exact List.mem_map.2 ⟨r, hr, rfl⟩
        have h2 := HEA.out _ h1
        have h3 := HOS.out trivial
        simp only [big]; omega)
    clear hb3 q0 q1 q2 q3 RD' HX2 hob hlb hbb hrb HRA HLA hna hnb
    go_wp2_with fail
    go_at_call 14
    refine SR.out.mono ?_
    rintro e w4 ⟨rfl, q, rfl⟩
    go_wp2_with fail
    go_ret
    exact ⟨rfl, Below.drewN HB3.out _⟩

end Go.Proofs.Ytlgihgidpngifaa
