import Derived.Test.YtcmfiamejncboaaLrO
import Derived.Test.YtcmfiamejncboaaLrG
import Derived.Test.YtcmfiamejncboaaLuE
namespace Go.Proofs.Ytcmfiamejncboaa
open Go.RowKit

set_option maxRecDepth 100000 in
set_option maxHeartbeats 8000000 in
theorem depth_any (B : Nat) (w : World) (S : NtS) (N : NtD) (h : NtAt B w S N) (hB : B ≤ w.heap.size) (hok : NtOk N = true) (hin : NtIn N) :
    Calls Try.prog 14 #[.agg (S.cells N)] w fun e w' => e = .returned (.int .i64 (depN N)) ∧ Below w.heap.size w w' := by
  have VL : Hid (∀ w', Below w.heap.size w w' → Calls Try.prog 5 #[.agg (S.cells N)] w' fun e w'' => e = .returned (.bool true) ∧ Below w'.heap.size w' w'') := fun w' hw' => by
    have := valid_any B w' S N (h.to (hw'.mono hB)) (Nat.le_trans hB hw'.size)
    rw [hok] at this
    exact this
  obtain ⟨r, HRD⟩ : ∃ r, Hid (r = depN N) := ⟨_, rfl⟩
  rw [← HRD.out]
  have DE : Hid (∀ w' gb, Below w.heap.size w w' → BoxAt w' gb S N → Calls Try.prog 19 #[.pointer (some ⟨gb, 0, none⟩)] w' fun e w'' => e = .returned (.int .i64 r) ∧ Below w'.heap.size w' w'') := fun w' gb hw' hx => by
    rw [HRD.out]
    exact deepest_any B w' gb S N hx (h.to (hw'.mono hB)) (Nat.le_trans hB hw'.size) hin
  unfold NtS.cells at *
  clear h hok hin
  go_enter Try.func14, Try.ntmps14
  go_upto_region 1 with fail
  generalize hW : World.alloc w _ = W
  have HB : Hid (Below w.heap.size w W) := by rw [← hW]; exact (Below.refl _ _).alloc (Nat.le_refl _) _
  have hN : w.heap.size < W.heap.size := by rw [← hW]; simp
  have HX : Hid (BoxAt W w.heap.size S N) := by rw [← hW]; exact BoxAt.new w S N
  clear hW
  have q0 := HX.out.c0
  have q1 := HX.out.c1
  have q2 := HX.out.c2
  have q3 := HX.out.c3
  have q4 := HX.out.c4
  go_wp2_with fail
  go_at_call 5
  refine (VL.out _ HB.out).mono ?_
  rintro e w1 ⟨rfl, hb1⟩
  have HB1 := hidden (HB.out.trans (hb1.mono HB.out.size))
  have HX1 : Hid (BoxAt w1 w.heap.size S N) := HX.out.to hN hb1
  clear hb1 q0 q1 q2 q3 q4 VL HX
  go_wp2_with fail
  go_at_call 19
  refine (DE.out _ _ HB1.out HX1.out).mono ?_
  rintro e w2 ⟨rfl, hb2⟩
  have HB2 := hidden (HB1.out.trans (hb2.mono HB1.out.size))
  clear hb2 DE HX1
  go_wp2_with fail
  go_ret
  exact ⟨rfl, HB2.out⟩

theorem runT_each (N : NtD) (tr : List (List Bool)) (st : List Bool) : ∀ x, x ∈ runT N tr st → x.length = N.outs.length := by
  induction tr generalizing st with
  | nil => intro x hx; cases hx
  | cons r t ih =>
    intro x hx
    rcases List.mem_cons.1 hx with rfl | hx
    · unfold outT; simp
    · exact ih _ x hx
theorem rows_of {w : World} {C n : Nat} {v : Value} {rows : List RD} (h : w.ownsRow C 22 1 v n (rows.map RD.v)) (hb : ∀ r, r ∈ rows → BS w r.v r.l) : ∃ a c, v = .slice a n c ∧ RowsAt w a rows ∧ rows.length = n := by
  have hl : rows.length = n := by have := h.1; simp at this; omega
  rcases h.2 with ⟨h0, h1⟩ | ⟨g, cap, cur, hv, h1⟩
  · refine ⟨none, 0, by rw [h0, h1], fun i r hr => ?_, hl⟩
    have := (List.getElem?_eq_some_iff.1 hr).1
    omega
  · refine ⟨some ⟨g, 0, none⟩, cap, hv, fun i r hr => ⟨g, 0, rfl, (h.lt g (by rw [hv]; rfl)).2, ?_, hb r (List.mem_of_getElem? hr)⟩, hl⟩
    have := h.cells (g := g) (by rw [hv]; rfl) i r.v (by rw [List.getElem?_map, hr]; rfl)
    rw [add0] at this
    simpa using this
theorem RowsAt.to {w w' : World} {a : Option Addr} {rows : List RD} (h : RowsAt w a rows) (hb : Below w.heap.size w w') : RowsAt w' a rows := fun i r hr => by
  obtain ⟨b, o, ha, hlt, hc, hbs⟩ := h i r hr
  exact ⟨b, o, ha, Nat.lt_of_lt_of_le hlt hb.size, (hb.cell (p := ⟨b, o + i, none⟩) hlt).trans hc, hbs.to hb⟩


set_option maxRecDepth 100000 in
set_option maxHeartbeats 8000000 in
theorem tablesRan_any (B : Nat) (w : World) (S : NtS) (N : NtD) (h : NtAt B w S N) (hB : B ≤ w.heap.size) (htl : N.tabs.length ≤ 4398046511104) (hnil : S.a1 = none → S.c1 = 0 ∧ N.init = []) (ta : Option Addr) (tc : Nat) (trs : List TR) (ht : TrAt B w ta trs) :
    Calls Try.prog 8 #[.agg (S.cells N), .slice ta trs.length tc] w fun e w' => e = .returned (.bool true) ∧ Below w.heap.size w w' := by
  obtain ⟨r, HR⟩ : ∃ r, Hid (NtOk N = r) := ⟨_, rfl⟩
  have VL : Hid (∀ w', Below w.heap.size w w' → Calls Try.prog 7 #[.agg (S.cells N)] w' fun e w'' => e = .returned (.bool r) ∧ Below w'.heap.size w' w'') := fun w' hw' => by
    have := tablesValid_any B w' S N (h.to (hw'.mono hB)) (Nat.le_trans hB hw'.size)
    rw [HR.out] at this
    exact this
  have HIN : Hid (r = true → NtIn N) := fun hr => by
    have hok := HR.out.trans hr
    refine ntIn_of hok ?_ htl
    have ho := hok
    unfold NtOk at ho
    rw [Bool.and_eq_true, Bool.and_eq_true, Bool.and_eq_true] at ho
    have hs := (of_decide_eq_true ho.1.1.1).2.2.2
    have := h.ln
    simp only [big] at this
    omega
  obtain ⟨dd, HDD⟩ : ∃ d, Hid (d = depN N) := ⟨_, rfl⟩
  have DPP : Hid (r = true → ∀ w', Below w.heap.size w w' → Calls Try.prog 14 #[.agg (S.cells N)] w' fun e w'' => e = .returned (.int .i64 dd) ∧ Below w'.heap.size w' w'') := fun hr w' hw' => by
    rw [HDD.out]
    exact depth_any B w' S N (h.to (hw'.mono hB)) (Nat.le_trans hB hw'.size) (HR.out.trans hr) (HIN.out hr)
  have DPD : Hid (r = true → ∀ w', Below w.heap.size w w' → Calls Try.prog 18 #[.agg (S.cells N)] w' fun e w'' => e = .returned (.int .i64 dd) ∧ Below w'.heap.size w' w'') := fun hr w' hw' => by
    rw [HDD.out]
    exact depth_doc B w' S N (h.to (hw'.mono hB)) (Nat.le_trans hB hw'.size) (HIN.out hr)
  have RP : Hid (r = true → ∀ w', Below w.heap.size w w' → Calls Try.prog 15 #[.agg (S.cells N), .slice ta trs.length tc] w' fun e w'' => ∃ v, ∃ rows : List RD, e = .returned v ∧ w''.ownsRow w'.heap.size 22 1 v trs.length (rows.map RD.v) ∧ rows.map RD.l = runT N (trs.map TR.l) N.init ∧ (∀ r, r ∈ rows → BS w'' r.v r.l) ∧ Below w'.heap.size w' w'') := fun hr w' hw' =>
    run_any B w' S N (h.to (hw'.mono hB)) (Nat.le_trans hB hw'.size) (HR.out.trans hr) (HIN.out hr) ta tc trs (ht.to (hw'.mono hB))
  have RD' : Hid (r = true → ∀ w', Below w.heap.size w w' → Calls Try.prog 17 #[.agg (S.cells N), .slice ta trs.length tc] w' fun e w'' => ∃ v, ∃ rows : List RD, e = .returned v ∧ w''.ownsRow w'.heap.size 22 1 v trs.length (rows.map RD.v) ∧ rows.map RD.l = runT N (trs.map TR.l) N.init ∧ (∀ r, r ∈ rows → BS w'' r.v r.l) ∧ Below w'.heap.size w' w'') := fun hr w' hw' =>
    tablesRun_doc B w' S N (h.to (hw'.mono hB)) (Nat.le_trans hB hw'.size) (HIN.out hr) hnil ta tc trs (ht.to (hw'.mono hB))
  have HOS : Hid (r = true → N.outs.length ≤ 60000) := fun hr => (HIN.out hr).ol
  have hlen := ht.len
  obtain ⟨RR, HRR⟩ : ∃ RR, Hid (runT N (trs.map TR.l) N.init = RR) := ⟨_, rfl⟩
  have HEA : Hid (∀ x, x ∈ RR → x.length = N.outs.length) := by rw [← HRR.out]; exact runT_each N _ _
  rw [HRR.out] at RP RD'
  unfold NtS.cells at *
  clear h ht HR hnil htl HIN
  go_enter Try.func8, Try.ntmps8
  go_upto_region 1 with fail
  generalize hW : World.alloc w _ = W
  have HB : Hid (Below w.heap.size w W) := by rw [← hW]; exact (Below.refl _ _).alloc (Nat.le_refl _) _
  have hN : w.heap.size < W.heap.size := by rw [← hW]; simp
  have HX : Hid (BoxAt W w.heap.size S N) := by rw [← hW]; exact BoxAt.new w S N
  clear hW
  have q0 := HX.out.c0
  have q1 := HX.out.c1
  have q2 := HX.out.c2
  have q3 := HX.out.c3
  have q4 := HX.out.c4
  go_wp2_with fail
  go_at_call 7
  refine (VL.out _ HB.out).mono ?_
  rintro e w1 ⟨rfl, hb1⟩
  have HB1 := hidden (HB.out.trans (hb1.mono HB.out.size))
  have HX1 : Hid (BoxAt w1 w.heap.size S N) := HX.out.to hN hb1
  clear hb1 q0 q1 q2 q3 q4 VL HX
  cases r
  · go_wp2_with fail
    go_ret
    exact ⟨rfl, HB1.out⟩
  ·
    have q0 := HX1.out.c0
    have q1 := HX1.out.c1
    have q2 := HX1.out.c2
    have q3 := HX1.out.c3
    have q4 := HX1.out.c4
    go_wp2_with fail
    go_at_call 14
    refine (DPP.out trivial _ HB1.out).mono ?_
    rintro e w0 ⟨rfl, hb0⟩
    have HB0 := hidden (HB1.out.trans (hb0.mono HB1.out.size))
    have HX0 : Hid (BoxAt w0 w.heap.size S N) := HX1.out.to HX1.out.lt hb0
    clear hb0 q0 q1 q2 q3 q4 DPP HX1
    have q0 := HX0.out.c0
    have q1 := HX0.out.c1
    have q2 := HX0.out.c2
    have q3 := HX0.out.c3
    have q4 := HX0.out.c4
    go_wp2_with fail
    go_at_call 15
    refine (RP.out trivial _ HB0.out).mono ?_
    rintro e w2 ⟨va, ra, rfl, hoa, hla, hba, hb2⟩
    have HB2 := hidden (HB0.out.trans (hb2.mono HB0.out.size))
    have HX2 : Hid (BoxAt w2 w.heap.size S N) := HX0.out.to HX0.out.lt hb2
    obtain ⟨aa, ca, hva, hra, hna⟩ := rows_of hoa hba
    subst hva
    have HRA := hidden hra
    have HLA := hidden hla
    clear hb2 q0 q1 q2 q3 q4 RP HX0 hoa hba hra hla
    have q0 := HX2.out.c0
    have q1 := HX2.out.c1
    have q2 := HX2.out.c2
    have q3 := HX2.out.c3
    have q4 := HX2.out.c4
    go_wp2_with fail
    go_at_call 17
    refine (RD'.out trivial _ HB2.out).mono ?_
    rintro e w3 ⟨vb, rb, rfl, hob, hlb, hbb, hb3⟩
    have HB3 := hidden (HB2.out.trans (hb3.mono HB2.out.size))
    have HX3 : Hid (BoxAt w3 w.heap.size S N) := HX2.out.to HX2.out.lt hb3
    obtain ⟨ab, cb, hvb, hrb, hnb⟩ := rows_of hob hbb
    subst hvb
    have SR : Hid (Calls Try.prog 16 #[.slice aa trs.length ca, .slice ab trs.length cb] w3 fun e w' => e = .returned (.bool true) ∧ ∃ q, w' = w3.drewN q) :=
      sameRows_any w3 aa ab ca cb ra rb trs.length hna hnb (by simp only [big]; omega) (HRA.out.to hb3) hrb (by rw [HLA.out, hlb]; exact rfl) (fun r hr => by
        have h1 : r.l ∈ RR := by rw [← HLA.out]; exact List.mem_map.2 ⟨r, hr, rfl⟩
        have h2 := HEA.out _ h1
        have h3 := HOS.out trivial
        simp only [big]; omega)
    clear hb3 q0 q1 q2 q3 q4 RD' HX2 hob hlb hbb hrb HRA HLA hna hnb
    go_wp2_with fail
    go_at_call 16
    refine SR.out.mono ?_
    rintro e w4 ⟨rfl, q, hw4⟩
    have HB4 : Hid (Below w.heap.size w w4) := by rw [hw4]; exact Below.drewN HB3.out _
    have HX4 : Hid (BoxAt w4 w.heap.size S N) := by rw [hw4]; exact HX3.out.to HX3.out.lt (Below.drewN (Below.refl _ _) _)
    clear hw4 SR HX3
    have q0 := HX4.out.c0
    have q1 := HX4.out.c1
    have q2 := HX4.out.c2
    have q3 := HX4.out.c3
    have q4 := HX4.out.c4
    go_wp2_with fail
    go_at_call 18
    refine (DPD.out trivial _ HB4.out).mono ?_
    rintro e w5 ⟨rfl, hb5⟩
    have HB5 := hidden (HB4.out.trans (hb5.mono HB4.out.size))
    clear hb5 q0 q1 q2 q3 q4 DPD HX4
    go_wp2
    go_ret
    exact ⟨ret_bool (by simp), HB5.out⟩

end Go.Proofs.Ytcmfiamejncboaa
