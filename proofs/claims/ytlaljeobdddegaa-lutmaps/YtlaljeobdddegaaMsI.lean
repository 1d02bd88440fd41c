import Derived.Test.YtlaljeobdddegaaMsH
namespace Go.Proofs.Ytlaljeobdddegaa
open Go.RowKit Mp

theorem laid_end {J : GrD} {ni n : Nat} (hJ : FineG J ni n) {P : (Nat → Bool) → Prop} {U : Nat → Nat} {sg : Nat → Int} {NL : NetL} {gs : List Nat} (hL : LayI P (firstN J) n U (wdA (endL J)) NL sg (YX (firstN J) gs 0)) (hall : ∀ u, firstN J ≤ u → u < n → 0 < U u → u ∈ gs) (hU : ∀ u, firstN J ≤ u → u < n → (∃ x, x ∈ endL J ∧ (x / 2).toNat = u) → 0 < U u) {x : Int} (hx : x ∈ endL J) : (0 ≤ x ∧ x < 2 * (n : Int)) ∧ sg x.toNat ≠ -1 := by
  have hb : 0 ≤ x ∧ x < 2 * (n : Int) := by
    rcases List.mem_append.1 hx with h | h
    · exact hJ.outs x h
    · obtain ⟨z, hz, rfl⟩ := List.mem_map.1 h
      exact hJ.lats z hz
  refine ⟨hb, ?_⟩
  have hw : wdA (endL J) x.toNat = true := by
    unfold wdA
    rw [Int.toNat_of_nonneg hb.1]
    exact decide_eq_true hx
  have hY : YX (firstN J) gs 0 (x.toNat / 2) := by
    by_cases e : x.toNat / 2 < firstN J
    · exact Or.inl e
    · obtain ⟨j, hj⟩ := List.getElem?_of_mem (hall (x.toNat / 2) (by omega) (by omega) (hU _ (by omega) (by omega) ⟨x, hx, by omega⟩))
      exact Or.inr ⟨j, Nat.zero_le _, hj⟩
  obtain ⟨_, h2, h3⟩ := hL.had _ hY
  rcases (by omega : x.toNat = 2 * (x.toNat / 2) ∨ x.toNat = 2 * (x.toNat / 2) + 1) with e | e
  · rw [e]; exact h2 (by rw [← e]; exact hw)
  · rw [e]; exact h3 (by rw [← e]; exact hw)
theorem map_facts {G : GrD} {ni n : Nat} (hF : FineG G ni n) {N : L.NtD} (h : MapO G N) : L.NtOk N = true ∧ N.ins = G.ins ∧ N.outs.length = G.outs.length ∧ N.init = initN G ∧ N.tabs.length ≤ 300000 ∧ (∀ tr, L.runT N tr N.init = runN G tr (initN G)) ∧ ∀ cuts label, CutsD (grG hF) n cuts label → (∀ v, v < firstN G → label v = 0) → L.depN N ≤ (lstV (firstN G) label (endL G) : Int) := by
  obtain ⟨nH, hH⟩ := hash_fine hF
  obtain ⟨niJ, nJ, hJ, U, ⟨sg, NL, gs, hL, hall, htl, hni, hini, rfl⟩, hU⟩ := h
  obtain rfl : niJ = ni := by
    have a := hJ.ins
    have b := hF.ins
    have c : (cleanOf (hashG G)).ins = G.ins := rfl
    omega
  have hlJ : (cleanOf (hashG G)).lats.length = G.lats.length := by
    show ((G.lats.map _).map _).length = _
    rw [List.length_map, List.length_map]
  have hoJ : (cleanOf (hashG G)).outs.length = G.outs.length := by
    show ((G.outs.map _).map _).length = _
    rw [List.length_map, List.length_map]
  have hiJ : (cleanOf (hashG G)).lats.map LatD.init = initN G := by
    show ((G.lats.map _).map _).map LatD.init = G.lats.map LatD.init
    rw [List.map_map, List.map_map]; rfl
  have hE := fun {x : Int} (hx : x ∈ endL (cleanOf (hashG G))) => laid_end hJ hL hall (fun u a b c => (hU u a b).2 c) hx
  have hsig := fun {x : Int} (hx : x ∈ endL (cleanOf (hashG G))) => hL.sig x.toNat (by have := (hE hx).1; omega) (hE hx).2
  have hLn := hL.ni
  rw [hni, hini] at hLn
  have hin : (cleanOf (hashG G)).ins = (niJ : Int) := hJ.ins
  have hN6 := hJ.le
  have hfi := hJ.first
  have hfa := hJ.all
  refine ⟨?_, rfl, ?_, hiJ, htl, fun tr => ?_, fun cuts label hC hz => ?_⟩
  · unfold L.NtOk
    rw [Bool.and_eq_true, Bool.and_eq_true, Bool.and_eq_true]
    have hsg : ∀ x, x ∈ endL (cleanOf (hashG G)) → L.sigOk (L.NtD.sigs ⟨(cleanOf (hashG G)).ins, (cleanOf (hashG G)).lats.map LatD.init, NL.tabs, (cleanOf (hashG G)).lats.map fun l => sg l.next.toNat, (cleanOf (hashG G)).outs.map fun o => sg o.toNat⟩) (sg x.toNat) = true := fun x hx => by
      have := hsig hx
      refine decide_eq_true ⟨this.ge, ?_⟩
      show sg x.toNat < 2 + (cleanOf (hashG G)).ins + (((cleanOf (hashG G)).lats.map LatD.init).length : Int) + (NL.tabs.length : Int)
      rw [hLn]; exact this.lt
    refine ⟨⟨⟨decide_eq_true ⟨?_, ?_, ?_, ?_⟩, List.all_eq_true.2 fun i hi => ?_⟩, List.all_eq_true.2 fun s hs => ?_⟩, List.all_eq_true.2 fun s hs => ?_⟩
    · show 0 ≤ (cleanOf (hashG G)).ins; rw [hin]; omega
    · show (cleanOf (hashG G)).ins ≤ 60000; rw [hin]; omega
    · show ((cleanOf (hashG G)).outs.map _).length ≤ 60000; rw [List.length_map]; exact hJ.lo
    · show ((cleanOf (hashG G)).lats.map _).length = ((cleanOf (hashG G)).lats.map _).length; rw [List.length_map, List.length_map]
    · have hi' : i < NL.tabs.length := List.mem_range.1 hi
      obtain ⟨d, hd⟩ := getElem_lt hi'
      rw [L.tabOk_of (N := ⟨_, _, NL.tabs, _, _⟩) hd]
      show d.ok (2 + (cleanOf (hashG G)).ins + (((cleanOf (hashG G)).lats.map LatD.init).length : Int) + (i : Int)) = true
      rw [hLn]; exact hL.ok i d hd
    · obtain ⟨l, hl, rfl⟩ := List.mem_map.1 hs
      exact hsg l.next (List.mem_append.2 (Or.inr (List.mem_map_of_mem hl)))
    · obtain ⟨o, ho, rfl⟩ := List.mem_map.1 hs
      exact hsg o (List.mem_append.2 (Or.inl ho))
  · show ((cleanOf (hashG G)).outs.map _).length = _
    rw [List.length_map]; exact hoJ
  · show L.runT _ tr ((cleanOf (hashG G)).lats.map LatD.init) = _
    have hcyc : ∀ row st, st.length = (cleanOf (hashG G)).lats.length → L.outT ⟨(cleanOf (hashG G)).ins, (cleanOf (hashG G)).lats.map LatD.init, NL.tabs, (cleanOf (hashG G)).lats.map fun l => sg l.next.toNat, (cleanOf (hashG G)).outs.map fun o => sg o.toNat⟩ (L.cycT ⟨(cleanOf (hashG G)).ins, (cleanOf (hashG G)).lats.map LatD.init, NL.tabs, (cleanOf (hashG G)).lats.map fun l => sg l.next.toNat, (cleanOf (hashG G)).outs.map fun o => sg o.toNat⟩ row st) = outN (cleanOf (hashG G)) (cycN (cleanOf (hashG G)) row st) ∧ L.nextT ⟨(cleanOf (hashG G)).ins, (cleanOf (hashG G)).lats.map LatD.init, NL.tabs, (cleanOf (hashG G)).lats.map fun l => sg l.next.toNat, (cleanOf (hashG G)).outs.map fun o => sg o.toNat⟩ (L.cycT ⟨(cleanOf (hashG G)).ins, (cleanOf (hashG G)).lats.map LatD.init, NL.tabs, (cleanOf (hashG G)).lats.map fun l => sg l.next.toNat, (cleanOf (hashG G)).outs.map fun o => sg o.toNat⟩ row st) = nextN (cleanOf (hashG G)) (cycN (cleanOf (hashG G)) row st) := fun row st hst => by
      refine ⟨?_, ?_⟩
      · show ((cleanOf (hashG G)).outs.map fun o => sg o.toNat).map _ = (cleanOf (hashG G)).outs.map _
        rw [List.map_map]
        apply List.map_congr_left
        intro o ho
        have := hE (List.mem_append.2 (Or.inl ho))
        exact laid_cyc hJ hL this.1.1 this.1.2 this.2 row st hst
      · show ((cleanOf (hashG G)).lats.map fun l => sg l.next.toNat).map _ = (cleanOf (hashG G)).lats.map _
        rw [List.map_map]
        apply List.map_congr_left
        intro l hl
        have := hE (List.mem_append.2 (Or.inr (List.mem_map_of_mem hl)))
        exact laid_cyc hJ hL this.1.1 this.1.2 this.2 row st hst
    have hrun : ∀ (tr : List (List Bool)) (st : List Bool), st.length = (cleanOf (hashG G)).lats.length → L.runT ⟨(cleanOf (hashG G)).ins, (cleanOf (hashG G)).lats.map LatD.init, NL.tabs, (cleanOf (hashG G)).lats.map fun l => sg l.next.toNat, (cleanOf (hashG G)).outs.map fun o => sg o.toNat⟩ tr st = runN (cleanOf (hashG G)) tr st := by
      intro tr
      induction tr with
      | nil => intro st _; rfl
      | cons r tr ih =>
        intro st hst
        have hc := hcyc r st hst
        rw [L.runT, hc.1, hc.2, ih _ (by unfold nextN; rw [List.length_map])]; rfl
    have hlH : (hashG G).lats.length = G.lats.length := by show (G.lats.map _).length = _; rw [List.length_map]
    have hig : (initN G).length = G.lats.length := by unfold initN; rw [List.length_map]
    rw [hrun tr _ (by rw [List.length_map]), hiJ, run_same (G := hashG G) (by rw [hlJ, hlH]) (fun row st hst => clean_same hH row st hst) tr _ (by rw [hlH]; exact hig), run_same (G := G) hlH (fun row st hst => hash_same hF row st hst) tr _ hig]
  · -- the depth
    have hmu := hash_mapG hF hH
    have hrho := clean_map hH hJ
    have hok := hash_ok hF
    have hfd := (fd_ok hJ (Nat.le_refl (cleanOf (hashG G)).ands.length)).cp
    have hLab := hC.label
    have hpos : ∀ v : Nat, 0 ≤ (hashK (firstN G) G.ands).2.getD v 0 := fun v => by
      rw [List.getD_eq_getElem?_getD]
      cases e : (hashK (firstN G) G.ands).2[v]? with
      | none => exact Int.le_refl _
      | some y => exact (hok.lits v y e).1
    have hM : (cleanOf (hashG G)).ands.length + firstN (cleanOf (hashG G)) = nJ := by omega
    have hTn : toV (firstN (hashG G)) (nkOf (hashG G)) nH = nJ := by rw [toV_all hH]; omega
    -- each end comes from one
    have back : ∀ x, x ∈ endL (cleanOf (hashG G)) → ∃ y, y ∈ endL G ∧ 0 ≤ y ∧ y < 2 * (n : Int) ∧ x = litC (firstN (hashG G)) (nkOf (hashG G)) (renL (hashK (firstN G) G.ands).2 y) ∧ (x / 2).toNat = toV (firstN (hashG G)) (nkOf (hashG G)) (muH (hashK (firstN G) G.ands).2 (y.toNat / 2)) ∧ (needV (hashG G) (muH (hashK (firstN G) G.ands).2 (y.toNat / 2)) ∧ muH (hashK (firstN G) G.ands).2 (y.toNat / 2) < nH) := fun x hx => by
      rw [endL_clean, endL_hash, List.map_map] at hx
      obtain ⟨y, hy, rfl⟩ := List.mem_map.1 hx
      have hyb : 0 ≤ y ∧ y < 2 * (n : Int) := by
        rcases List.mem_append.1 hy with h | h
        · exact hF.outs y h
        · obtain ⟨z, hz, rfl⟩ := List.mem_map.1 h
          exact hF.lats z hz
      have hfa2 := hF.all
      have hr := (renL_ok hok hyb.1 (by omega)).1
      have hh : renL (hashK (firstN G) G.ands).2 y / 2 = (hashK (firstN G) G.ands).2.getD (y / 2).toNat 0 / 2 := renL_half (hpos _)
      have hmv : (renL (hashK (firstN G) G.ands).2 y).toNat / 2 = muH (hashK (firstN G) G.ands).2 (y.toNat / 2) := by
        unfold muH
        rw [show y.toNat / 2 = (y / 2).toNat by omega, ← hh]; omega
      have hmem : renL (hashK (firstN G) G.ands).2 y ∈ endL (hashG G) := by rw [endL_hash]; exact List.mem_map_of_mem hy
      have hneed : needV (hashG G) ((renL (hashK (firstN G) G.ands).2 y).toNat / 2) := by
        rcases List.mem_append.1 hmem with h | h
        · exact (needV_end hH).1 _ h
        · obtain ⟨z, hz, e⟩ := List.mem_map.1 h
          rw [← e]; exact (needV_end hH).2 z hz
      have hHa := hH.all
      have hHe : (hashG G).ands.length = (hashK (firstN G) G.ands).1.length := rfl
      have hfe := first_hash G
      obtain ⟨c1, _, _⟩ := litC_facts (first := firstN (hashG G)) (nk := nkOf (hashG G)) hr.1
      refine ⟨y, hy, hyb.1, hyb.2, rfl, ?_, ?_, ?_⟩
      · show (litC _ _ _ / 2).toNat = _
        rw [c1, hmv]; omega
      · rw [← hmv]; exact hneed
      · rw [← hmv]; omega
    have hge := lstV_ge' (firstN G) label (endL G) 0
    have hdof : ∀ y, y ∈ endL G → dofL (firstN G) label y.toNat ≤ lstV (firstN G) label (endL G) := fun y hy => hge.2 y hy
    have hflat : ∀ y, y ∈ endL G → 0 ≤ y → y < 2 * (n : Int) → (needV (hashG G) (muH (hashK (firstN G) G.ands).2 (y.toNat / 2)) ∧ muH (hashK (firstN G) G.ands).2 (y.toNat / 2) < nH) → dOf (Fd hJ (cleanOf (hashG G)).ands.length).2 (toV (firstN (hashG G)) (nkOf (hashG G)) (muH (hashK (firstN G) G.ands).2 (y.toNat / 2))) ≤ lstV (firstN G) label (endL G) := fun y hy h0 h1 hn => by
      have hf := flat hmu hrho (M := firstN (cleanOf (hashG G)) + (cleanOf (hashG G)).ands.length) (fun v _ hv => by
        have := toV_lt' hv.1 (v := nH) hv.2
        rw [hTn] at this
        omega) hfd.kept hfd.deep hLab (y.toNat / 2) (by omega) hn
      refine Nat.le_trans hf ?_
      by_cases e : y.toNat / 2 = 0 ∨ firstN G ≤ y.toNat / 2
      · have := hdof y hy
        unfold dofL at this
        rw [if_pos e] at this
        exact this
      · rw [hz _ (by omega)]; exact Nat.zero_le _
    have hmx : mxE (dOf (Fd hJ (cleanOf (hashG G)).ands.length).2) (endL (cleanOf (hashG G))) ≤ lstV (firstN G) label (endL G) := mxE_le _ (fun x hx => by
      obtain ⟨y, hy, h0, h1, _, e2, hn⟩ := back x hx
      rw [e2]; exact hflat y hy h0 h1 hn) _ (Nat.zero_le _)
    have hNf : (L.NtD.first ⟨(cleanOf (hashG G)).ins, (cleanOf (hashG G)).lats.map LatD.init, NL.tabs, (cleanOf (hashG G)).lats.map fun l => sg l.next.toNat, (cleanOf (hashG G)).outs.map fun o => sg o.toNat⟩).toNat = firstN (cleanOf (hashG G)) + 1 := by
      show (2 + (cleanOf (hashG G)).ins + (((cleanOf (hashG G)).lats.map LatD.init).length : Int)).toNat = _
      rw [hLn]; omega
    have each : ∀ x, x ∈ endL (cleanOf (hashG G)) → (L.dsN (firstN (cleanOf (hashG G)) + 1) NL.tabs).getD (sg x.toNat).toNat 0 ≤ (lstV (firstN G) label (endL G) : Int) := fun x hx => by
      have hs := hsig hx
      have hx0 := (hE hx).1
      obtain ⟨y, hy, h0, h1, ex, e2, hn⟩ := back x hx
      by_cases hz0 : x.toNat / 2 = 0
      · have hsm : sg x.toNat = 0 ∨ sg x.toNat = 1 := by
          rcases (by omega : x.toNat = 0 ∨ x.toNat = 1) with e | e
          · rw [e]; exact Or.inl hL.s0
          · rw [e]; exact Or.inr hL.s1
        rw [dsN_base _ _ (by omega)]; omega
      · refine Int.le_trans hs.dep ?_
        unfold dptL
        by_cases hg : x.toNat / 2 < firstN (cleanOf (hashG G))
        · rw [if_pos hg]
          by_cases hodd : x.toNat % 2 = 0
          · rw [hodd]; omega
          · have hle : 1 ≤ lstV (firstN G) label (endL G) := by
              have hd := hdof y hy
              unfold dofL at hd
              by_cases hy0 : y.toNat / 2 = 0
              · exfalso
                rw [hy0, hmu.zero, show toV (firstN (hashG G)) (nkOf (hashG G)) 0 = 0 from hrho.zero] at e2
                omega
              · by_cases hyg : firstN G ≤ y.toNat / 2
                · rw [if_pos (Or.inr hyg)] at hd
                  have := (hLab.ex (y.toNat / 2) (by omega) hyg).1
                  omega
                · rw [if_neg (by omega)] at hd
                  have hsrc := (gates_all (first := firstN G) (by omega) G.ands hF.ands).src (y.toNat / 2) (by omega)
                  have hgd : (hashK (firstN G) G.ands).2.getD (y / 2).toNat 0 = 2 * ((y.toNat / 2 : Nat) : Int) := by
                    rw [List.getD_eq_getElem?_getD, show (y / 2).toNat = y.toNat / 2 by omega, hsrc]; rfl
                  have hrn : renL (hashK (firstN G) G.ands).2 y = y := by
                    unfold renL
                    rw [hgd]
                    unfold flipI
                    split <;> (try split) <;> omega
                  rw [hrn] at ex
                  have hfe := first_hash G
                  have hxy : x % 2 = y % 2 := by rw [ex]; exact (litC_facts h0).2.1
                  omega
            omega
        · rw [if_neg hg]
          have h1' := (hU (x.toNat / 2) (by omega) (by omega)).1 ((hU (x.toNat / 2) (by omega) (by omega)).2 ⟨x, hx, by omega⟩)
          omega
    show L.maxD (L.dsN (L.NtD.first _).toNat NL.tabs) (((cleanOf (hashG G)).outs.map fun o => sg o.toNat) ++ ((cleanOf (hashG G)).lats.map fun l => sg l.next.toNat)) ≤ _
    rw [hNf]
    refine maxD_most _ _ (by omega) (fun s hs => ?_)
    rcases List.mem_append.1 hs with hs | hs
    · obtain ⟨o, ho, rfl⟩ := List.mem_map.1 hs
      exact each o (List.mem_append.2 (Or.inl ho))
    · obtain ⟨l, hl, rfl⟩ := List.mem_map.1 hs
      exact each l.next (List.mem_append.2 (Or.inr (List.mem_map_of_mem hl)))
end Go.Proofs.Ytlaljeobdddegaa
