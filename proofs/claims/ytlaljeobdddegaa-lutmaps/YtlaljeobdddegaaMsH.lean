import Derived.Test.YtlaljeobdddegaaMsE
import Derived.Test.YtlaljeobdddegaaAgP
namespace Go.Proofs.Ytlaljeobdddegaa
open Go.RowKit Mp

theorem run_same {G H : GrD} (hl : H.lats.length = G.lats.length) (h : ∀ row st, st.length = G.lats.length → outN H (cycN H row st) = outN G (cycN G row st) ∧ nextN H (cycN H row st) = nextN G (cycN G row st)) : ∀ (tr : List (List Bool)) (st : List Bool), st.length = G.lats.length → runN H tr st = runN G tr st
  | [], _, _ => rfl
  | r :: tr, st, hs => by
    have h1 := h r st hs
    show outN H (cycN H r st) :: runN H tr (nextN H (cycN H r st)) = outN G (cycN G r st) :: runN G tr (nextN G (cycN G r st))
    rw [h1.1, h1.2, run_same hl h tr _ (by unfold nextN; rw [List.length_map])]
/-- one cycle of a net that laid gives -/
theorem laid_cyc {J : GrD} {ni n : Nat} (hJ : FineG J ni n) {U : Nat → Nat} {sg : Nat → Int} {NL : NetL} {Y : Nat → Prop} {wd : Nat → Bool} (hL : LayI (ValG (grG hJ) (iaG J) (ibG J) n) (firstN J) n U wd NL sg Y) {x : Int} (h0 : 0 ≤ x) (h1 : x < 2 * (n : Int)) (hs : sg x.toNat ≠ -1) (row st : List Bool) (hst : st.length = J.lats.length) : L.sV (L.tabsN ([false, true] ++ L.inRow J.ins.toNat row ++ st) NL.tabs) (sg x.toNat) = litV (cycN J row st) x := by
  have f1 := hJ.first
  have f2 := hJ.all
  have hins := hJ.ins
  have hlen : (inRow J.ins.toNat row ++ st).length = firstN J - 1 := by
    rw [List.length_append, inRow_length, hst, hins]; omega
  have hv0 : ([false] ++ inRow J.ins.toNat row ++ st).length = firstN J := by
    simp only [List.length_append, List.length_cons, List.length_nil, inRow_length, hst]
    rw [f1, hins]; omega
  have hb : BaseV (firstN J) ([false, true] ++ L.inRow J.ins.toNat row ++ st) (fun v => (cycN J row st)[v]?.getD false) := by
    refine ⟨?_, rfl, rfl, fun v a b => ?_⟩
    · show (false :: true :: (inRow J.ins.toNat row ++ st)).length = _
      rw [List.length_cons, List.length_cons, hlen]; omega
    · obtain ⟨u, rfl⟩ : ∃ u, v = u + 1 := ⟨v - 1, by omega⟩
      show (false :: true :: (inRow J.ins.toNat row ++ st))[u + 1 + 1]? = _
      rw [List.getElem?_cons_succ, List.getElem?_cons_succ]
      show _ = some ((andsN ([false] ++ inRow J.ins.toNat row ++ st) J.ands)[u + 1]?.getD false)
      rw [ands_base _ (by rw [hv0]; exact b)]
      show _ = some ((false :: (inRow J.ins.toNat row ++ st))[u + 1]?.getD false)
      rw [List.getElem?_cons_succ, List.getElem?_eq_getElem (by rw [hlen]; omega)]; rfl
  have hval : ValG (grG hJ) (iaG J) (ibG J) n (fun v => (cycN J row st)[v]?.getD false) := by
    refine ⟨?_, fun v hv hg => ?_⟩
    · show (andsN ([false] ++ inRow J.ins.toNat row ++ st) J.ands)[0]?.getD false = false
      rw [ands_base _ (by rw [hv0]; omega)]; rfl
    · have hg' : firstN J ≤ v := hg
      obtain ⟨k, rfl⟩ : ∃ k, v = firstN J + k := ⟨v - firstN J, by omega⟩
      obtain ⟨d, hd⟩ := getElem_lt (show k < J.ands.length by omega)
      obtain ⟨ea, eb⟩ := grA_at (first := firstN J) hd
      have e1 : iaG J (firstN J + k) = decide (d.x % 2 = 1) := by unfold iaG; rw [Nat.add_sub_cancel_left, hd]
      have e2 : ibG J (firstN J + k) = decide (d.y % 2 = 1) := by unfold ibG; rw [Nat.add_sub_cancel_left, hd]
      show (cycN J row st)[firstN J + k]?.getD false = (((cycN J row st)[grA (firstN J) J.ands (firstN J + k)]?.getD false != iaG J (firstN J + k)) && ((cycN J row st)[grB (firstN J) J.ands (firstN J + k)]?.getD false != ibG J (firstN J + k)))
      rw [ea, eb, e1, e2]
      unfold cycN
      rw [ands_val hJ.ands hv0 hd]; rfl
  rw [(hL.sig x.toNat (by omega) hs).val _ _ hb hval]
  unfold litW litV
  rw [show (x / 2).toNat = x.toNat / 2 by omega]
  congr 1
  exact decide_eq_decide.2 (by omega)
theorem dsN_base (n0 : Nat) (tabs : List L.TbD) {i : Nat} (hi : i < n0) : (L.dsN n0 tabs).getD i 0 = 0 := by
  have key : ∀ k, k ≤ tabs.length → (L.dsN n0 (tabs.take k)).getD i 0 = 0 := by
    intro k
    induction k with
    | zero =>
      intro _
      show (List.replicate n0 (0 : Int)).getD i 0 = 0
      rw [List.getD_eq_getElem?_getD, List.getElem?_replicate, if_pos hi]; rfl
    | succ k ih =>
      intro hk
      obtain ⟨d, hd⟩ := getElem_lt (show k < tabs.length by omega)
      rw [take_next _ _ _ hd, L.dsN_snoc, getD_old (by rw [L.dsN_len]; omega)]
      exact ih (by omega)
  have := key tabs.length (Nat.le_refl _)
  rwa [List.take_length] at this
theorem lstV_ge' (F : Nat) (label : Nat → Nat) : ∀ (l : List Int) (d : Nat), d ≤ l.foldl (fun d x => max d (dofL F label x.toNat)) d ∧ ∀ x, x ∈ l → dofL F label x.toNat ≤ l.foldl (fun d x => max d (dofL F label x.toNat)) d
  | [], d => ⟨Nat.le_refl _, fun x hx => absurd hx (by simp)⟩
  | a :: r, d => by
    have ih := lstV_ge' F label r (max d (dofL F label a.toNat))
    rw [List.foldl_cons]
    refine ⟨by omega, fun x hx => ?_⟩
    rcases List.mem_cons.1 hx with rfl | hx
    · omega
    · exact ih.2 x hx
theorem endL_hash (G : GrD) : endL (hashG G) = (endL G).map (renL (hashK (firstN G) G.ands).2) := by
  unfold endL
  rw [List.map_append]
  show G.outs.map _ ++ (G.lats.map _).map LatD.next = _
  rw [List.map_map, List.map_map]; rfl
theorem endL_clean (G : GrD) : endL (cleanOf G) = (endL G).map (litC (firstN G) (nkOf G)) := by
  unfold endL
  rw [List.map_append]
  show G.outs.map _ ++ (G.lats.map _).map LatD.next = _
  rw [List.map_map, List.map_map]; rfl
theorem first_hash (G : GrD) : firstN (hashG G) = firstN G := by
  show 1 + G.ins.toNat + (G.lats.map _).length = 1 + G.ins.toNat + G.lats.length
  rw [List.length_map]
theorem hash_mapG {G : GrD} {ni n nH : Nat} (hF : FineG G ni n) (hH : FineG (hashG G) ni nH) : HashM (grG hF) (grG hH) n (muH (hashK (firstN G) G.ands).2) := by
  have hf : 0 < firstN G := by unfold firstN; omega
  have e := first_hash G
  have hlow : AndsLow (firstN G) (hashG G).ands := by have := hH.ands; rw [e] at this; exact this
  have hm := hash_map hf hF.ands (hs := (hashG G).ands) hlow (gates_all hf G.ands hF.ands)
  have hall := hF.all
  refine ⟨hm.zero, fun v hv => ?_, fun v hv hg => ?_⟩
  · show _ < firstN (hashG G)
    rw [e]; exact hm.src v hv
  · have := hm.gate v (by omega) hg
    show _ ∨ _ ∨ _ ∨ (firstN (hashG G) ≤ _ ∧ ((grA (firstN (hashG G)) (hashG G).ands _ = _ ∧ grB (firstN (hashG G)) (hashG G).ands _ = _) ∨ (grA (firstN (hashG G)) (hashG G).ands _ = _ ∧ grB (firstN (hashG G)) (hashG G).ands _ = _)))
    rw [e]
    exact this
end Go.Proofs.Ytlaljeobdddegaa
