import Derived.Test.YtlaljeobdddegaaMpA
namespace Go.Proofs.Ytlaljeobdddegaa
namespace Mp
/-- what hashing makes of a graph's variables -/
structure HashM (G H : Gr) (N : Nat) (mu : Nat → Nat) : Prop where
  zero : mu 0 = 0
  src : ∀ v, v < G.first → mu v < H.first
  gate : ∀ v, v < N → G.first ≤ v → mu v = 0 ∨ mu v = mu (G.a v) ∨ mu v = mu (G.b v) ∨ (H.first ≤ mu v ∧ ((H.a (mu v) = mu (G.a v) ∧ H.b (mu v) = mu (G.b v)) ∨ (H.a (mu v) = mu (G.b v) ∧ H.b (mu v) = mu (G.a v))))
theorem HashM.tl {G H : Gr} {N : Nat} {mu : Nat → Nat} (h : HashM G H N mu) {C : List Nat} {v : Nat} (hv : v < N) (ht : Tl G C v) : Tl H (C.map mu) (mu v) := by
  induction ht with
  | leaf hm => exact .leaf (List.mem_map.2 ⟨_, hm, rfl⟩)
  | zero => rw [h.zero]; exact .zero
  | @gate v hg ha hb iha ihb =>
    have h1 := G.la v hg
    have h2 := G.lb v hg
    have ta := iha (by omega)
    have tb := ihb (by omega)
    rcases h.gate v hv hg with e | e | e | ⟨hf, ⟨e1, e2⟩ | ⟨e1, e2⟩⟩
    · rw [e]; exact .zero
    · rw [e]; exact ta
    · rw [e]; exact tb
    · exact .gate hf (by rw [e1]; exact ta) (by rw [e2]; exact tb)
    · exact .gate hf (by rw [e1]; exact tb) (by rw [e2]; exact ta)
/-- what cleaning makes of those that are needed -/
structure CleanM (H J : Gr) (need : Nat → Prop) (rho : Nat → Nat) : Prop where
  zero : rho 0 = 0
  src : ∀ v, need v → v < H.first → rho v < J.first
  down : ∀ v, need v → H.first ≤ v → need (H.a v) ∧ need (H.b v)
  gate : ∀ v, need v → H.first ≤ v → J.first ≤ rho v ∧ ((J.a (rho v) = rho (H.a v) ∧ J.b (rho v) = rho (H.b v)) ∨ (J.a (rho v) = rho (H.b v) ∧ J.b (rho v) = rho (H.a v)))
theorem CleanM.tl {H J : Gr} {need : Nat → Prop} {rho : Nat → Nat} (h : CleanM H J need rho) {C E : List Nat} (hE : ∀ u, u ∈ C → need u → rho u ∈ E) {v : Nat} (hv : need v) (ht : Tl H C v) : Tl J E (rho v) := by
  induction ht with
  | leaf hm => exact .leaf (hE _ hm hv)
  | zero => rw [h.zero]; exact .zero
  | @gate v hg ha hb iha ihb =>
    obtain ⟨na, nb⟩ := h.down v hv hg
    obtain ⟨hf, ⟨e1, e2⟩ | ⟨e1, e2⟩⟩ := h.gate v hv hg
    · exact .gate hf (by rw [e1]; exact iha na) (by rw [e2]; exact ihb nb)
    · exact .gate hf (by rw [e1]; exact ihb nb) (by rw [e2]; exact iha na)
/-- the document's depths: each gate has a cut that is less deep by one -/
structure LabelD (G : Gr) (N : Nat) (label : Nat → Nat) : Prop where
  ex : ∀ v, v < N → G.first ≤ v → 1 ≤ label v ∧ ∃ c : List Nat, c.Nodup ∧ c.length ≤ 4 ∧ (∀ u, u ∈ c → u < v) ∧ Tl G c (G.a v) ∧ Tl G c (G.b v) ∧ ∀ u, u ∈ c → label u + 1 ≤ label v
open Classical in
/-- the images of those that are needed, each once -/
noncomputable def imgs (need : Nat → Prop) (rho mu : Nat → Nat) : List Nat → List Nat
  | [] => []
  | u :: r => if need (mu u) ∧ rho (mu u) ∉ imgs need rho mu r then rho (mu u) :: imgs need rho mu r else imgs need rho mu r
theorem imgs_spec (need : Nat → Prop) (rho mu : Nat → Nat) (c : List Nat) : (imgs need rho mu c).Nodup ∧ (imgs need rho mu c).length ≤ c.length ∧ (∀ x, x ∈ imgs need rho mu c → ∃ u, u ∈ c ∧ need (mu u) ∧ x = rho (mu u)) ∧ ∀ u, u ∈ c → need (mu u) → rho (mu u) ∈ imgs need rho mu c := by
  induction c with
  | nil => exact ⟨List.nodup_nil, Nat.le_refl _, fun x hx => (by cases hx), fun u hu => (by cases hu)⟩
  | cons a r ih =>
    obtain ⟨h1, h2, h3, h4⟩ := ih
    unfold imgs
    by_cases hc : need (mu a) ∧ rho (mu a) ∉ imgs need rho mu r
    · rw [if_pos hc]
      refine ⟨List.nodup_cons.2 ⟨hc.2, h1⟩, by rw [List.length_cons, List.length_cons]; omega, fun x hx => ?_, fun u hu hn => ?_⟩
      · rcases List.mem_cons.1 hx with rfl | hx
        · exact ⟨a, List.mem_cons_self, hc.1, rfl⟩
        · obtain ⟨u, hu, k⟩ := h3 x hx
          exact ⟨u, List.mem_cons_of_mem _ hu, k⟩
      · rcases List.mem_cons.1 hu with rfl | hu
        · exact List.mem_cons_self
        · exact List.mem_cons_of_mem _ (h4 u hu hn)
    · rw [if_neg hc]
      refine ⟨h1, by rw [List.length_cons]; omega, fun x hx => ?_, fun u hu hn => ?_⟩
      · obtain ⟨u, hu, k⟩ := h3 x hx
        exact ⟨u, List.mem_cons_of_mem _ hu, k⟩
      · rcases List.mem_cons.1 hu with rfl | hu
        · by_cases hm : rho (mu u) ∈ imgs need rho mu r
          · exact hm
          · exact absurd ⟨hn, hm⟩ hc
        · exact h4 u hu hn
/-- nothing becomes deeper than the document says -/
theorem flat {G H J : Gr} {N M : Nat} {mu rho : Nat → Nat} {need : Nat → Prop} {K : Nat → List (List Nat)} {dp label : Nat → Nat} (hm : HashM G H N mu) (hr : CleanM H J need rho) (hlt : ∀ v, v < N → need (mu v) → rho (mu v) < M) (hK : Kept J M K) (hD : Deep J M K dp) (hL : LabelD G N label) (v : Nat) (hv : v < N) (hn : need (mu v)) : dp (rho (mu v)) ≤ label v := by
  induction v using Nat.strongRecOn with
  | _ v ih =>
    have hM := hlt v hv hn
    by_cases hs : rho (mu v) < J.first
    · rw [hD.src _ hs]; exact Nat.zero_le _
    · by_cases hg : v < G.first
      · have := hr.src _ hn (hm.src v hg); omega
      · obtain ⟨h1, c, hcn, hc4, hcv, hca, hcb, hcl⟩ := hL.ex v hv (by omega)
        have ht := hm.tl hv (.gate (by omega) hca hcb)
        obtain ⟨i1, i2, i3, i4⟩ := imgs_spec need rho mu c
        have ht2 := hr.tl (E := imgs need rho mu c) (fun u hu hnu => by
          obtain ⟨x, hx, rfl⟩ := List.mem_map.1 hu
          exact i4 x hx hnu) hn ht
        have hle : ∀ u, u ∈ imgs need rho mu c → dp u ≤ label v - 1 := fun u hu => by
          obtain ⟨x, hx, hnx, rfl⟩ := i3 u hu
          have := ih x (hcv x hx) (by have := hcv x hx; omega) hnx
          have := hcl x hx
          omega
        by_cases hmem : rho (mu v) ∈ imgs need rho mu c
        · have := hle _ hmem; omega
        · generalize rho (mu v) = z at ht2 hs hM hmem ⊢
          cases ht2 with
          | leaf h => exact absurd h hmem
          | zero => have := J.pos; omega
          | gate hf ha hb =>
            have := (hK.deep hD _ hM).2 hf (imgs need rho mu c) i1 (by omega) ha hb hmem (label v - 1) hle
            omega
end Mp
end Go.Proofs.Ytlaljeobdddegaa
