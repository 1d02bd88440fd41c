import Derived.Test.YtlaljeobdddegaaAcS
import Derived.Test.YtlaljeobdddegaaMpG
import Derived.Test.YtlaljeobdddegaaMqV
namespace Go.Proofs.Ytlaljeobdddegaa
open Go.RowKit

theorem needR_iff {G : GrD} {ni n : Nat} (hF : FineG G ni n) (v : Nat) : On (needR G) v ↔ Nd (firstN G) (opsOf G) (nextsOf G ++ rootsV G) v := by
  have h2 := hF.all
  have hops : ∀ (i a b : Nat), (opsOf G)[i]? = some (a, b) → a < firstN G + i ∧ b < firstN G + i ∧ i < G.ands.length := by
    intro i a b ho
    unfold opsOf at ho
    rw [List.getElem?_map] at ho
    cases hd : G.ands[i]? with
    | none => rw [hd] at ho; cases ho
    | some d =>
      rw [hd] at ho
      have e : d.x.toNat / 2 = a ∧ d.y.toNat / 2 = b := by simpa using ho
      have hin := hF.ands i d hd
      have := (List.getElem?_eq_some_iff.1 hd).1
      omega
  have hlen : (opsOf G).length = G.ands.length := by unfold opsOf; simp
  have := sweepC_all (first := firstN G) (ops := opsOf G) (roots := nextsOf G ++ rootsV G) (nd := nd0C G) (fun i a b ho => ⟨(hops i a b ho).1, (hops i a b ho).2.1⟩) (fun i a b ho => by
    have := hops i a b ho
    rw [nd0C_len]; omega) (fun x => ?_) v
  · rw [hlen] at this
    exact this
  · unfold nd0C
    rw [marks_on, marks_on]
    · have hF0 : ¬ On (List.replicate (firstN G + G.ands.length) false) x := by
        unfold On
        rw [List.getElem?_replicate]
        split <;> simp
      rw [List.mem_append]
      unfold nextsOf rootsV
      simp [hF0]
    · intro r hrm
      obtain ⟨o, ho, rfl⟩ := List.mem_map.1 hrm
      have := hF.outs o ho
      rw [List.length_replicate]; unfold vOf; omega
    · intro r hrm
      obtain ⟨l, hlm, rfl⟩ := List.mem_map.1 hrm
      have := hF.lats l hlm
      rw [marks_len, List.length_replicate]; unfold nOf; omega
/-- what Clean keeps -/
def needV (G : GrD) (v : Nat) : Prop := v < firstN G ∨ On (needR G) v
theorem needV_gate {G : GrD} {k : Nat} (h : needV G (firstN G + k)) : (nkOf G)[k]? = some true := by
  rcases h with h | h
  · omega
  · unfold nkOf; rw [List.getElem?_drop]; exact h
theorem needV_end {G : GrD} {ni n : Nat} (hF : FineG G ni n) : (∀ o, o ∈ G.outs → needV G (o.toNat / 2)) ∧ ∀ l, l ∈ G.lats → needV G (l.next.toNat / 2) :=
  ⟨fun _ ho => Or.inr ((needR_iff hF _).2 (nd_root (List.mem_append.2 (Or.inr (List.mem_map_of_mem ho))))), fun _ hl => Or.inr ((needR_iff hF _).2 (nd_root (List.mem_append.2 (Or.inl (List.mem_map_of_mem hl)))))⟩
theorem needV_down {G : GrD} {ni n : Nat} (hF : FineG G ni n) {k : Nat} {d : AndD} (hd : G.ands[k]? = some d) (h : needV G (firstN G + k)) : needV G (d.x.toNat / 2) ∧ needV G (d.y.toNat / 2) := by
  rcases h with h | h
  · omega
  · have := nd_op (i := k) (a := d.x.toNat / 2) (b := d.y.toNat / 2) (by unfold opsOf; rw [List.getElem?_map, hd]; rfl) ((needR_iff hF _).1 h)
    exact ⟨Or.inr ((needR_iff hF _).2 this.1), Or.inr ((needR_iff hF _).2 this.2)⟩
theorem kept_at {first : Nat} {nk : List Bool} {ands : List AndD} (hl : nk.length = ands.length) {k : Nat} {d : AndD} (hd : ands[k]? = some d) (hk : nk[k]? = some true) : (keptA first nk ands)[(nk.take k).count true]? = some ⟨litC first nk d.x, litC first nk d.y⟩ := by
  have e1 : keptA first nk ands = keptK first nk ands (k + 1) ++ ((ands.zip nk).drop (k + 1)).filterMap fun x => if x.2 then some ⟨litC first nk x.1.x, litC first nk x.1.y⟩ else none := by
    unfold keptA keptK
    rw [← List.filterMap_append, List.take_append_drop]
  have e2 := keptK_next first nk ands k d true hd hk
  rw [e1, e2, ← keptK_len first nk ands k hl, List.append_assoc]
  simp
theorem kept_len {first : Nat} {nk : List Bool} {ands : List AndD} (hl : nk.length = ands.length) : (keptA first nk ands).length = nk.count true := by
  rw [← keptK_all first nk ands hl, keptK_len first nk ands _ hl, ← hl, List.take_length]
/-- each gate kept comes from one -/
theorem kept_from {first : Nat} {nk : List Bool} {ands : List AndD} (hl : nk.length = ands.length) : ∀ (m i : Nat) (e : AndD), (keptK first nk ands m)[i]? = some e → ∃ (k : Nat) (d : AndD), ands[k]? = some d ∧ nk[k]? = some true ∧ (nk.take k).count true = i ∧ e = ⟨litC first nk d.x, litC first nk d.y⟩
  | 0, i, e, h => by simp [keptK] at h
  | m + 1, i, e, h => by
    by_cases hm : m < ands.length
    · obtain ⟨d, hd⟩ := getElem_lt hm
      obtain ⟨b, hb⟩ := getElem_lt (show m < nk.length by omega)
      rw [keptK_next first nk ands m d b hd hb] at h
      by_cases hi : i < (keptK first nk ands m).length
      · rw [List.getElem?_append_left hi] at h
        exact kept_from hl m i e h
      · rw [List.getElem?_append_right (by omega)] at h
        cases b with
        | false => simp at h
        | true =>
          have h0 : i - (keptK first nk ands m).length = 0 := by
            have := (List.getElem?_eq_some_iff.1 h).1
            simp at this
            omega
          rw [h0] at h
          refine ⟨m, d, hd, hb, ?_, by simpa using h.symm⟩
          rw [← keptK_len first nk ands m hl]; omega
    · have : keptK first nk ands (m + 1) = keptK first nk ands m := by
        unfold keptK
        rw [List.take_of_length_le (by simp; omega), List.take_of_length_le (by simp; omega)]
      rw [this] at h
      exact kept_from hl m i e h
theorem count_take_lt {nk : List Bool} {k m : Nat} (hk : nk[k]? = some true) (hm : k < m) : (nk.take k).count true < (nk.take m).count true := by
  have h1 : (nk.take (k + 1)).count true = (nk.take k).count true + 1 := by
    rw [List.take_add_one, hk, List.count_append]; rfl
  have h2 : (nk.take (k + 1)).count true ≤ (nk.take m).count true := by
    have : nk.take (k + 1) = (nk.take m).take (k + 1) := by rw [List.take_take, Nat.min_eq_left (by omega)]
    rw [this]
    exact (List.take_sublist _ _).count_le _
  omega
theorem toV_lt {G : GrD} {u v : Nat} (hu : needV G u) (h : u < v) : toV (firstN G) (nkOf G) u < toV (firstN G) (nkOf G) v ∨ v < firstN G := by
  by_cases hv : v < firstN G
  · exact Or.inr hv
  · left
    obtain ⟨m, rfl⟩ : ∃ m, v = firstN G + m := ⟨v - firstN G, by omega⟩
    rw [toV_gate]
    by_cases hf : u < firstN G
    · rw [toV_low hf]; omega
    · obtain ⟨k, rfl⟩ : ∃ k, u = firstN G + k := ⟨u - firstN G, by omega⟩
      rw [toV_gate]
      have := count_take_lt (needV_gate hu) (show k < m by omega)
      omega
theorem toV_lt' {G : GrD} {u v : Nat} (hu : needV G u) (h : u < v) : toV (firstN G) (nkOf G) u < toV (firstN G) (nkOf G) v := by
  by_cases hv : v < firstN G
  · rw [toV_low hv, toV_low (by omega)]; exact h
  · rcases toV_lt hu h with h | h
    · exact h
    · omega
theorem clean_first (G : GrD) : firstN (cleanOf G) = firstN G := by unfold firstN cleanOf cleanG; simp
theorem toV_all {G : GrD} {ni n : Nat} (hF : FineG G ni n) : toV (firstN G) (nkOf G) n = firstN (cleanOf G) + (cleanOf G).ands.length := by
  have h2 := hF.all
  rw [← h2, toV_gate, clean_first]
  show _ = firstN G + (keptA _ _ _).length
  rw [kept_len (nkOf_len G), ← nkOf_len G, List.take_length]
theorem litC_facts {first : Nat} {nk : List Bool} {x : Int} (_ : 0 ≤ x) : litC first nk x / 2 = (toV first nk (x.toNat / 2) : Nat) ∧ litC first nk x % 2 = x % 2 ∧ 0 ≤ litC first nk x := by
  unfold litC; omega
/-- what Clean makes is valid -/
theorem clean_fine {G : GrD} {ni n : Nat} (hF : FineG G ni n) : FineG (cleanOf G) ni (toV (firstN G) (nkOf G) n) := by
  have f1 := hF.first
  have f2 := hF.all
  have hc := clean_first G
  have hta := toV_all hF
  have hfew : (cleanOf G).ands.length ≤ G.ands.length := by
    show (keptA _ _ _).length ≤ _
    rw [kept_len (nkOf_len G), ← nkOf_len G]
    exact List.count_le_length
  refine ⟨hF.ins, ?_, hta.symm, ?_, ?_, ?_, ?_, ?_, ?_⟩
  · rw [hc, f1]
    show 1 + ni + G.lats.length = 1 + ni + (G.lats.map _).length
    rw [List.length_map]
  · have := hF.le; rw [hta, hc]; omega
  · show (G.lats.map _).length ≤ _; rw [List.length_map]; exact hF.ll
  · show (G.outs.map _).length ≤ _; rw [List.length_map]; exact hF.lo
  · intro i e he
    rw [hc]
    have he' : (keptK (firstN G) (nkOf G) G.ands G.ands.length)[i]? = some e := by rw [keptK_all _ _ _ (nkOf_len G)]; exact he
    obtain ⟨k, d, hd, hk, hi, rfl⟩ := kept_from (nkOf_len G) _ i e he'
    have hb := hF.ands k d hd
    have hn : needV G (firstN G + k) := Or.inr (by have := hk; unfold nkOf at this; rw [List.getElem?_drop] at this; exact this)
    obtain ⟨n1, n2⟩ := needV_down hF hd hn
    have t1 := toV_lt' n1 (v := firstN G + k) (by omega)
    have t2 := toV_lt' n2 (v := firstN G + k) (by omega)
    rw [toV_gate, hi] at t1 t2
    obtain ⟨c1, c2, c3⟩ := litC_facts (first := firstN G) (nk := nkOf G) hb.1.1
    obtain ⟨c4, c5, c6⟩ := litC_facts (first := firstN G) (nk := nkOf G) hb.2.1
    show (0 ≤ litC _ _ d.x ∧ litC _ _ d.x < _) ∧ (0 ≤ litC _ _ d.y ∧ litC _ _ d.y < _)
    omega
  · intro z hz
    obtain ⟨l, hl, rfl⟩ := List.mem_map.1 hz
    have hb := hF.lats l hl
    have t1 := toV_lt' ((needV_end hF).2 l hl) (v := n) (by omega)
    obtain ⟨c1, c2, c3⟩ := litC_facts (first := firstN G) (nk := nkOf G) hb.1
    show 0 ≤ litC _ _ l.next ∧ litC _ _ l.next < _
    omega
  · intro z hz
    obtain ⟨o, ho, rfl⟩ := List.mem_map.1 hz
    have hb := hF.outs o ho
    have t1 := toV_lt' ((needV_end hF).1 o ho) (v := n) (by omega)
    obtain ⟨c1, c2, c3⟩ := litC_facts (first := firstN G) (nk := nkOf G) hb.1
    show 0 ≤ litC _ _ o ∧ litC _ _ o < _
    omega
/-- and tells what it told -/
theorem ands_val {first : Nat} {hs : List AndD} (h : AndsLow first hs) {v0 : List Bool} (hv : v0.length = first) {i : Nat} {d : AndD} (hd : hs[i]? = some d) : (andsN v0 hs)[first + i]? = some (litV (andsN v0 hs) d.x && litV (andsN v0 hs) d.y) := by
  have hi := (List.getElem?_eq_some_iff.1 hd).1
  have hl := h i d hd
  have e1 : hs = hs.take i ++ [d] ++ hs.drop (i + 1) := by
    rw [← take_next hs i d hd, List.take_append_drop]
  obtain ⟨r, hr⟩ := ands_app v0 (hs.take i ++ [d]) (hs.drop (i + 1))
  rw [← e1, ands_snoc] at hr
  have hlen : (andsN v0 (hs.take i)).length = first + i := by rw [ands_length, List.length_take, hv]; omega
  generalize andsN v0 (hs.take i) = V at *
  rw [hr]
  have e2 : ∀ x : Int, 0 ≤ x → x < 2 * ((first : Int) + (i : Int)) → litV (V ++ [litV V d.x && litV V d.y] ++ r) x = litV V x := fun x h0 h1 => by
    rw [List.append_assoc]; exact litV_app _ _ x h0 (by rw [hlen]; omega)
  rw [e2 d.x (by omega) (by omega), e2 d.y (by omega) (by omega), ← hlen, List.append_assoc, List.getElem?_append_right (Nat.le_refl _)]
  simp
theorem ands_base {v0 : List Bool} (hs : List AndD) {i : Nat} (hi : i < v0.length) : (andsN v0 hs)[i]? = v0[i]? := by
  obtain ⟨r, hr⟩ := ands_app v0 [] hs
  rw [List.nil_append] at hr
  rw [hr]
  show (v0 ++ r)[i]? = _
  rw [List.getElem?_append_left hi]
theorem clean_val {G : GrD} {ni n : Nat} (hF : FineG G ni n) {v0 : List Bool} (hv : v0.length = firstN G) (v : Nat) (hn : needV G v) (hvn : v < n) : (andsN v0 (cleanOf G).ands)[toV (firstN G) (nkOf G) v]? = (andsN v0 G.ands)[v]? := by
  induction v using Nat.strongRecOn with
  | _ v ih =>
    have f2 := hF.all
    by_cases hl : v < firstN G
    · rw [toV_low hl, ands_base _ (by omega), ands_base _ (by omega)]
    · obtain ⟨k, rfl⟩ : ∃ k, v = firstN G + k := ⟨v - firstN G, by omega⟩
      obtain ⟨d, hd⟩ := getElem_lt (show k < G.ands.length by omega)
      have hb := hF.ands k d hd
      have hk := needV_gate hn
      obtain ⟨n1, n2⟩ := needV_down hF hd hn
      have hlow : AndsLow (firstN G) (cleanOf G).ands := by
        have := (clean_fine hF).ands
        rw [clean_first] at this
        exact this
      rw [toV_gate, ands_val hlow hv (kept_at (nkOf_len G) hd hk), ands_val hF.ands hv hd]
      obtain ⟨c1, c2, c3⟩ := litC_facts (first := firstN G) (nk := nkOf G) hb.1.1
      obtain ⟨c4, c5, c6⟩ := litC_facts (first := firstN G) (nk := nkOf G) hb.2.1
      have i1 := ih (d.x.toNat / 2) (by omega) n1 (by omega)
      have i2 := ih (d.y.toNat / 2) (by omega) n2 (by omega)
      have e1 : litV (andsN v0 (cleanOf G).ands) (litC (firstN G) (nkOf G) d.x) = litV (andsN v0 G.ands) d.x := by
        unfold litV
        rw [c1, c2, Int.toNat_natCast, i1, show (d.x / 2).toNat = d.x.toNat / 2 by omega]
      have e2 : litV (andsN v0 (cleanOf G).ands) (litC (firstN G) (nkOf G) d.y) = litV (andsN v0 G.ands) d.y := by
        unfold litV
        rw [c4, c5, Int.toNat_natCast, i2, show (d.y / 2).toNat = d.y.toNat / 2 by omega]
      show some (litV (andsN v0 (cleanOf G).ands) _ && litV (andsN v0 (cleanOf G).ands) _) = _
      rw [e1, e2]
theorem clean_same {G : GrD} {ni n : Nat} (hF : FineG G ni n) (row st : List Bool) (hst : st.length = G.lats.length) : outN (cleanOf G) (cycN (cleanOf G) row st) = outN G (cycN G row st) ∧ nextN (cleanOf G) (cycN (cleanOf G) row st) = nextN G (cycN G row st) := by
  have f1 := hF.first
  have f2 := hF.all
  have hins := hF.ins
  have hv : ([false] ++ inRow G.ins.toNat row ++ st).length = firstN G := by
    simp only [List.length_append, List.length_cons, List.length_nil, inRow_length, hst]
    rw [f1, hins]; omega
  have key : ∀ x : Int, 0 ≤ x → x < 2 * (n : Int) → needV G (x.toNat / 2) → litV (cycN (cleanOf G) row st) (litC (firstN G) (nkOf G) x) = litV (cycN G row st) x := fun x h0 h1 hn => by
    have i1 := clean_val hF hv (x.toNat / 2) hn (by omega)
    obtain ⟨c1, c2, c3⟩ := litC_facts (first := firstN G) (nk := nkOf G) h0
    unfold cycN litV
    show ((andsN ([false] ++ inRow G.ins.toNat row ++ st) (cleanOf G).ands)[_]?.getD false != _) = _
    rw [c1, c2, Int.toNat_natCast, i1, show (x / 2).toNat = x.toNat / 2 by omega]
  refine ⟨?_, ?_⟩
  · unfold outN
    show (G.outs.map _).map _ = _
    rw [List.map_map]
    apply List.map_congr_left
    intro o ho
    have := hF.outs o ho
    exact key o this.1 this.2 ((needV_end hF).1 o ho)
  · unfold nextN
    show (G.lats.map _).map _ = _
    rw [List.map_map]
    apply List.map_congr_left
    intro l hl
    have := hF.lats l hl
    exact key l.next this.1 this.2 ((needV_end hF).2 l hl)
/-- what Clean makes of variables -/
theorem clean_map {G : GrD} {ni n : Nat} (hF : FineG G ni n) {n2 : Nat} (hC : FineG (cleanOf G) ni n2) : Mp.CleanM (grG hF) (grG hC) (fun v => needV G v ∧ v < n) (toV (firstN G) (nkOf G)) := by
  have f1 := hF.first
  have f2 := hF.all
  have hc := clean_first G
  have gat : ∀ v, needV G v → v < n → firstN G ≤ v → ∃ k d, v = firstN G + k ∧ G.ands[k]? = some d := fun v _ h2 h3 => by
    obtain ⟨d, hd⟩ := getElem_lt (show v - firstN G < G.ands.length by omega)
    exact ⟨v - firstN G, d, by omega, hd⟩
  refine ⟨toV_low (by omega), fun v hv hl => ?_, fun v hv hl => ?_, fun v hv hl => ?_⟩
  · show toV _ _ v < firstN (cleanOf G)
    have hl' : v < firstN G := hl
    rw [hc, toV_low hl']; exact hl'
  · obtain ⟨k, d, rfl, hd⟩ := gat v hv.1 hv.2 hl
    have hb := hF.ands k d hd
    obtain ⟨n1, n2⟩ := needV_down hF hd hv.1
    obtain ⟨ea, eb⟩ := grA_at (first := firstN G) hd
    show (needV G (grA (firstN G) G.ands (firstN G + k)) ∧ _) ∧ (needV G (grB (firstN G) G.ands (firstN G + k)) ∧ _)
    show (needV G (grA (firstN G) G.ands (firstN G + k)) ∧ grA (firstN G) G.ands (firstN G + k) < n) ∧ (needV G (grB (firstN G) G.ands (firstN G + k)) ∧ grB (firstN G) G.ands (firstN G + k) < n)
    rw [ea, eb, show (d.x / 2).toNat = d.x.toNat / 2 by omega, show (d.y / 2).toNat = d.y.toNat / 2 by omega]
    exact ⟨⟨n1, by omega⟩, n2, by omega⟩
  · obtain ⟨k, d, rfl, hd⟩ := gat v hv.1 hv.2 hl
    have hb := hF.ands k d hd
    obtain ⟨ea, eb⟩ := grA_at (first := firstN G) hd
    have hk := needV_gate hv.1
    have hka := kept_at (first := firstN G) (nkOf_len G) hd hk
    obtain ⟨ja, jb⟩ := grA_at (first := firstN G) (ands := (cleanOf G).ands) hka
    obtain ⟨c1, c2, c3⟩ := litC_facts (first := firstN G) (nk := nkOf G) hb.1.1
    obtain ⟨c4, c5, c6⟩ := litC_facts (first := firstN G) (nk := nkOf G) hb.2.1
    show firstN (cleanOf G) ≤ toV _ _ (firstN G + k) ∧ ((grA (firstN (cleanOf G)) (cleanOf G).ands (toV _ _ (firstN G + k)) = toV _ _ (grA (firstN G) G.ands (firstN G + k)) ∧ grB (firstN (cleanOf G)) (cleanOf G).ands (toV _ _ (firstN G + k)) = toV _ _ (grB (firstN G) G.ands (firstN G + k))) ∨ _)
    rw [toV_gate, hc, ja, jb, ea, eb, show (d.x / 2).toNat = d.x.toNat / 2 by omega, show (d.y / 2).toNat = d.y.toNat / 2 by omega]
    refine ⟨by omega, Or.inl ⟨?_, ?_⟩⟩
    · show (litC (firstN G) (nkOf G) d.x / 2).toNat = _; rw [c1]; omega
    · show (litC (firstN G) (nkOf G) d.y / 2).toNat = _; rw [c4]; omega
end Go.Proofs.Ytlaljeobdddegaa
