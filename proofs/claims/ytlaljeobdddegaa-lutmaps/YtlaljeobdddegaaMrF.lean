import Derived.Test.YtlaljeobdddegaaMrE
namespace Go.Proofs.Ytlaljeobdddegaa
open Go.RowKit Mp

theorem GIn.mono {B C : Nat} {w : World} {gb : Nat} {S : GrS} {G : GrD} (h : GIn B w gb S G) (hB : B ≤ C) (hC : C ≤ w.heap.size) : GIn C w gb S G := ⟨h.bx, h.at_.mono hB, Nat.lt_of_lt_of_le h.lt hB, hC⟩
theorem own_ints {w : World} {C : Nat} {v : Value} {n : Nat} {l : List Int} (h : w.ownsRow C 3 1 v n (l.map zV)) : ∃ a c, v = .slice a n c ∧ n = l.length ∧ ∀ k y, l[k]? = some y → ∃ b o, a = some ⟨b, o, none⟩ ∧ w.cell? ⟨b, o + k, none⟩ = some (.int .i64 y) := by
  have hl : n = l.length := by have := h.1; simp at this; omega
  rcases h.2 with ⟨rfl, h0⟩ | ⟨g, cap, cur, rfl, _, hg, _, _, h3, h4⟩
  · subst h0
    exact ⟨none, 0, rfl, hl, fun k y hy => by rw [List.eq_nil_of_length_eq_zero hl.symm] at hy; simp at hy⟩
  · refine ⟨some ⟨g, 0, none⟩, cap, rfl, hl, fun k y hy => ⟨g, 0, rfl, ?_⟩⟩
    have hk := (List.getElem?_eq_some_iff.1 hy).1
    have h5 : (l.map zV)[k]? = some (zV y) := by rw [List.getElem?_map, hy]; rfl
    rw [← h4, List.getElem?_take_of_lt (by omega), Array.getElem?_toList] at h5
    rw [Nat.zero_add]
    simp [World.cell?, hg, h5, zV]
theorem cell_lt {w : World} {b i : Nat} {v : Value} (h : w.cell? ⟨b, i, none⟩ = some v) : b < w.heap.size := by
  by_cases hb : b < w.heap.size
  · exact hb
  · simp [World.cell?, Array.getElem?_eq_none (Nat.le_of_not_lt hb)] at h
/-- what found has made, for those who read it -/
theorem fd_env {w : World} {G : GrD} {ni n fb : Nat} (hF : FineG G ni n) (h : FnB w fb (Fd hF G.ands.length).1 (Fd hF G.ands.length).2) : ∃ (SF : FnS) (db cd : Nat), SF.fb = fb ∧ FinR w SF (Fd hF G.ands.length).1 ∧ FnLow w.heap.size SF ∧ w.cell? ⟨fb, 2, none⟩ = some (.slice (some ⟨db, 0, none⟩) n cd) ∧ db < w.heap.size ∧ ∀ v, v < n → w.cell? ⟨db, v, none⟩ = some (.int .i64 (dOf (Fd hF G.ands.length).2 v : Nat)) := by
  obtain ⟨l1, l2⟩ := fd_len hF (Nat.le_refl _)
  obtain ⟨ff, _, _⟩ := fd_fin hF (Nat.le_refl _)
  have hall := hF.all
  have hf1 : 1 ≤ firstN G := by unfold firstN; omega
  have hne : (Fd hF G.ands.length).1 ≠ [] := fun e => by rw [e] at l1; simp at l1; omega
  have hne2 : (Fd hF G.ands.length).1.flatten ≠ [] := fun e => by
    have h1 := flat_at (Cs := (Fd hF G.ands.length).1) (v := 0) (i := 0) (c := ((Fd hF G.ands.length).1.getD 0 []).head (ff.has 0 (by rw [l1]; omega))) (by rw [l1]; omega) (by rw [List.head_eq_getElem, List.getElem?_eq_getElem])
    rw [e] at h1; simp at h1
  have lv4 : ∀ cs, cs ∈ (Fd hF G.ands.length).1 → ∀ c, c ∈ cs → c.lv.length ≤ 4 := fun cs hcs c hc => by
    obtain ⟨v, hv⟩ := List.getElem?_of_mem hcs
    have hvl := (List.getElem?_eq_some_iff.1 hv).1
    have e : (Fd hF G.ands.length).1.getD v [] = cs := by rw [List.getD_eq_getElem?_getD, hv]; rfl
    exact (ff.each v hvl c (by rw [e]; exact hc)).2.1.1
  obtain ⟨SF, hfin⟩ := h.fin hne hne2 lv4
  rcases hfin with ⟨h1, h2, h3, db, cd, h4, _, h5⟩ | h0
  · have hd : ∀ v, v < n → w.cell? ⟨db, v, none⟩ = some (.int .i64 (dOf (Fd hF G.ands.length).2 v : Nat)) := fun v hv => by
      refine h5 v _ ?_
      obtain ⟨d, hd⟩ := getElem_lt (show v < (Fd hF G.ands.length).2.length by rw [l2]; omega)
      unfold dOf
      rw [List.getD_eq_getElem?_getD, hd]; rfl
    rw [l2, hall] at h4
    exact ⟨SF, db, cd, h1, h2, h3, h4, cell_lt (hd 0 (by omega)), hd⟩
  · rw [h0] at l2; simp at l2; omega
theorem dec_len : ∀ {l : List Nat} {M : Nat}, l.Pairwise (· > ·) → (∀ g, g ∈ l → g < M) → l.length ≤ M
  | [], _, _, _ => Nat.zero_le _
  | a :: r, M, h, hm => by
    have h1 := List.pairwise_cons.1 h
    have h2 := dec_len h1.2 (fun g hg => h1.1 g hg)
    have h3 := hm a List.mem_cons_self
    rw [List.length_cons]; omega
theorem CovI.len {P : (Nat → Bool) → Prop} {F N : Nat} {dp : Nat → Nat} {dl : Nat} {E : Nat → Prop} {v : Nat} {U : Nat → Nat} {gs : List Nat} {Ls : List (List Nat)} {bs : List Nat} (h : CovI P F N dp dl E v U gs Ls bs) : gs.length ≤ N ∧ Ls.length ≤ N ∧ bs.length ≤ N ∧ Ls.flatten.length ≤ 4 * N := by
  have h1 := dec_len h.dec (fun g hg => (h.gin g hg).2.2.1)
  refine ⟨h1, by rw [h.l1]; exact h1, by rw [h.l2]; exact h1, ?_⟩
  have h2 := flat_few 4 Ls (fun i hi => by
    obtain ⟨g, hg⟩ := getElem_lt (show i < gs.length by rw [← h.l1]; exact hi)
    obtain ⟨ls, hls⟩ := getElem_lt hi
    obtain ⟨b, hb⟩ := getElem_lt (show i < bs.length by rw [h.l2, ← h.l1]; exact hi)
    rw [List.getD_eq_getElem?_getD, hls]
    exact (h.tab i g ls b hg hls hb).1)
  rw [h.l1] at h2
  omega
def mxE (dp : Nat → Nat) (l : List Int) : Nat := l.foldl (fun d x => max d (dp (x / 2).toNat)) 0
def untE (dl : Nat) (l : List Int) : Nat → Nat := l.foldl (fun U x => upd U (x / 2).toNat dl) fun _ => 0
theorem mxE_next {dp : Nat → Nat} {l : List Int} {k : Nat} {x : Int} (h : l[k]? = some x) : mxE dp (l.take (k + 1)) = max (mxE dp (l.take k)) (dp (x / 2).toNat) := by
  unfold mxE; rw [take_next _ _ _ h, List.foldl_append]; rfl
theorem untE_next {dl : Nat} {l : List Int} {k : Nat} {x : Int} (h : l[k]? = some x) : untE dl (l.take (k + 1)) = upd (untE dl (l.take k)) (x / 2).toNat dl := by
  unfold untE; rw [take_next _ _ _ h, List.foldl_append]; rfl
theorem mxE_ge' (dp : Nat → Nat) : ∀ (l : List Int) (d : Nat), d ≤ l.foldl (fun d x => max d (dp (x / 2).toNat)) d ∧ ∀ x, x ∈ l → dp (x / 2).toNat ≤ l.foldl (fun d x => max d (dp (x / 2).toNat)) d
  | [], d => ⟨Nat.le_refl _, fun x hx => absurd hx (by simp)⟩
  | a :: r, d => by
    have ih := mxE_ge' dp r (max d (dp (a / 2).toNat))
    rw [List.foldl_cons]
    refine ⟨by omega, fun x hx => ?_⟩
    rcases List.mem_cons.1 hx with rfl | hx
    · omega
    · exact ih.2 x hx
theorem mxE_ge {dp : Nat → Nat} {l : List Int} {x : Int} (h : x ∈ l) : dp (x / 2).toNat ≤ mxE dp l := (mxE_ge' dp l 0).2 x h
theorem mxE_le {dp : Nat → Nat} {M : Nat} : ∀ (l : List Int), (∀ x, x ∈ l → dp (x / 2).toNat ≤ M) → ∀ d, d ≤ M → l.foldl (fun d x => max d (dp (x / 2).toNat)) d ≤ M
  | [], _, d, hd => hd
  | a :: r, h, d, hd => by
    rw [List.foldl_cons]
    exact mxE_le r (fun x hx => h x (List.mem_cons_of_mem _ hx)) _ (by have := h a List.mem_cons_self; omega)
theorem untE_or (dl : Nat) : ∀ (l : List Int) (V : Nat → Nat) (u : Nat), (l.foldl (fun U x => upd U (x / 2).toNat dl) V u = V u ∧ ∀ x, x ∈ l → (x / 2).toNat ≠ u) ∨ (l.foldl (fun U x => upd U (x / 2).toNat dl) V u = dl ∧ ∃ x, x ∈ l ∧ (x / 2).toNat = u)
  | [], V, u => Or.inl ⟨rfl, fun x hx => absurd hx (by simp)⟩
  | a :: r, V, u => by
    rw [List.foldl_cons]
    rcases untE_or dl r (upd V (a / 2).toNat dl) u with ⟨h1, h2⟩ | ⟨h1, x, hx, hu⟩
    · by_cases e : u = (a / 2).toNat
      · refine Or.inr ⟨?_, a, List.mem_cons_self, e.symm⟩
        rw [h1, e, upd_same]
      · refine Or.inl ⟨?_, fun x hx => ?_⟩
        · rw [h1, upd_ne e]
        · rcases List.mem_cons.1 hx with rfl | hx
          · exact fun h => e h.symm
          · exact h2 x hx
    · exact Or.inr ⟨h1, x, List.mem_cons_of_mem _ hx, hu⟩
/-- the choice begins behind the ends -/
theorem cov_start {P : (Nat → Bool) → Prop} {F N : Nat} {Cs : List (List Ct)} {dp : Nat → Nat} (hC : CutE P F N Cs dp) (l : List Int) : CovI P F N dp (mxE dp l) (fun u => ∃ x, x ∈ l ∧ (x / 2).toNat = u) N (untE (mxE dp l) l) [] [] [] := by
  refine CovI.start (fun u hE hF hN => ?_) (fun u => ?_) (fun u hF hN hU => ?_) (fun u hE hF hN => ?_)
  · obtain ⟨x, hx, hu⟩ := hE
    rcases untE_or (mxE dp l) l (fun _ => 0) u with ⟨_, h2⟩ | ⟨h1, _⟩
    · exact absurd hu (h2 x hx)
    · exact h1
  · rcases untE_or (mxE dp l) l (fun _ => 0) u with ⟨h1, _⟩ | ⟨h1, _⟩
    · exact Or.inl h1
    · exact Or.inr h1
  · rcases untE_or (mxE dp l) l (fun _ => 0) u with ⟨h1, _⟩ | ⟨_, x, hx, rfl⟩
    · unfold untE at hU; rw [h1] at hU; omega
    · exact mxE_ge hx
  · obtain ⟨x, hx, rfl⟩ := hE
    obtain ⟨_, _, _, _, c, _, e⟩ := hC.gate _ hF hN
    have := mxE_ge (dp := dp) hx
    omega
theorem ChAt.until {w : World} {D : ChS} {U : Nat → Nat} {gv lv ev bv : Value} (h : ChAt w D U gv lv ev bv) (v t : Nat) : ChAt (w.setCell ⟨D.ub, v, none⟩ (.int .i64 (t : Nat))) D (upd U v t) gv lv ev bv := by
  have hb := But.set D.ub v w (.int .i64 (t : Nat))
  obtain ⟨f, hf⟩ := h.pr
  refine ⟨hb.blk h.bk h.ne.1, ⟨f, hb.blk hf h.ne.2.1⟩, ?_, h.ne⟩
  have := h.un.set v (.int .i64 (t : Nat))
  rw [tab_set, upd_nat] at this
  exact this
/-- nothing is chosen as yet -/
theorem CvAt.none {w : World} {D : ChS} {U : Nat → Nat} (h : ChAt w D U (.slice none 0 0) (.slice none 0 0) (.slice none 0 0) (.slice none 0 0)) : CvAt w.heap.size w D U [] [] [] (.slice none 0 0) (.slice none 0 0) (.slice none 0 0) (.slice none 0 0) := by
  obtain ⟨f, hf⟩ := h.pr
  exact ⟨h, own_nil _ _ _ _, own_nil _ _ _ _, own_nil _ _ _ _, own_nil _ _ _ _, FaV.nil _, FaV.nil _, FaV.nil _, FaV.nil _, FaV.nil _, FaV.nil _, ⟨h.bk.lt, hf.lt, h.un.lt⟩, Nat.le_refl _⟩
end Go.Proofs.Ytlaljeobdddegaa
