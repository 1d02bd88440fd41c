import Derived.Test.YtlaljeobdddegaaMrA
namespace Go.Proofs.Ytlaljeobdddegaa
open Go.RowKit Mp

theorem own_same {w w' : World} {C e sz n : Nat} {v : Value} {xs : List Value} (h : w.ownsRow C e sz v n xs) (hs : ∀ k, v.ownBlock = some k → w'.heap[k]? = w.heap[k]?) : w'.ownsRow C e sz v n xs := by
  refine ⟨h.1, ?_⟩
  rcases h.2 with ⟨rfl, hn⟩ | ⟨g, cap, cur, rfl, h1, h2, h3⟩
  · exact Or.inl ⟨rfl, hn⟩
  · exact Or.inr ⟨g, cap, cur, rfl, h1, (hs g rfl).trans h2, h3⟩
theorem CvAt.gates {C : Nat} {w w1 w2 : World} {D : ChS} {U : Nat → Nat} {gs : List Nat} {Ls : List (List Nat)} {bs : List Nat} {gv lv ev bv : Value} (h : CvAt C w D U gs Ls bs gv lv ev bv) (hb : Bl w w1) (hg : w1.grownBy w2 gv.ownBlock) {v g cap s : Nat} (ho : w2.ownsRow C 3 1 (.slice (some ⟨g, 0, none⟩) (gs.length + 1) cap) (gs.length + 1) (gs.map nV ++ [.int .i64 (v : Int)])) (hp : gv.ownBlock = some g ∨ g = s) (hs : w.heap.size ≤ s) :
    CvAt C (w2.setCell ⟨D.cb, 4, none⟩ (.slice (some ⟨g, 0, none⟩) (gs.length + 1) cap)) D U (gs ++ [v]) Ls bs (.slice (some ⟨g, 0, none⟩) (gs.length + 1) cap) lv ev bv := by
  have h1 := h.to hb
  have hg6 := (But.set D.cb 4 w2 (.slice (some ⟨g, 0, none⟩) (gs.length + 1) cap)).grown
  have hcb : some D.cb ≠ gv.ownBlock := fun e => by have := own_newB h.og D.cb e.symm; have := h.lt.1; omega
  have nx : ∀ {e sz n : Nat} {x : Value} {xs : List Value}, w1.ownsRow C e sz x n xs → FaV gv x → (w2.setCell ⟨D.cb, 4, none⟩ (.slice (some ⟨g, 0, none⟩) (gs.length + 1) cap)).ownsRow C e sz x n xs := fun hx hf => own_kept (own_kept hx hg hf.or) hg6 (new_ne (own_newB hx) h.lt.1)
  have s1 := hb.size
  have s2 := hg.size
  refine ⟨?_, ?_, nx h1.ol h.f1, nx h1.oe h.f2, nx h1.ob h.f3, h.f1.new h.ol hs (place_of hp), h.f2.new h.oe hs (place_of hp), h.f3.new h.ob hs (place_of hp), h.f4, h.f5, h.f6, h.lt, by have := hg6.size; have := h1.le; omega⟩
  · refine h.ch.cell4 ((blk_kept h1.ch.bk hg hcb).set 4 _) (fun k hk hkk => ?_)
    have hkC : k < C ∧ k ≠ D.cb := by
      rcases hkk with rfl | rfl
      · exact ⟨h.lt.2.1, fun e => h.ch.ne.2.2 e.symm⟩
      · exact ⟨h.lt.2.2, fun e => h.ch.ne.1 e.symm⟩
    rw [hg6.block k (by omega) (fun e => hkC.2 (by injection e)), hg.block k (by omega) (fun e => by have := own_newB h.og k e.symm; omega), hb.block k hk]
  · rw [List.map_append, List.length_append]
    exact own_kept ho hg6 (new_ne (own_newB ho) h.lt.1)
theorem CvAt.bits {C : Nat} {w w1 w2 : World} {D : ChS} {U : Nat → Nat} {gs : List Nat} {Ls : List (List Nat)} {bs : List Nat} {gv lv ev bv : Value} (h : CvAt C w D U gs Ls bs gv lv ev bv) (hb : Bl w w1) (hg : w1.grownBy w2 bv.ownBlock) {v g cap s : Nat} (ho : w2.ownsRow C 3 1 (.slice (some ⟨g, 0, none⟩) (bs.length + 1) cap) (bs.length + 1) (bs.map nV ++ [.int .i64 (v : Int)])) (hp : bv.ownBlock = some g ∨ g = s) (hs : w.heap.size ≤ s) :
    CvAt C (w2.setCell ⟨D.cb, 7, none⟩ (.slice (some ⟨g, 0, none⟩) (bs.length + 1) cap)) D U gs Ls (bs ++ [v]) gv lv ev (.slice (some ⟨g, 0, none⟩) (bs.length + 1) cap) := by
  have h1 := h.to hb
  have hg6 := (But.set D.cb 7 w2 (.slice (some ⟨g, 0, none⟩) (bs.length + 1) cap)).grown
  have hcb : some D.cb ≠ bv.ownBlock := fun e => by have := own_newB h.ob D.cb e.symm; have := h.lt.1; omega
  have nx : ∀ {e sz n : Nat} {x : Value} {xs : List Value}, w1.ownsRow C e sz x n xs → FaV bv x → (w2.setCell ⟨D.cb, 7, none⟩ (.slice (some ⟨g, 0, none⟩) (bs.length + 1) cap)).ownsRow C e sz x n xs := fun hx hf => own_kept (own_kept hx hg hf.or) hg6 (new_ne (own_newB hx) h.lt.1)
  have s1 := hb.size
  have s2 := hg.size
  refine ⟨?_, nx h1.og h.f3.symm, nx h1.ol h.f5.symm, nx h1.oe h.f6.symm, ?_, h.f1, h.f2, (h.f3.symm.new h.og hs (place_of hp)).symm, h.f4, (h.f5.symm.new h.ol hs (place_of hp)).symm, (h.f6.symm.new h.oe hs (place_of hp)).symm, h.lt, by have := hg6.size; have := h1.le; omega⟩
  · refine h.ch.cell4 ((blk_kept h1.ch.bk hg hcb).set 7 _) (fun k hk hkk => ?_)
    have hkC : k < C ∧ k ≠ D.cb := by
      rcases hkk with rfl | rfl
      · exact ⟨h.lt.2.1, fun e => h.ch.ne.2.2 e.symm⟩
      · exact ⟨h.lt.2.2, fun e => h.ch.ne.1 e.symm⟩
    rw [hg6.block k (by omega) (fun e => hkC.2 (by injection e)), hg.block k (by omega) (fun e => by have := own_newB h.ob k e.symm; omega), hb.block k hk]
  · rw [List.map_append, List.length_append]
    exact own_kept ho hg6 (new_ne (own_newB ho) h.lt.1)
theorem CvAt.leaves {C : Nat} {w w' : World} {D : ChS} {U : Nat → Nat} {gs : List Nat} {Ls : List (List Nat)} {bs : List Nat} {gv lv ev bv : Value} {ls : List Nat} {e : Ending} (h : CvAt C w D U gs Ls bs gv lv ev bv) (ha : AddP C w w' D.cb (.pointer (some ⟨D.fb, 0, none⟩)) (.int .i64 (D.F : Nat)) (.slice (some ⟨D.pb, 0, none⟩) D.N D.N) (.slice (some ⟨D.ub, 0, none⟩) D.N D.N) gv bv lv ev Ls 89 ls e) : (∃ v, e = .returned v) ∧ ∃ lv' ev', CvAt C w' D U gs (Ls ++ [ls]) bs gv lv' ev' bv ∧ (∀ x : Nat, x < w.heap.size → x ≠ D.cb → some x ≠ lv.ownBlock → some x ≠ ev.ownBlock → w'.heap[x]? = w.heap[x]?) ∧ w.heap.size ≤ w'.heap.size ∧ w'.os = w.os ∧ w'.tape = w.tape ∧ w'.output = w.output := by
  obtain ⟨av', ev', hv, HB, HA, HE, HF, HFr, HPl, HSz⟩ := ha
  obtain ⟨s1, s2, h1, h2, h3, h4⟩ := HPl.out
  have keep : ∀ {e sz n : Nat} {x : Value} {xs : List Value}, w.ownsRow C e sz x n xs → FaV x lv → FaV x ev → w'.ownsRow C e sz x n xs := fun hx f1 f2 => own_same hx (fun k hk => HFr.out k (own_lt hx k hk) (fun e => by have := own_newB hx k hk; have := h.lt.1; omega) (fun e => f1 k hk e.symm) (fun e => f2 k hk e.symm))
  refine ⟨hv, av', ev', ⟨?_, keep h.og h.f1 h.f2, HA.out, HE.out, keep h.ob h.f5.symm h.f6.symm, (h.f1.symm.new h.og h1 h3).symm, (h.f2.symm.new h.og h2 h4).symm, h.f3, HF.out, h.f5.new h.ob h1 h3, h.f6.new h.ob h2 h4, h.lt, Nat.le_trans h.le HSz.out.1⟩, HFr.out, HSz.out⟩
  refine h.ch.cell4 HB.out (fun k hk hkk => ?_)
  have hkC : k < C ∧ k ≠ D.cb := by
    rcases hkk with rfl | rfl
    · exact ⟨h.lt.2.1, fun e => h.ch.ne.2.2 e.symm⟩
    · exact ⟨h.lt.2.2, fun e => h.ch.ne.1 e.symm⟩
  exact HFr.out k hk hkC.2 (fun e => by have := own_newB h.ol k e.symm; omega) (fun e => by have := own_newB h.oe k e.symm; omega)
end Go.Proofs.Ytlaljeobdddegaa
