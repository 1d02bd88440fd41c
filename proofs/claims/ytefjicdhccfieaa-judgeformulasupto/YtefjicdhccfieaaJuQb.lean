import Derived.Test.YtefjicdhccfieaaJuP
namespace Go.Proofs.Ytefjicdhccfieaa
open Go.RowKit

theorem alike_ok {A B : GrD} (h : AlikeG A B = true) : GrOk A = true ∧ GrOk B = true ∧ A.ins = B.ins ∧ A.outs.length = B.outs.length := by
  unfold AlikeG at h
  rw [Bool.and_eq_true, Bool.and_eq_true, Bool.and_eq_true] at h
  obtain ⟨⟨⟨h1, h2⟩, h3⟩, h4⟩ := h
  refine ⟨h1, h2, of_decide_eq_true h3, ?_⟩
  have := of_decide_eq_true h4
  omega
/-- the joint graph of valid ones is not too great -/
structure JnB (G : GrD) : Prop where
  i0 : 0 ≤ G.ins
  i1 : G.ins ≤ 60000
  l1 : G.lats.length ≤ 20000
  a1 : G.ands.length ≤ 200000
  o1 : G.outs.length ≤ 200000
  andL : ∀ d, d ∈ G.ands → (0 ≤ d.x ∧ d.x ≤ 4000000) ∧ (0 ≤ d.y ∧ d.y ≤ 4000000)
  latL : ∀ d, d ∈ G.lats → 0 ≤ d.next ∧ d.next ≤ 4000000
  outL : ∀ x, x ∈ G.outs → 0 ≤ x ∧ x ≤ 4000000
theorem join_bounds {A B : GrD} (okA : OkB A) (okB : OkB B) : JnB (joinG A B) := by
  have hl : ((joinG A B).lats.length = A.lats.length + B.lats.length) ∧ ((joinG A B).ands.length = A.ands.length + B.ands.length) ∧ ((joinG A B).outs.length = A.outs.length + B.outs.length) := by
    obtain ⟨t1, t2, t3⟩ := takeG_lens (takeG ⟨A.ins, [], [], []⟩ A 0 B.lats.length) B A.lats.length (A.lats.length + A.ands.length)
    obtain ⟨q1, q2, q3⟩ := takeG_lens ⟨A.ins, [], [], []⟩ A 0 B.lats.length
    exact ⟨by show (takeG _ _ _ _).lats.length = _; rw [t1, q1]; simp, by show (takeG _ _ _ _).ands.length = _; rw [t2, q2]; simp, by show (takeG _ _ _ _).outs.length = _; rw [t3, q3]; simp⟩
  have a1 := okA.l1; have a2 := okA.a1; have a3 := okA.o1; have b1 := okB.l1; have b2 := okB.a1; have b3 := okB.o1
  have f1 : (0 : Int) ≤ 0 ∧ (0 : Int) ≤ 100000 := by omega
  have f2 : (0 : Int) ≤ B.lats.length ∧ (B.lats.length : Int) ≤ 100000 := by omega
  have f3 : (0 : Int) ≤ A.lats.length ∧ (A.lats.length : Int) ≤ 100000 := by omega
  have f4 : (0 : Int) ≤ (A.lats.length : Int) + A.ands.length ∧ (A.lats.length : Int) + A.ands.length ≤ 100000 := by omega
  refine ⟨okA.i0, okA.i1, by rw [hl.1]; omega, by rw [hl.2.1]; omega, by rw [hl.2.2]; omega, fun d hd => ?_, fun d hd => ?_, fun x hx => ?_⟩
  · have hd' : d ∈ ([] ++ A.ands.map (mvA A 0 B.lats.length)) ++ B.ands.map (mvA B A.lats.length (A.lats.length + A.ands.length)) := hd
    rcases List.mem_append.1 hd' with h | h
    · obtain ⟨c, hc, rfl⟩ := List.mem_map.1 (by simpa using h)
      exact ⟨mvF_le (okA.andL c hc).1 f1 f2, mvF_le (okA.andL c hc).2 f1 f2⟩
    · obtain ⟨c, hc, rfl⟩ := List.mem_map.1 h
      exact ⟨mvF_le (okB.andL c hc).1 f3 f4, mvF_le (okB.andL c hc).2 f3 f4⟩
  · have hd' : d ∈ ([] ++ A.lats.map (mvL A 0 B.lats.length)) ++ B.lats.map (mvL B A.lats.length (A.lats.length + A.ands.length)) := hd
    rcases List.mem_append.1 hd' with h | h
    · obtain ⟨c, hc, rfl⟩ := List.mem_map.1 (by simpa using h)
      exact mvF_le (okA.latL c hc) f1 f2
    · obtain ⟨c, hc, rfl⟩ := List.mem_map.1 h
      exact mvF_le (okB.latL c hc) f3 f4
  · have hd' : x ∈ ([] ++ A.outs.map (mvF A 0 B.lats.length)) ++ B.outs.map (mvF B A.lats.length (A.lats.length + A.ands.length)) := hx
    rcases List.mem_append.1 hd' with h | h
    · obtain ⟨c, hc, rfl⟩ := List.mem_map.1 (by simpa using h)
      exact mvF_le (okA.outL c hc) f1 f2
    · obtain ⟨c, hc, rfl⟩ := List.mem_map.1 h
      exact mvF_le (okB.outL c hc) f3 f4
theorem pairs_le {n : Int} {prs : List AndD} (h : pairsOk n prs = true) (hn : n ≤ 1000000) : ∀ d, d ∈ prs → (0 ≤ d.x ∧ d.x ≤ 4000000) ∧ (0 ≤ d.y ∧ d.y ≤ 4000000) := fun d hd => by
  have := List.all_eq_true.1 h d hd
  rw [Bool.and_eq_true] at this
  have q1 := of_decide_eq_true this.1
  have q2 := of_decide_eq_true this.2
  omega
theorem JnB.vs {G : GrD} (h : JnB G) : 0 ≤ G.vars ∧ G.vars ≤ 1000000 := by
  have := h.i0; have := h.i1; have := h.l1; have := h.a1
  have e : G.vars = 1 + G.ins + G.lats.length + G.ands.length := rfl
  omega

end Go.Proofs.Ytefjicdhccfieaa
