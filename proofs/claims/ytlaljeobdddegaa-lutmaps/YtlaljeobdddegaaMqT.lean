import Derived.Test.YtlaljeobdddegaaMqS
namespace Go.Proofs.Ytlaljeobdddegaa
open Go.RowKit Mp

/-- one cut more, at a step of a region that draws -/
theorem step_cut (w : World) {ops : Array Oper} {o : Oper} {a : Act} {K : Act → World → Prop} {Q : Exit → Act → World → Prop} {E : Prop} (hgd : o.guard = none) (s x : Operand)
    (ho : o.op = .call { callee := .builtin .append, args := #[s, x], argTypes := #[83, 83] })
    (base : Nat) (v : Value) (n : Nat) (xs : List Value) (hs : a.eval s = v) (hown : w.ownsRow base 114 8 v n xs) (b : Nat) (c : Ct) (hx : a.eval x = .slice (some ⟨b, 0, none⟩) 1 1) (hy : Blk w b 114 (ctC c).toArray) (hn : n ≤ 900000000000) (hbase : base ≤ w.heap.size)
    (h : ∀ g cap w', w'.ownsRow base 114 8 (.slice (some ⟨g, 0, none⟩) (n + 1) cap) (n + 1) (xs ++ ctC c) → w.grownBy w' v.ownBlock → K (a.put o.dst (.slice (some ⟨g, 0, none⟩) (n + 1) cap)) w') : if Region.wanted o (yielded ops a.tmps) = true then Oper.wp Try.prog o a w K Q else E := by
  obtain ⟨i, hi, hz, hsz, hby⟩ := info_cut
  refine step_append_lies w hgd s x 83 ho base 114 i _ 8 64 cutsU hi hz hsz hby rfl (by decide) v n xs hs hown ⟨b, 0, none⟩ 1 1 (ctC c) hx rfl (fun j u hu => ?_) (one_ctC c) (by decide) (by simp only [maxLen]; omega) (by omega) hbase _ rfl ?_
  · rw [addL, Nat.zero_add]
    exact hy.cell (by rw [List.getElem?_toArray]; exact hu)
  · intro g cap w' h1 h2 _ _
    exact h g cap w' h1 h2
/-- what the cuts of all variables are like -/
structure FinF (Cs : List (List Ct)) : Prop where
  has : HasC Cs
  each : ∀ v, v < Cs.length → ∀ c, c ∈ Cs.getD v [] → Ris c.lv ∧ LvIn Cs.length c ∧ c.tb < 65536
  few : ∀ v, v < Cs.length → (Cs.getD v []).length ≤ 257
theorem CtAt.blk {w : World} {b : Nat} {t : TypeId} {c : Ct} (h : Blk w b t (ctC c).toArray) : CtAt w b 0 c := CtAt.of h.lt (fun j v hv => by rw [Nat.zero_add]; exact h.cell (by rw [List.getElem?_toArray]; exact hv))
theorem ctJ_in {n : Nat} {i j : Bool} {a b : Ct} (ha : LvIn n a) (hb : LvIn n b) (hl : (joinL a.lv b.lv).length ≤ 4) : LvIn n (ctJ i j a b) := ⟨hl, fun u hu => by
  rcases (joinL_mem _ _ _).1 hu with hu | hu
  · exact ha.2 u hu
  · exact hb.2 u hu⟩
theorem own_rowC {w : World} {C : Nat} {v : Value} {ks : List Ct} (h : w.ownsRow C 114 8 v ks.length (flC ks)) : ∃ ka kc, v = .slice ka ks.length kc ∧ CtsR w ka ks := by
  rcases h.2 with ⟨rfl, h0⟩ | ⟨g, cap, cur, rfl, _, hg, _, _, h3, h4⟩
  · have e : ks = [] := List.eq_nil_of_length_eq_zero h0
    subst e
    exact ⟨none, 0, rfl, fun k c hc => by simp at hc⟩
  · refine ⟨some ⟨g, 0, none⟩, cap, rfl, fun k c hc => ⟨g, 0, rfl, CtAt.of (Array.getElem?_eq_some_iff.1 hg).1 (fun j v hv => ?_)⟩⟩
    have h5 := flC_at hc hv
    have h6 := (List.getElem?_eq_some_iff.1 h5).1
    rw [flC_len] at h6
    rw [← h4, List.getElem?_take_of_lt h6, Array.getElem?_toList] at h5
    rw [Nat.zero_add]
    simp [World.cell?, hg, h5]
/-- all that is known while the cuts of a gate are found -/
structure CoE (w : World) (S : FnS) (Cs : List (List Ct)) (p q : Nat) (i j : Bool) : Prop where
  fr : ∀ v, Bl w v → FinR v S Cs
  ff : FinF Cs
  hp : p < Cs.length
  hq : q < Cs.length
/-- the cuts that are kept so far -/
structure CoK (w w' : World) (Cs : List (List Ct)) (kv : Value) (ks : List Ct) : Prop where
  own : w'.ownsRow w.heap.size 114 8 kv ks.length (flC ks)
  bw : Bl w w'
  lv : ∀ k, k ∈ ks → LvIn Cs.length k
  num : ks.length ≤ 70000
theorem CoK.to {w w' w2 : World} {Cs : List (List Ct)} {kv : Value} {ks : List Ct} (h : CoK w w' Cs kv ks) (hb : Bl w' w2) : CoK w w2 Cs kv ks := ⟨own_below h.own hb, Bl.tr h.bw hb, h.lv, h.num⟩
/-- a box of one's own is changed -/
theorem CoK.box {w w' : World} {Cs : List (List Ct)} {kv : Value} {ks : List Ct} (h : CoK w w' Cs kv ks) {bb o : Nat} {x : Value} (hb : w.heap.size ≤ bb) (hk : some bb ≠ kv.ownBlock) : CoK w (w'.setCell ⟨bb, o, none⟩ x) Cs kv ks :=
  ⟨own_kept h.own (But.set bb o w' x).grown (by
    cases e : kv.ownBlock with
    | none => exact Or.inl rfl
    | some k => exact Or.inr (fun h' => hk (by rw [e]; exact h'.symm))), h.bw.trans ((But.set bb o w' x).below hb h.bw.size), h.lv, h.num⟩
theorem CoK.eight {w w' : World} {Cs : List (List Ct)} {kv : Value} {ks : List Ct} (h : CoK w w' Cs kv ks) {bb : Nat} {v0 v1 v2 v3 v4 v5 v6 v7 : Value} (hb : w.heap.size ≤ bb) (hk : some bb ≠ kv.ownBlock) : CoK w ((((((((w'.setCell ⟨bb, 0, none⟩ v0).setCell ⟨bb, 1, none⟩ v1).setCell ⟨bb, 2, none⟩ v2).setCell ⟨bb, 3, none⟩ v3).setCell ⟨bb, 4, none⟩ v4).setCell ⟨bb, 5, none⟩ v5).setCell ⟨bb, 6, none⟩ v6).setCell ⟨bb, 7, none⟩ v7) Cs kv ks := (((((((h.box hb hk).box hb hk).box hb hk).box hb hk).box hb hk).box hb hk).box hb hk).box hb hk
theorem CoK.drew {w w' : World} {Cs : List (List Ct)} {kv : Value} {ks : List Ct} (h : CoK w w' Cs kv ks) : CoK w w'.drew Cs kv ks := ⟨h.own, Below.drew h.bw, h.lv, h.num⟩
end Go.Proofs.Ytlaljeobdddegaa
