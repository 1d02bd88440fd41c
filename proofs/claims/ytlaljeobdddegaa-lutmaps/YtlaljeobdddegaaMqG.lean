import Derived.Test.YtlaljeobdddegaaMqF
namespace Go.Proofs.Ytlaljeobdddegaa
open Go.RowKit Mp

theorem CtAt.heap {w w' : World} {b o : Nat} {c : Ct} (h : CtAt w b o c) (hs : w.heap.size ≤ w'.heap.size) (hb : w'.heap[b]? = w.heap[b]?) : CtAt w' b o c := by
  have e : ∀ j, w'.cell? ⟨b, j, none⟩ = w.cell? ⟨b, j, none⟩ := fun j => World.cell?_of_block (a := ⟨b, j, none⟩) hb
  exact ⟨Nat.lt_of_lt_of_le h.lt hs, (e _).trans h.c0, (e _).trans h.c1, (e _).trans h.c2, (e _).trans h.c3, (e _).trans h.c4, (e _).trans h.c5, (e _).trans h.c6, (e _).trans h.c7⟩
/-- its blocks lie below C -/
structure FnLow (C : Nat) (S : FnS) : Prop where
  f : S.fb < C
  a : S.ab < C
  e : S.eb < C
theorem FinR.low {C : Nat} {w w' : World} {S : FnS} {Cs : List (List Ct)} (h : FinR w S Cs) (hl : FnLow C S) (hb : Below C w w') : FinR w' S Cs :=
  ⟨(hb.cell (p := ⟨S.fb, 0, none⟩) hl.f).trans h.c0, (hb.cell (p := ⟨S.fb, 1, none⟩) hl.f).trans h.c1, Nat.lt_of_lt_of_le h.lf hb.size, Nat.lt_of_lt_of_le h.le hb.size, h.cap, fun k c hc => (h.all k c hc).to hl.a hb, fun v hv => (hb.cell (p := ⟨S.eb, v, none⟩) hl.e).trans (h.ends v hv), h.few, h.num, h.lv4⟩
def flC (cs : List Ct) : List Value := cs.flatMap ctC
theorem ctC_len (c : Ct) : (ctC c).length = 8 := rfl
theorem flC_len (cs : List Ct) : (flC cs).length = cs.length * 8 := by
  unfold flC
  induction cs with
  | nil => rfl
  | cons a t ih => rw [List.flatMap_cons, List.length_append, ih, ctC_len, List.length_cons]; omega
theorem flC_snoc (cs : List Ct) (c : Ct) : flC (cs ++ [c]) = flC cs ++ ctC c := by unfold flC; rw [List.flatMap_append]; simp
theorem flC_at : ∀ {cs : List Ct} {k j : Nat} {c : Ct} {v : Value}, cs[k]? = some c → (ctC c)[j]? = some v → (flC cs)[k * 8 + j]? = some v
  | a :: t, 0, j, c, v, hc, hv => by
    have e : a = c := by simpa using hc
    have hj : j < 8 := (List.getElem?_eq_some_iff.1 hv).1
    show (ctC a ++ flC t)[0 * 8 + j]? = some v
    rw [Nat.zero_mul, Nat.zero_add, List.getElem?_append_left (by rw [ctC_len]; exact hj), e]; exact hv
  | a :: t, k + 1, j, c, v, hc, hv => by
    show (ctC a ++ flC t)[(k + 1) * 8 + j]? = some v
    rw [List.getElem?_append_right (by rw [ctC_len]; omega), ctC_len]
    have : (k + 1) * 8 + j - 8 = k * 8 + j := by omega
    rw [this]
    exact flC_at (by simpa using hc) hv
theorem one_ctC (c : Ct) : ∀ u ∈ ctC c, u.oneCell' = true := by
  intro u hu
  unfold ctC at hu
  simp only [List.mem_cons, List.not_mem_nil, or_false] at hu
  rcases hu with rfl | rfl | rfl | rfl | rfl | rfl | rfl | rfl <;> rfl
theorem info_cut0 : (Try.prog.info? 114).map (fun i => (i.zero, i.size, i.bytes)) = some (some (.agg #[.int .i64 0, .int .i64 0, .int .i64 0, .int .i64 0, .int .i64 0, .int .u64 0, .int .i64 0, .int .u16 0]), 8, 64) := by kernel_rfl
theorem info_cut : ∃ i, Try.prog.info? 114 = some i ∧ i.zero = some (.agg #[.int .i64 0, .int .i64 0, .int .i64 0, .int .i64 0, .int .i64 0, .int .u64 0, .int .i64 0, .int .u16 0]) ∧ i.size = 8 ∧ i.bytes = 64 := by
  have h := info_cut0
  cases hi : Try.prog.info? 114 with
  | none => rw [hi] at h; simp at h
  | some i => rw [hi] at h; simp at h; exact ⟨i, rfl, h.1, h.2.1, h.2.2⟩
/-- append where there is room -/
theorem wpList_append_rm {P : Program} (w : World) {ops : Array Oper} {rest : List Oper} {o : Oper} {a : Act} {Q : Exit → Act → World → Prop} (hgd : o.guard = none) (s x : Operand) (t : TypeId)
    (ho : o.op = .call { callee := .builtin .append, args := #[s, x], argTypes := #[t, t] })
    (e : TypeId) (i : TypeInfo) (size : Nat) (ht : P.underlying t = some (.slice e)) (hi : P.info? e = some i) (hsize : i.size = size)
    (g n cap : Nat) (cur : Array Value) (hs : a.eval s = .slice (some ⟨g, 0, none⟩) n cap) (hg : w.heap[g]? = some (.cells cur e (0, 0)))
    (ad : Addr) (m c : Nat) (news : List Value) (hx : a.eval x = .slice (some ad) m c) (hl : news.length = m * size) (hnews : ∀ j u, news[j]? = some u → w.cell? (ad.add j) = some u) (h1 : ∀ u ∈ news, u.oneCell' = true)
    (hroom : n + m ≤ cap) (hfit : n * size + news.length ≤ cur.size)
    (h : wpList P ops Q rest (a.put o.dst (.slice (some ⟨g, 0, none⟩) (n + m) cap)) (w.setRow g (cur.toList.take (n * size) ++ news ++ cur.toList.drop (n * size + news.length)).toArray)) : wpList P ops Q (o :: rest) a w := by
  subst hsize
  refine wpList_plain hgd fun K hK => ?_
  have hr := run_append_room (P := P) w t o.type e i ht hi g n cap cur hg ad m c news hl hnews h1 hroom hfit
  unfold Oper.wp execOp
  simp only [ho, resolve, invoke, builtin, Sem.run_bind, Sem.run_pure, Result.andThen_ok, List.map_toArray, List.map_cons, List.map_nil, hs, hx, hr]
  exact hK _ _ h
/-- a row of cuts that is being thinned out: fs are laid anew at its begin, from i on it is as it was -/
structure Thin (w : World) (kb cap i : Nat) (ks fs : List Ct) : Prop where
  ex : ∃ cur : Array Value, w.heap[kb]? = some (.cells cur 114 (0, 0)) ∧ cur.size = cap * 8 ∧ cur.toList.take (fs.length * 8) = flC fs ∧ ∀ k c, i ≤ k → ks[k]? = some c → ∀ j v, (ctC c)[j]? = some v → cur[k * 8 + j]? = some v
theorem Thin.at {w : World} {kb cap i : Nat} {ks fs : List Ct} (h : Thin w kb cap i ks fs) {k : Nat} {c : Ct} (hk : i ≤ k) (hc : ks[k]? = some c) : CtAt w kb (k * 8) c := by
  obtain ⟨cur, h1, h2, h3, h4⟩ := h.ex
  refine CtAt.of (Array.getElem?_eq_some_iff.1 h1).1 (fun j v hv => ?_)
  simp [World.cell?, h1, h4 k c hk hc j v hv]
theorem Thin.to {w w' : World} {kb cap i : Nat} {ks fs : List Ct} (h : Thin w kb cap i ks fs) (hb : Bl w w') : Thin w' kb cap i ks fs := by
  obtain ⟨cur, h1, h2⟩ := h.ex
  exact ⟨cur, (hb.block kb (Array.getElem?_eq_some_iff.1 h1).1).trans h1, h2⟩
theorem Thin.skip {w : World} {kb cap i : Nat} {ks fs : List Ct} (h : Thin w kb cap i ks fs) : Thin w kb cap (i + 1) ks fs := by
  obtain ⟨cur, h1, h2, h3, h4⟩ := h.ex
  exact ⟨cur, h1, h2, h3, fun k c hk => h4 k c (by omega)⟩
theorem Thin.put {w : World} {kb cap i : Nat} {ks fs : List Ct} {c : Ct} {cur : Array Value} (h1 : w.heap[kb]? = some (.cells cur 114 (0, 0))) (h2 : cur.size = cap * 8) (h3 : cur.toList.take (fs.length * 8) = flC fs) (h4 : ∀ k c, i ≤ k → ks[k]? = some c → ∀ j v, (ctC c)[j]? = some v → cur[k * 8 + j]? = some v) (hf : fs.length ≤ i) (hi : i < cap) :
    Thin (w.setRow kb (cur.toList.take (fs.length * 8) ++ ctC c ++ cur.toList.drop (fs.length * 8 + (ctC c).length)).toArray) kb cap (i + 1) ks (fs ++ [c]) := by
  have hcl : cur.toList.length = cap * 8 := by rw [Array.length_toList]; exact h2
  have hlen : (cur.toList.take (fs.length * 8)).length = fs.length * 8 := by rw [List.length_take, hcl]; omega
  refine ⟨_, setRow_heap w kb cur _ _ _ h1, ?_, ?_, fun k x hk hx j v hv => ?_⟩
  · rw [List.size_toArray, List.length_append, List.length_append, hlen, ctC_len, List.length_drop, hcl]; omega
  · have e : (fs ++ [c]).length * 8 = (cur.toList.take (fs.length * 8) ++ ctC c).length := by
      have e1 : (fs ++ [c]).length = fs.length + 1 := by simp
      rw [e1, List.length_append, hlen, ctC_len]; omega
    rw [e, List.take_left, h3, flC_snoc]
  · have hj : j < 8 := (List.getElem?_eq_some_iff.1 hv).1
    have := h4 k x (by omega) hx j v hv
    rw [List.getElem?_toArray, List.getElem?_append_right (by rw [List.length_append, hlen, ctC_len]; omega), List.length_append, hlen, ctC_len, List.getElem?_drop]
    rw [← Array.getElem?_toList] at this
    rw [← this]
    congr 1
    omega
theorem Thin.own {w : World} {C kb cap i : Nat} {ks fs : List Ct} (h : Thin w kb cap i ks fs) (hC : C ≤ kb) (hf : fs.length ≤ cap) (hm : cap ≤ maxLen) : w.ownsRow C 114 8 (.slice (some ⟨kb, 0, none⟩) fs.length cap) fs.length (flC fs) := by
  obtain ⟨cur, h1, h2, h3, _⟩ := h.ex
  exact ⟨flC_len fs, Or.inr ⟨kb, cap, cur, rfl, hC, h1, hf, hm, h2, h3⟩⟩
theorem Thin.new {w : World} {C kb cap : Nat} {ks : List Ct} (h : w.ownsRow C 114 8 (.slice (some ⟨kb, 0, none⟩) ks.length cap) ks.length (flC ks)) : C ≤ kb ∧ ks.length ≤ cap ∧ cap ≤ maxLen ∧ Thin w kb cap 0 ks [] := by
  rcases h.2 with ⟨h', _⟩ | ⟨g, cap', cur, h', hg, hh, h1, h2, h3, h4⟩
  · cases h'
  · simp only [Value.slice.injEq, Option.some.injEq, Addr.mk.injEq, and_true, true_and] at h'
    obtain ⟨rfl, rfl⟩ := h'
    refine ⟨hg, h1, h2, cur, hh, h3, rfl, fun k c _ hc j v hv => ?_⟩
    have h5 := flC_at hc hv
    have h6 := (List.getElem?_eq_some_iff.1 h5).1
    rw [flC_len] at h6
    rw [← h4, List.getElem?_take_of_lt h6, Array.getElem?_toList] at h5
    exact h5
theorem setRow_grown (w : World) (kb : Nat) (cs : Array Value) : w.grownBy (w.setRow kb cs) (some kb) := ⟨rfl, rfl, rfl, by simp [World.setRow], fun k _ hk => setRow_other w kb k cs (fun e => hk (by rw [e]))⟩
theorem Bl.grown {a b : World} (h : Bl a b) (row : Option Nat) : a.grownBy b row := ⟨h.os, h.tape, h.output, h.size, fun k hk _ => h.block k hk⟩
theorem cutsU : Try.prog.underlying 83 = some (.slice 114) := by kernel_rfl
theorem cut_none (wx : World) : (Instr.sliceAt 83 (.slice none 0 0) none (some (.int .i64 0)) none).run Try.prog wx = .ok (.slice none 0 0) wx := by
  rw [run_sliceAt_slice wx _ _ _ _ _ cut_u, run_slice_h wx _ _ 0 0 cut_u .i64 0 (by omega) (by omega), cut_s]; rfl
theorem cut_some (wx : World) (g n cap : Nat) : (Instr.sliceAt 83 (.slice (some ⟨g, 0, none⟩) n cap) none (some (.int .i64 0)) none).run Try.prog wx = .ok (.slice (some ⟨g, 0, none⟩) 0 cap) wx := by
  rw [run_sliceAt_slice wx _ _ _ _ _ cut_u, run_slice_h wx _ _ n cap cut_u .i64 0 (by omega) (by omega), cut_s]
  show Result.ok (sliced _ 0 0 cap 8) wx = _
  unfold sliced
  have : (if cap = 0 then (some ⟨g, 0, none⟩ : Option Addr) else (some (⟨g, 0, none⟩ : Addr)).map (·.add (0 * 8))) = some ⟨g, 0, none⟩ := by
    split
    · rfl
    · simp [Addr.add]
  rw [this]; rfl
end Go.Proofs.Ytlaljeobdddegaa
