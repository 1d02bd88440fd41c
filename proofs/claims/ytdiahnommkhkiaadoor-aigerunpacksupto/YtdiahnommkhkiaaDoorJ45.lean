import Derived.Test.YtdiahnommkhkiaaDoorJ02
import Derived.Lib.AppendStr
import Derived.Deep.AppendLies
import Derived.Test.YtdiahnommkhkiaaDoorJ18
namespace Go.Proofs.YtdiahnommkhkiaaDoor
open Go.RowKit

/-- a row of bytes of one's own; a mark may stand behind its cells -/
def OwnM (w : World) (base : Nat) (e : TypeId) (v : Value) (n : Nat) (xs : List Value) : Prop :=
  xs.length = n ∧ ((v = .slice none 0 0 ∧ n = 0) ∨ ∃ g cap cur fz, v = .slice (some ⟨g, 0, none⟩) n cap ∧ base ≤ g ∧ w.heap[g]? = some (.cells cur e fz) ∧ (fz.2 ≤ fz.1 ∨ cap ≤ fz.1) ∧ n ≤ cap ∧ cap ≤ maxLen ∧ cur.size = cap ∧ cur.toList.take n = xs)
theorem OwnM.of {w : World} {base e n : Nat} {v : Value} {xs : List Value} (h : w.ownsRow base e 1 v n xs) : OwnM w base e v n xs := by
  refine ⟨by have := h.1; omega, ?_⟩
  rcases h.2 with h0 | ⟨g, cap, cur, hv, hb, hg, hc, hm, hs, ht⟩
  · exact .inl h0
  · exact .inr ⟨g, cap, cur, (0, 0), hv, hb, hg, .inl (Nat.le_refl _), hc, hm, by omega, by rw [Nat.mul_one] at ht; exact ht⟩
theorem OwnM.lt {w : World} {base e n : Nat} {v : Value} {xs : List Value} (h : OwnM w base e v n xs) : ∀ k, v.ownBlock = some k → base ≤ k ∧ k < w.heap.size := by
  intro k hk
  rcases h.2 with ⟨rfl, _⟩ | ⟨g, cap, cur, fz, rfl, hb, hg, _⟩
  · cases hk
  · have e1 : g = k := by simpa [Value.ownBlock] using hk
    subst e1
    refine ⟨hb, ?_⟩
    rcases Nat.lt_or_ge g w.heap.size with h1 | h1
    · exact h1
    · rw [Array.getElem?_eq_none h1] at hg; cases hg
theorem OwnM.by {w w' : World} {base e n : Nat} {v : Value} {xs : List Value} (h : OwnM w base e v n xs) (hk : ∀ k, v.ownBlock = some k → w'.heap[k]? = w.heap[k]?) : OwnM w' base e v n xs := by
  refine ⟨h.1, ?_⟩
  rcases h.2 with h0 | ⟨g, cap, cur, fz, hv, hb, hg, r⟩
  · exact .inl h0
  · exact .inr ⟨g, cap, cur, fz, hv, hb, (hk g (by rw [hv]; rfl)).trans hg, r⟩
theorem OwnM.to {w w' : World} {base e n : Nat} {v : Value} {xs : List Value} (h : OwnM w base e v n xs) (hb : Below w.heap.size w w') : OwnM w' base e v n xs :=
  h.by fun k hk => hb.block k (h.lt k hk).2
theorem OwnM.alloc {w : World} {base e n : Nat} {v : Value} {xs : List Value} (h : OwnM w base e v n xs) (o : Obj) : OwnM (w.alloc o) base e v n xs :=
  h.to ((Below.refl _ _).alloc (Nat.le_refl _) _)
theorem OwnM.kept {w w' : World} {base e n : Nat} {v : Value} {xs : List Value} {row : Option Nat} (h : OwnM w base e v n xs) (hg : w.grownBy w' row) (hne : v.ownBlock = none ∨ v.ownBlock ≠ row) : OwnM w' base e v n xs :=
  h.by fun k hk => hg.block k (h.lt k hk).2 (fun e => by rcases hne with h1 | h1
                                                         · rw [hk] at h1; cases h1
                                                         · exact h1 (by rw [hk, e]))
theorem OwnM.cells {w : World} {base e n : Nat} {v : Value} {xs : List Value} (h : OwnM w base e v n xs) {g : Nat} (hg : v.ownBlock = some g) : ∀ j u, xs[j]? = some u → w.cell? ((⟨g, 0, none⟩ : Addr).add j) = some u := by
  intro j u hj
  rcases h.2 with ⟨rfl, _⟩ | ⟨g', cap, cur, fz, rfl, hb, hh, _, hc, _, hs, ht⟩
  · cases hg
  · have e1 : g' = g := by simpa [Value.ownBlock] using hg
    subst e1
    rw [add0]
    have hjn := (List.getElem?_eq_some_iff.1 hj).1
    have hl := h.1
    have : cur[j]? = some u := by
      rw [← ht, List.getElem?_take_of_lt (by omega)] at hj
      rw [← Array.getElem?_toList]; exact hj
    simp [World.cell?, hh, this]
theorem OwnM.row {w : World} {base e n : Nat} {v : Value} {xs : List Value} (h : OwnM w base e v n xs) (hn : 0 < n) : ∃ g cap, v = .slice (some ⟨g, 0, none⟩) n cap ∧ base ≤ g ∧ g < w.heap.size := by
  rcases h.2 with ⟨_, h0⟩ | ⟨g, cap, cur, fz, hv, hb, hg, _⟩
  · omega
  · exact ⟨g, cap, hv, hb, (h.lt g (by rw [hv]; rfl)).2⟩

/-- one step of a row that grows: what else was there is there -/
def Step (w : World) (v : Value) (w' : World) (v' : Value) : Prop := w.grownBy w' v.ownBlock ∧ ∀ k, v'.ownBlock = some k → v.ownBlock = some k ∨ w.heap.size ≤ k
theorem Step.same {w w' : World} {v : Value} (h : Below w.heap.size w w') : Step w v w' v := ⟨⟨h.os, h.tape, h.output, h.size, fun k hk _ => h.block k hk⟩, fun _ h => .inl h⟩
theorem Step.refl (w : World) (v : Value) : Step w v w v := Step.same (Below.refl _ _)
theorem Step.trans {a b c : World} {u v x : Value} (h : Step a u b v) (k : Step b v c x) : Step a u c x := by
  refine ⟨⟨k.1.os.trans h.1.os, k.1.tape.trans h.1.tape, k.1.output.trans h.1.output, Nat.le_trans h.1.size k.1.size, fun i hi hne => ?_⟩, fun i hi => ?_⟩
  · have hs := h.1.size
    rw [k.1.block i (by omega) (fun e => ?_), h.1.block i hi hne]
    rcases h.2 i e.symm with h1 | h1
    · exact hne h1.symm
    · omega
  · rcases k.2 i hi with h1 | h1
    · exact h.2 i h1
    · exact .inr (Nat.le_trans h.1.size h1)
theorem Step.below {w w' : World} {v v' : Value} {B : Nat} (h : Step w v w' v') (hB : B ≤ w.heap.size) (hv : ∀ k, v.ownBlock = some k → B ≤ k) : Below B w w' :=
  ⟨h.1.os, h.1.tape, h.1.output, h.1.size, fun k hk => h.1.block k (by omega) (fun e => by have := hv k e.symm; omega)⟩

/-- cells are set in a row with a mark behind it -/
theorem run_storeM (P : Program) (g o : Nat) (t : TypeId) (fz : Nat × Nat) : ∀ (vs : List Value) (i : Nat) (cur : Array Value) (w : World), w.heap[g]? = some (.cells cur t fz) → (fz.2 ≤ fz.1 ∨ cur.size ≤ fz.1) → o + i + vs.length ≤ cur.size → (∀ v ∈ vs, v.oneCell' = true) →
    (storeCells ⟨g, o, none⟩ vs i).run P w = .ok () (w.setRow g (cur.toList.take (o + i) ++ vs ++ cur.toList.drop (o + i + vs.length)).toArray) := by
  intro vs
  induction vs with
  | nil =>
    intro i cur w hg _ _ _
    simp only [storeCells, List.append_nil, List.length_nil, Nat.add_zero, List.take_append_drop, Array.toArray_toList]
    rw [setRow_self w g cur t fz hg]; rfl
  | cons v rest ih =>
    intro i cur w hg hz hl h1
    simp only [List.length_cons] at hl
    have hi : o + i < cur.size := by omega
    have hadd : (⟨g, o, none⟩ : Addr).add i = ⟨g, o + i, none⟩ := by unfold Addr.add; split <;> simp_all
    have hcell : w.cell? ⟨g, o + i, none⟩ = some cur[o + i] := by simp [World.cell?, hg, hi]
    have hfro : w.frozen? ⟨g, o + i, none⟩ = false := by
      simp only [World.frozen?, hg]
      rcases hz with hz | hz <;> simp <;> omega
    have hst : (store ((⟨g, o, none⟩ : Addr).add i) v).run P w = .ok () (w.setRow g (cur.setIfInBounds (o + i) v)) := by
      rw [hadd, run_store P w _ v _ (h1 v (by simp)), hcell]
      simp [hfro, setCell_eq_setRow w g (o + i) cur t fz v hg]
    have hr := ih (i + 1) (cur.setIfInBounds (o + i) v) (w.setRow g (cur.setIfInBounds (o + i) v)) (setRow_heap w g cur _ t _ hg) (by simpa using hz) (by simp; omega) (fun x hx => h1 x (by simp [hx]))
    simp only [storeCells, Sem.run_bind, hst, Result.andThen_ok, hr, setRow_setRow]
    congr 3
    have e := list_seg_step cur.toList (o + i) v rest (by simp; omega)
    simpa [Array.toList_setIfInBounds, Nat.add_assoc] using e

section
variable {P : Program} (w : World)
theorem room_own (base e g n cap : Nat) (cur : Array Value) (fz : Nat × Nat) (xs news : List Value) (hx : xs.length = n) (hb : base ≤ g) (hg : w.heap[g]? = some (.cells cur e fz)) (hz : fz.2 ≤ fz.1 ∨ cap ≤ fz.1) (hm : cap ≤ maxLen) (hs : cur.size = cap) (ht : cur.toList.take n = xs) (hroom : n + news.length ≤ cap) :
    OwnM (w.setRow g (cur.toList.take n ++ news ++ cur.toList.drop (n + news.length)).toArray) base e (.slice (some ⟨g, 0, none⟩) (n + news.length) cap) (n + news.length) (xs ++ news) ∧ w.grownBy (w.setRow g (cur.toList.take n ++ news ++ cur.toList.drop (n + news.length)).toArray) (some g) := by
  refine ⟨⟨by simp; omega, .inr ⟨g, cap, _, fz, rfl, hb, setRow_heap w g cur _ e _ hg, hz, hroom, hm, ?_, ?_⟩⟩, ⟨rfl, rfl, rfl, by simp, fun k _ hk => setRow_other w g k _ (fun e => hk (by simp [e]))⟩⟩
  · simp only [List.size_toArray, List.length_append, List.length_take, List.length_drop, Array.length_toList]
    omega
  · rw [ht]
    have : n + news.length = (xs ++ news).length := by simp [hx]
    rw [this]; exact List.take_left
theorem new_own (base e n : Nat) (xs news : List Value) (hx : xs.length = n) (old : Nat) (hm : n + news.length ≤ maxLen) (hb : base ≤ w.heap.size) (row : Option Nat) :
    OwnM (w.drew.alloc (.cells (xs.toArray ++ news.toArray ++ Builtin.zeroCells (Value.int .u8 0).cells (grownCap w (n + news.length) old e - (n + news.length))) e)) base e (.slice (some ⟨w.heap.size, 0, none⟩) (n + news.length) (grownCap w (n + news.length) old e)) (n + news.length) (xs ++ news) ∧
      w.grownBy (w.drew.alloc (.cells (xs.toArray ++ news.toArray ++ Builtin.zeroCells (Value.int .u8 0).cells (grownCap w (n + news.length) old e - (n + news.length))) e)) row := by
  have hge := grownCap_ge w (n + news.length) old e
  have hcm := grownCap_le_maxLen w (n + news.length) old e hm
  have hz1 : (Value.int .u8 0).cells.size = 1 := rfl
  refine ⟨⟨by simp; omega, .inr ⟨w.heap.size, _, _, (0, 0), rfl, hb, heap_alloc_new w.drew _, .inl (Nat.le_refl _), hge, hcm, ?_, ?_⟩⟩, ⟨rfl, rfl, rfl, by simp, fun k hk _ => heap_alloc_old w.drew _ hk⟩⟩
  · simp only [Array.size_append, List.size_toArray, size_zeroCells, hz1, hx]
    omega
  · simp only [Array.toList_append, List.append_assoc]
    rw [← List.append_assoc]
    have : n + news.length = (xs ++ news).length := by simp [hx]
    rw [this]; exact List.take_left

/-- bytes of a slice are put behind -/
theorem run_appendM (base : Nat) (t ty e : TypeId) (i : TypeInfo) (ht : P.underlying t = some (.slice e)) (hi : P.info? e = some i) (hz : i.zero = some (.int .u8 0)) (hs1 : i.size = 1) (hby : i.bytes = 1)
    (v : Value) (n : Nat) (xs : List Value) (hown : OwnM w base e v n xs) (a : Addr) (c : Nat) (news : List Value) (hnews : ∀ j u, news[j]? = some u → w.cell? (a.add j) = some u) (h1 : ∀ u ∈ news, u.oneCell' = true)
    (hb : n + news.length ≤ 1000000000000) (hbase : base ≤ w.heap.size) :
    ∃ v' w', (Builtin.append_ #[t, t] ty #[v, .slice (some a) news.length c]).run P w = .ok v' w' ∧ OwnM w' base e v' (n + news.length) (xs ++ news) ∧ Step w v w' v' := by
  have hml : n + news.length ≤ maxLen := by simp only [maxLen]; omega
  rcases hown.2 with ⟨rfl, rfl⟩ | ⟨g, cap, cur, fz, rfl, hbg, hg, hfz, hnc, hcm, hcs, htake⟩
  · have hx : xs = [] := List.eq_nil_of_length_eq_zero hown.1
    subst hx
    obtain ⟨v', w', hr, h2, h3, _⟩ := run_append_own (P := P) w w.heap.size t ty e i _ 1 1 ht hi hz hs1 hby rfl (by decide) _ 0 [] (World.ownsRow_nil _ _ _ _) a news.length c news (by simp) hnews h1 hml (by omega) (Nat.le_refl _)
    exact ⟨v', w', hr, OwnM.of (own_mono h2 hbase), h3, fun k hk => .inr (h2.lt k hk).1⟩
  · by_cases hroom : n + news.length ≤ cap
    · have hf := run_firstCells_some (P := P) w i.size news.length a news.length c news (by rw [hs1, Nat.mul_one]) hnews
      have hst := run_storeM P g n e fz news 0 cur w hg (by rw [hcs]; exact hfz) (by omega) h1
      simp only [Nat.add_zero] at hst
      have ho := room_own w base e g n cap cur fz xs news hown.1 hbg hg hfz hcm hcs htake hroom
      refine ⟨_, _, ?_, ho.1, ho.2, fun _ h => .inl h⟩
      rw [hs1] at hf
      simp [Builtin.append_, run_underlying ht, sizeOf, typeInfo, hi, hs1, Builtin.lenOf, hroom, Addr.add_lit]
      simp [hf, hst]
    · have holds : ∀ j u, xs[j]? = some u → w.cell? ((⟨g, 0, none⟩ : Addr).add j) = some u := hown.cells (g := g) rfl
      have hr := run_append_grow (P := P) w t ty e i _ ht hi hz ⟨g, 0, none⟩ n cap xs (by rw [hs1]; have := hown.1; omega) holds a news.length c news (by rw [hs1]; omega) hnews (by omega) (by omega) (growslice_fits (by omega) (by rw [hby]; omega))
      have ho := new_own w base e n xs news hown.1 cap hml hbase (some g)
      exact ⟨_, _, hr, ho.1, ho.2, fun k hk => .inr (Nat.le_of_eq (by simpa [Value.ownBlock] using hk))⟩
/-- bytes of a string are put behind -/
theorem run_appendMs (base : Nat) (t u ty e : TypeId) (i : TypeInfo) (ht : P.underlying t = some (.slice e)) (hu : P.underlying u = some .string) (hi : P.info? e = some i) (hz : i.zero = some (.int .u8 0)) (hs1 : i.size = 1) (hby : i.bytes = 1)
    (v : Value) (n : Nat) (xs : List Value) (hown : OwnM w base e v n xs) (s : ByteArray) (hb : n + s.size ≤ 1000000000000) (hbase : base ≤ w.heap.size) :
    ∃ v' w', (Builtin.append_ #[t, u] ty #[v, .string s]).run P w = .ok v' w' ∧ OwnM w' base e v' (n + s.size) (xs ++ Lib.strCells s) ∧ Step w v w' v' := by
  have hml : n + s.size ≤ maxLen := by simp only [maxLen]; omega
  have hl := Lib.strCells_length s
  rcases hown.2 with ⟨rfl, rfl⟩ | ⟨g, cap, cur, fz, rfl, hbg, hg, hfz, hnc, hcm, hcs, htake⟩
  · have hx : xs = [] := List.eq_nil_of_length_eq_zero hown.1
    subst hx
    obtain ⟨v', w', hr, h2, h3⟩ := Lib.run_append_own_string (P := P) w w.heap.size t u ty e i ht hu hi hz hs1 hby _ 0 [] (World.ownsRow_nil _ _ _ _) s hml (by omega) (Nat.le_refl _)
    exact ⟨v', w', hr, OwnM.of (own_mono h2 hbase), h3.1, fun k hk => .inr (h2.lt k hk).1⟩
  · by_cases hroom : n + s.size ≤ cap
    · have hf := Lib.run_firstCells_string (P := P) w 1 s
      have hst := run_storeM P g n e fz (Lib.strCells s) 0 cur w hg (by rw [hcs]; exact hfz) (by omega) (Lib.strCells_oneCell s)
      simp only [Nat.add_zero] at hst
      have ho := room_own w base e g n cap cur fz xs (Lib.strCells s) hown.1 hbg hg hfz hcm hcs htake (by omega)
      rw [hl] at ho hst
      refine ⟨_, _, ?_, ho.1, ho.2, fun _ h => .inl h⟩
      simp [Builtin.append_, run_underlying ht, run_underlying hu, sizeOf, typeInfo, hi, hs1, Builtin.lenOf, hroom, hf, Addr.add_lit, hst]
    · have holds : ∀ j u, xs[j]? = some u → w.cell? ((⟨g, 0, none⟩ : Addr).add j) = some u := hown.cells (g := g) rfl
      have hr := Lib.run_append_grow_string (P := P) w t u ty e i _ ht hu hi hz ⟨g, 0, none⟩ n cap xs (by rw [hs1]; have := hown.1; omega) holds s (by omega) (by omega) (growslice_fits (by omega) (by rw [hby]; omega))
      have ho := new_own w base e n xs (Lib.strCells s) hown.1 cap (by omega) hbase (some g)
      rw [hl] at ho
      exact ⟨_, _, hr, ho.1, ho.2, fun k hk => .inr (Nat.le_of_eq (by simpa [Value.ownBlock] using hk))⟩

theorem wpList_appendM {ops : Array Oper} {rest : List Oper} {o : Oper} {a : Act} {Q : Exit → Act → World → Prop} (hgd : o.guard = none) (s x : Operand) (t : TypeId)
    (ho : o.op = .call { callee := .builtin .append, args := #[s, x], argTypes := #[t, t] })
    (base : Nat) (e : TypeId) (i : TypeInfo) (ht : P.underlying t = some (.slice e)) (hi : P.info? e = some i) (hz : i.zero = some (.int .u8 0)) (hs1 : i.size = 1) (hby : i.bytes = 1)
    (v : Value) (n : Nat) (xs : List Value) (hs : a.eval s = v) (hown : OwnM w base e v n xs) (ad : Addr) (m c : Nat) (news : List Value) (hm : news.length = m) (hx : a.eval x = .slice (some ad) m c) (hnews : ∀ j u, news[j]? = some u → w.cell? (ad.add j) = some u) (h1 : ∀ u ∈ news, u.oneCell' = true)
    (hb : n + m ≤ 1000000000000) (hbase : base ≤ w.heap.size)
    (h : ∀ v' w', OwnM w' base e v' (n + m) (xs ++ news) → Step w v w' v' → wpList P ops Q rest (a.put o.dst v') w') : wpList P ops Q (o :: rest) a w := by
  subst hm
  refine wpList_plain hgd fun K hK => ?_
  obtain ⟨v', w', hr, h2, h3⟩ := run_appendM (P := P) w base t o.type e i ht hi hz hs1 hby v n xs hown ad c news hnews h1 hb hbase
  unfold Oper.wp execOp
  simp only [ho, resolve, invoke, builtin, Sem.run_bind, Sem.run_pure, Result.andThen_ok, List.map_toArray, List.map_cons, List.map_nil, hs, hx, hr]
  exact hK _ _ (h v' w' h2 h3)
theorem wpList_appendMs {ops : Array Oper} {rest : List Oper} {o : Oper} {a : Act} {Q : Exit → Act → World → Prop} (hgd : o.guard = none) (s x : Operand) (t u : TypeId)
    (ho : o.op = .call { callee := .builtin .append, args := #[s, x], argTypes := #[t, u] })
    (base : Nat) (e : TypeId) (i : TypeInfo) (ht : P.underlying t = some (.slice e)) (hu : P.underlying u = some .string) (hi : P.info? e = some i) (hz : i.zero = some (.int .u8 0)) (hs1 : i.size = 1) (hby : i.bytes = 1)
    (v : Value) (n : Nat) (xs : List Value) (hs : a.eval s = v) (hown : OwnM w base e v n xs) (str : ByteArray) (hx : a.eval x = .string str)
    (hb : n + str.size ≤ 1000000000000) (hbase : base ≤ w.heap.size)
    (h : ∀ v' w', OwnM w' base e v' (n + str.size) (xs ++ Lib.strCells str) → Step w v w' v' → wpList P ops Q rest (a.put o.dst v') w') : wpList P ops Q (o :: rest) a w := by
  refine wpList_plain hgd fun K hK => ?_
  obtain ⟨v', w', hr, h2, h3⟩ := run_appendMs (P := P) w base t u o.type e i ht hu hi hz hs1 hby v n xs hown str hb hbase
  unfold Oper.wp execOp
  simp only [ho, resolve, invoke, builtin, Sem.run_bind, Sem.run_pure, Result.andThen_ok, List.map_toArray, List.map_cons, List.map_nil, hs, hx, hr]
  exact hK _ _ (h v' w' h2 h3)
end

end Go.Proofs.YtdiahnommkhkiaaDoor

namespace Go.Proofs.YtdiahnommkhkiaaDoor
open Go.RowKit

/-- how long lines are -/
structure Lens (G : GrD) (ni first : Nat) : Prop where
  i : ∀ i, i < ni → (fI i).length ≤ 60
  l : ∀ i, i < G.lats.length → (fL G ni i).length ≤ 60
  o : ∀ i, i < G.outs.length → (fO G i).length ≤ 60
  a : ∀ i, i < G.ands.length → (fA G first i).length ≤ 60
theorem lens_of {G : GrD} {ni n : Nat} (hF : FineG G ni n) : Lens G ni (firstN G) := by
  have h1 := hF.first
  have h2 := hF.all
  have h3 := hF.le
  have h4 := hF.ll
  refine ⟨fun i hi => ?_, fun i hi => ?_, fun i hi => ?_, fun i hi => ?_⟩
  · unfold fI
    have := decI_len (x := 2 * (1 + (i : Int))) (by omega)
    simp; omega
  · unfold fL
    obtain ⟨x, hx⟩ := getElem_lt hi
    rw [hx]
    have hin := hF.lats x (List.mem_of_getElem? hx)
    have := decI_len (x := 2 * (1 + (ni : Int) + (i : Int))) (by omega)
    have := firstT_len (l := x) (by omega)
    simp; omega
  · unfold fO
    obtain ⟨x, hx⟩ := getElem_lt hi
    rw [hx]
    have hin := hF.outs x (List.mem_of_getElem? hx)
    have := decI_len (x := x) (by omega)
    simp; omega
  · unfold fA
    obtain ⟨x, hx⟩ := getElem_lt hi
    rw [hx]
    have hin := hF.ands i x hx
    have := decI_len (x := 2 * ((firstN G : Int) + (i : Int))) (by omega)
    have := decI_len (x := x.x) (by omega)
    have := decI_len (x := x.y) (by omega)
    simp; omega
theorem headT_len {G : GrD} {ni n : Nat} (hF : FineG G ni n) (wd : List UInt8) (h : wd.length ≤ 10) : (headT wd G).length ≤ 100 := by
  have h1 := hF.first
  have h2 := hF.all
  have h3 := hF.le
  have h4 := hF.ll
  have h5 := hF.lo
  have h6 := hF.ins
  unfold headT
  have := decI_len (x := G.ins + G.lats.length + G.ands.length) (by omega)
  have := decI_len (x := G.ins) (by omega)
  have := decI_len (x := (G.lats.length : Int)) (by omega)
  have := decI_len (x := (G.outs.length : Int)) (by omega)
  have := decI_len (x := (G.ands.length : Int)) (by omega)
  simp; omega


end Go.Proofs.YtdiahnommkhkiaaDoor
