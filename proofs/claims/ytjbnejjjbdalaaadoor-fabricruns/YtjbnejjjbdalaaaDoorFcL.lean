import Derived.Test.YtjbnejjjbdalaaaDoorFcI
import Derived.Test.YtjbnejjjbdalaaaDoorFcK
import Derived.Test.YtjbnejjjbdalaaaDoorFcH
namespace Go.Proofs.YtjbnejjjbdalaaaDoor
open Go.RowKit

/-- the law's little configuration -/
def plainN (b : Nat) : CnD := ⟨⟨1, 1, 1, 1, 1⟩, [⟨some ⟨b + 1 + 1, 0, none⟩, 1, [⟨2, 3, 0, 0, 6⟩]⟩], [⟨2, true⟩], [2]⟩
/-- cells in a block, one after the other -/
theorem rowAt_flat {B : Nat} {w : World} {b sz : Nat} {els : List (List Value)} (hb : b < B) (hs : ∀ l, l ∈ els → l.length = sz) (h : ∀ (m : Nat) (v : Value), els.flatten[m]? = some v → w.cell? ⟨b, m, none⟩ = some v) : RowAt B w (some ⟨b, 0, none⟩) sz els := by
  intro hne
  refine ⟨b, 0, rfl, hb, fun i cs hi j x hx => ?_⟩
  rw [Nat.zero_add]
  apply h
  clear h
  induction els generalizing i with
  | nil => simp at hi
  | cons l r ih =>
    have hl := hs l List.mem_cons_self
    cases i with
    | zero =>
      simp at hi; subst hi
      have hj := (List.getElem?_eq_some_iff.1 hx).1
      rw [List.flatten_cons, List.getElem?_append_left (by omega)]
      simpa using hx
    | succ i =>
      have hi' : r[i]? = some cs := by simpa using hi
      rw [List.flatten_cons, List.getElem?_append_right (by rw [hl, Nat.succ_mul]; omega)]
      have := ih (fun l hl => hs l (List.mem_cons_of_mem _ hl)) (List.ne_nil_of_mem (List.mem_of_getElem? hi')) i hi'
      rw [hl]
      rw [show (i + 1) * sz + j - sz = i * sz + j by rw [Nat.succ_mul]; omega]
      exact this
theorem cell_new {w : World} {cs : Array Value} {t b j : Nat} (h : b = w.heap.size) : (w.alloc (.cells cs t)).cell? ⟨b, j, none⟩ = cs[j]? := by
  subst h; simp


set_option maxRecDepth 100000 in
set_option maxHeartbeats 8000000 in
theorem plain_any (w : World) :
    Calls Tryd.prog 6 #[] w fun e w' => ∃ S b, e = .returned (.agg (CnS.cells S (plainN b))) ∧ CnAt w'.heap.size w' S (plainN b) ∧ Below w.heap.size w w' := by
  go_enter Tryd.func6, Tryd.ntmps6
  go_wp2
  generalize hW : World.alloc _ _ = W
  have HB : Hid (Below w.heap.size w W) := by
    rw [← hW]
    exact (((((((Below.refl _ _).alloc (by first | exact Nat.le_refl _ | (simp; done) | (simp; omega)) _).alloc (by first | exact Nat.le_refl _ | (simp; done) | (simp; omega)) _).alloc (by first | exact Nat.le_refl _ | (simp; done) | (simp; omega)) _).alloc (by first | exact Nat.le_refl _ | (simp; done) | (simp; omega)) _).alloc (by first | exact Nat.le_refl _ | (simp; done) | (simp; omega)) _).alloc (by first | exact Nat.le_refl _ | (simp; done) | (simp; omega)) _)
  have hs : W.heap.size = w.heap.size + 6 := by rw [← hW]; simp
  have z : ∀ j, W.cell? ⟨w.heap.size, j, none⟩ = (#[.int .i64 1, .int .i64 1, .int .i64 1, .int .i64 1, .int .i64 1, .slice (some ⟨w.heap.size + 1 + 1 + 1, 0, none⟩) 1 1, .slice (some ⟨w.heap.size + 1 + 1 + 1 + 1, 0, none⟩) 1 1, .slice (some ⟨w.heap.size + 1 + 1 + 1 + 1 + 1, 0, none⟩) 1 1] : Array Value)[j]? := by intro j; rw [← hW, World.cell?_alloc_lt _ _ _ (by first | (simp; done) | (simp; omega)), World.cell?_alloc_lt _ _ _ (by first | (simp; done) | (simp; omega)), World.cell?_alloc_lt _ _ _ (by first | (simp; done) | (simp; omega)), World.cell?_alloc_lt _ _ _ (by first | (simp; done) | (simp; omega)), World.cell?_alloc_lt _ _ _ (by first | (simp; done) | (simp; omega))]; exact cell_new (by simp)
  have za : ∀ j, W.cell? ⟨w.heap.size + 1 + 1, j, none⟩ = (#[.int .i64 2, .int .i64 3, .int .i64 0, .int .i64 0, .int .i64 6] : Array Value)[j]? := by intro j; rw [← hW, World.cell?_alloc_lt _ _ _ (by first | (simp; done) | (simp; omega)), World.cell?_alloc_lt _ _ _ (by first | (simp; done) | (simp; omega)), World.cell?_alloc_lt _ _ _ (by first | (simp; done) | (simp; omega))]; exact cell_new (by simp)
  have zc : ∀ j, W.cell? ⟨w.heap.size + 1 + 1 + 1, j, none⟩ = (#[.slice (some ⟨w.heap.size + 1 + 1, 0, none⟩) 1 1] : Array Value)[j]? := by intro j; rw [← hW, World.cell?_alloc_lt _ _ _ (by first | (simp; done) | (simp; omega)), World.cell?_alloc_lt _ _ _ (by first | (simp; done) | (simp; omega))]; exact cell_new (by simp)
  have zr : ∀ j, W.cell? ⟨w.heap.size + 1 + 1 + 1 + 1, j, none⟩ = (#[.int .i64 2, .bool true] : Array Value)[j]? := by intro j; rw [← hW, World.cell?_alloc_lt _ _ _ (by first | (simp; done) | (simp; omega))]; exact cell_new (by simp)
  have zo : ∀ j, W.cell? ⟨w.heap.size + 1 + 1 + 1 + 1 + 1, j, none⟩ = (#[.int .i64 2] : Array Value)[j]? := by intro j; rw [← hW]; exact cell_new (by simp)
  clear hW
  have z0 := z 0
  have z1 := z 1
  have z2 := z 2
  have z3 := z 3
  have z4 := z 4
  have z5 := z 5
  have z6 := z 6
  have z7 := z 7
  simp at z0 z1 z2 z3 z4 z5 z6 z7
  refine bodyPost_ret (v := .agg #[.int .i64 1, .int .i64 1, .int .i64 1, .int .i64 1, .int .i64 1, .slice (some ⟨w.heap.size + 1 + 1 + 1, 0, none⟩) 1 1, .slice (some ⟨w.heap.size + 1 + 1 + 1 + 1, 0, none⟩) 1 1, .slice (some ⟨w.heap.size + 1 + 1 + 1 + 1 + 1, 0, none⟩) 1 1]) (by simp [results, Tryd.results6, go_sem, *]) rfl ?_
  refine ⟨⟨some ⟨w.heap.size + 1 + 1 + 1, 0, none⟩, 1, some ⟨w.heap.size + 1 + 1 + 1 + 1, 0, none⟩, 1, some ⟨w.heap.size + 1 + 1 + 1 + 1 + 1, 0, none⟩, 1⟩, w.heap.size, rfl, ?_, HB.out⟩
  have f : ∀ (b : Nat) (cs : Array Value) (els : List (List Value)), (∀ j, W.cell? ⟨b, j, none⟩ = cs[j]?) → els.flatten = cs.toList → ∀ (m : Nat) (v : Value), els.flatten[m]? = some v → W.cell? ⟨b, m, none⟩ = some v := by
    intro b cs els h1 h2 m v hv
    rw [h1 m, ← Array.getElem?_toList, ← h2]; exact hv
  refine ⟨rowAt_flat (by omega) (by simp [plainN, ClD.cells]) (f _ _ _ zc rfl), fun d hd => ?_, rowAt_flat (by omega) (by simp [plainN, RgD.cells]) (f _ _ _ zr rfl), rowAt_flat (by omega) (by simp [plainN, intC]) (f _ _ _ zo rfl), by simp [plainN, big], fun d hd => ?_, by simp [plainN, big], by simp [plainN, big]⟩
  · simp only [plainN, List.mem_cons, List.not_mem_nil, or_false] at hd
    subst hd
    exact rowAt_flat (by omega) (by simp [CeD.cells]) (f _ _ _ za rfl)
  · simp only [plainN, List.mem_cons, List.not_mem_nil, or_false] at hd
    subst hd
    simp [big]

theorem rows_of {w : World} {C n : Nat} {v : Value} {rows : List RD} (h : w.ownsRow C 34 1 v n (rows.map RD.v)) (hb : ∀ r, r ∈ rows → BS w r.v r.l) : ∃ a c, v = .slice a n c ∧ RowsAt w a rows ∧ rows.length = n := by
  have hl : rows.length = n := by have := h.1; simp at this; omega
  rcases h.2 with ⟨h0, h1⟩ | ⟨g, cap, cur, hv, h1⟩
  · refine ⟨none, 0, by rw [h0, h1], fun i r hr => ?_, hl⟩
    have := (List.getElem?_eq_some_iff.1 hr).1
    omega
  · refine ⟨some ⟨g, 0, none⟩, cap, hv, fun i r hr => ⟨g, 0, rfl, (h.lt g (by rw [hv]; rfl)).2, ?_, hb r (List.mem_of_getElem? hr)⟩, hl⟩
    have := h.cells (g := g) (by rw [hv]; rfl) i r.v (by rw [List.getElem?_map, hr]; rfl)
    rw [add0] at this
    simpa using this
theorem RowsAt.to {w w' : World} {a : Option Addr} {rows : List RD} (h : RowsAt w a rows) (hb : Below w.heap.size w w') : RowsAt w' a rows := fun i r hr => by
  obtain ⟨b, o, ha, hlt, hc, hbs⟩ := h i r hr
  exact ⟨b, o, ha, Nat.lt_of_lt_of_le hlt hb.size, (hb.cell (p := ⟨b, o + i, none⟩) hlt).trans hc, hbs.to hb⟩
/-! What two readers of the same bytes show is the same (pure) -/
theorem foldl_cs (l m : List ClD) (h : l.map ClD.cs = m.map ClD.cs) (v : List Bool) : l.foldl (fun v d => colV v d.cs) v = m.foldl (fun v d => colV v d.cs) v := by
  induction l generalizing m v with
  | nil => cases m with
    | nil => rfl
    | cons a t => cases h
  | cons a t ih => cases m with
    | nil => cases h
    | cons b u =>
      simp only [List.map_cons, List.cons.injEq] at h
      simp only [List.foldl_cons, h.1]
      exact ih u h.2 _
theorem runC_same {nm : Nat → Nat → Nat} {N M : CnD} (hN : SpecN nm N) (hM : SpecN nm M) (tr : List (List Bool)) (st : List Bool) : runC N tr st = runC M tr st := by
  have hc : ∀ row st, cycC N row st = cycC M row st := fun row st => by
    unfold cycC
    rw [hN.sh, hM.sh]
    exact foldl_cs _ _ (hN.cols.trans hM.cols.symm) _
  have ho : ∀ v, outC N v = outC M v := fun v => by unfold outC; rw [hN.outs, hM.outs]
  have hx : ∀ v, nextC N v = nextC M v := fun v => by unfold nextC; rw [hN.regs, hM.regs]
  induction tr generalizing st with
  | nil => rfl
  | cons a t ih => simp only [runC, hc, ho, hx, ih]
theorem spec_bits {nm : Nat → Nat → Nat} {N : CnD} (h : SpecN nm N) : ∀ d, d ∈ N.cols → ∀ e, e ∈ d.cs → 0 ≤ e.bits := by
  intro d hd e he
  have hm : d.cs ∈ N.cols.map ClD.cs := List.mem_map.2 ⟨d, hd, rfl⟩
  rw [h.cols] at hm
  unfold colsS at hm
  obtain ⟨i, _, hi⟩ := List.mem_map.1 hm
  rw [← hi] at he
  unfold colF clS at he
  obtain ⟨j, _, hj⟩ := List.mem_map.1 he
  rw [← hj]
  unfold ceS
  exact Int.natCast_nonneg _
theorem spec_cols {nm : Nat → Nat → Nat} {N : CnD} (h : SpecN nm N) (hok : (shS nm).ok = true) : N.cols.length ≤ 100 := by
  have hcl : N.cols.length = nm 64 16 := by
    have := congrArg List.length h.cols
    unfold colsS at this
    simpa using this
  unfold ShD.ok at hok
  simp only [Bool.and_eq_true] at hok
  have := wi_iff hok.2
  unfold shS at this
  dsimp only at this
  omega
theorem gOk_shape {bs : List Nat} (h : gOk bs = true) : (shS (numN (bitL bs))).ok = true := by
  unfold gOk at h
  simp only [Bool.and_eq_true] at h
  exact h.1.2
theorem gok_short {bs : List Nat} (h : bs.length < 18) : gOk bs = false := by
  by_cases h8 : 8 ≤ bs.length
  · unfold gOk
    have hl : (bitL bs).length = bs.length - 8 := by unfold bitL bodyL; simp; omega
    rw [endBad_over _ _ _ (by have := endPS_ge (numN (bitL bs)); omega)]
    simp
  · unfold gOk headOk
    rw [decide_eq_false h8]
    simp
theorem gok_mark {bs : List Nat} (h : ¬ bs.take 4 = markL) : gOk bs = false := by unfold gOk headOk; rw [decide_eq_false h]; simp
theorem gok_sum {bs : List Nat} (h : ¬ sumB (crcV (bodyL bs)) = lastL bs) : gOk bs = false := by unfold gOk headOk; rw [decide_eq_false h]; simp
theorem gok_shape {bs : List Nat} (h : (shS (numN (bitL bs))).ok = false) : gOk bs = false := by unfold gOk; rw [h]; simp
/-- the little configuration's bits -/
def plainB : List Nat := [0, 1, 0, 1, 0, 1, 0, 1, 0, 1, 0, 6, 176, 208]
theorem plain_spec (b : Nat) : SpecN (numN plainB) (plainN b) := ⟨by kernel_rfl, by kernel_rfl, by kernel_rfl, by kernel_rfl⟩
theorem plain_shape : (shS (numN plainB)).ok = true := by kernel_rfl
theorem runC_len (N : CnD) (tr : List (List Bool)) (st : List Bool) : (runC N tr st).length = tr.length := by
  induction tr generalizing st with
  | nil => rfl
  | cons a t ih => simp [runC, ih]
theorem runC_each (N : CnD) (tr : List (List Bool)) (st : List Bool) : ∀ r, r ∈ runC N tr st → r.length = N.outs.length := by
  induction tr generalizing st with
  | nil => intro r hr; cases hr
  | cons a t ih =>
    intro r hr
    simp only [runC, List.mem_cons] at hr
    rcases hr with rfl | hr
    · unfold outC; simp
    · exact ih _ r hr

end Go.Proofs.YtjbnejjjbdalaaaDoor
