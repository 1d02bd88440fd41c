import Derived.Test.YtefjicdhccfieaaSaH
import Derived.OpenShut
namespace Go.Proofs.Ytefjicdhccfieaa
open Go.ChangeShapes Go.WideShapes Go.ChangeAt Go.RowKit

theorem bulk_pos {H : Type} (d : DataW H) : 1 ≤ Rows.uptoBulk d := by
  cases d with
  | lit l => cases l <;> simp [Rows.uptoBulk]
  | _ => simp [Rows.uptoBulk]
theorem bulk_mem {H : Type} {d : DataW H} {l : List (DataW H)} (h : d ∈ l) : Rows.uptoBulk d ≤ Rows.uptoBulkAll l := by
  induction l with
  | nil => cases h
  | cons x r ih =>
    simp only [Rows.uptoBulkAll]
    rcases List.mem_cons.1 h with rfl | e
    · omega
    · have := ih e; omega
theorem bulk_len {H : Type} (l : List (DataW H)) : l.length ≤ Rows.uptoBulkAll l := by
  induction l with
  | nil => simp
  | cons x r ih => have := bulk_pos x; simp only [Rows.uptoBulkAll, List.length_cons]; omega
theorem bulk_total {H : Type} (cls : List CL) (elems : List (DataW H)) (hl : elems.length = cls.length) (hq : ∀ (i : Nat) (x : CL), cls[i]? = some x → ∃ d, elems[i]? = some d ∧ x.l.length + 1 ≤ Rows.uptoBulk d) : total cls ≤ Rows.uptoBulkAll elems := by
  induction cls generalizing elems with
  | nil => simp [total]
  | cons x r ih =>
    cases elems with
    | nil => simp at hl
    | cons d ds =>
      obtain ⟨d', hd, hx⟩ := hq 0 x rfl
      simp at hd
      subst hd
      have := ih ds (by simpa using hl) (fun i y hy => by
        obtain ⟨e, he, hy2⟩ := hq (i + 1) y (by simpa using hy)
        exact ⟨e, by simpa using he, hy2⟩)
      simp only [total, List.map_cons, List.sum_cons, Rows.uptoBulkAll] at *
      omega

section
variable {H : Type} {enc : TypeId × Value → H} {w : World} {base : Nat} {spare : Nat → Bool} {held : Bool} {fuel : Nat}

theorem cI : Try.prog.cellsOf 3 = 1 := by kernel_rfl
theorem cSI : Try.prog.cellsOf 26 = 1 := by kernel_rfl
theorem int_el {cs : List Value} {y : DataW H × List MemPlace} (h : DataW.trod enc Try.prog w base spare held fuel 3 cs = some y) : ∃ x : Int, cs = intC x ∧ True := by
  obtain ⟨n, hc, -, -⟩ := DataW.trod_int Try.underlying3 h
  exact ⟨n, hc, trivial⟩
theorem cl_el {cs : List Value} {y : DataW H × List MemPlace} (h : DataW.trod enc Try.prog w base spare held fuel 26 cs = some y) : ∃ x : CL, cs = x.cells ∧ (RowAt w.heap.size w x.a 1 (x.l.map intC) ∧ x.l.length + 1 ≤ Rows.uptoBulk y.1) := by
  obtain ⟨v, rfl⟩ : ∃ v, cs = [v] := by
    rcases DataW.trod_slice Try.underlying26 h with ⟨rfl, _⟩ | ⟨a, len, cap, elems, rest, n, _, rfl, _⟩
    · exact ⟨_, rfl⟩
    · exact ⟨_, rfl⟩
  obtain ⟨a, c, l, rfl, hr, hd⟩ := open_row intC (fun _ _ => True) Try.underlying26 cI (by decide) (fun fuel cs y h => int_el h) h
  refine ⟨⟨a, c, l⟩, rfl, hr, ?_⟩
  rcases hd with ⟨h0, rfl⟩ | ⟨elems, sp, he, hl, _⟩
  · have := bulk_pos y.1
    simpa using this
  · rw [he]
    have := bulk_len elems
    simp only [Rows.uptoBulk]
    show l.length + 1 ≤ _
    omega
set_option maxRecDepth 100000 in
theorem open_formula {y : DataW H × List MemPlace} {cs : List Value} (h : DataW.trod enc Try.prog w base spare held fuel 24 cs = some y) (hb : Rows.uptoBulk y.1 ≤ 1048576) : ∃ a c v cls, cs = [.int .i64 v, .slice a (List.length cls) c] ∧ ClAt w.heap.size w a cls ∧ total cls ≤ 1048576 := by
  obtain ⟨ys, m, rfl, hx, hlen, hyl, hel⟩ := DataW.trod_struct Try.underlying24 h
  rw [show Try.prog.cellsOf 24 = 2 by kernel_rfl] at hlen
  match cs, hlen, ys, hyl, hx, hel with
  | [k0, k1], _, [y0, y1], _, hx, hel =>
    have e0 := hel 0 _ rfl
    obtain ⟨n0, d0, -, wf0⟩ := DataW.trod_int Try.underlying3 (show DataW.trod _ Try.prog _ _ _ _ _ 3 _ = some y0 from e0)
    simp [cI] at d0
    subst d0
    have e1 := hel 1 _ rfl
    have e1' : DataW.trod enc Try.prog w base spare held m 22 [k1] = some y1 := by
      have hc : Try.prog.cellsOf 22 = 1 := by kernel_rfl
      simpa [hc] using e1
    obtain ⟨a1, u1, l1, rfl, hr1, hd1⟩ := open_row CL.cells (fun d x => RowAt w.heap.size w x.a 1 (x.l.map intC) ∧ x.l.length + 1 ≤ Rows.uptoBulk d) Try.underlying22 cSI (by decide) (fun fuel cs y h => cl_el h) e1'
    have hm : Rows.uptoBulk y1.1 ≤ Rows.uptoBulkAll ([y0, y1].map Prod.fst) := bulk_mem (by simp)
    rw [hx] at hb
    have hb2 : Rows.uptoBulkAll ([y0, y1].map Prod.fst) ≤ 1048576 := by
      have hb3 : Rows.uptoBulkAll ([y0, y1].map Prod.fst) + 1 ≤ 1048576 := by simpa only [Rows.uptoBulk] using hb
      omega
    have htot : total l1 ≤ 1048576 := by
      rcases hd1 with ⟨_, rfl⟩ | ⟨elems, sp, he, hl, hq⟩
      · simp [total]
      · have := bulk_total l1 elems hl (fun i x hxi => by
          obtain ⟨d, hd, _, h2⟩ := hq i x hxi
          exact ⟨d, hd, h2⟩)
        rw [he] at hm
        simp only [Rows.uptoBulk] at hm
        omega
    refine ⟨a1, u1, n0, l1, rfl, ⟨hr1, ?_, by omega⟩, htot⟩
    rcases hd1 with ⟨_, rfl⟩ | ⟨elems, sp, _, _, hq⟩
    · intro t ht; cases ht
    · intro t ht
      obtain ⟨i, hi, rfl⟩ := List.getElem_of_mem ht
      obtain ⟨d, _, hQ, _⟩ := hq i _ (List.getElem?_eq_getElem hi)
      exact hQ
set_option maxRecDepth 100000 in
theorem open_steps {y : DataW H × List MemPlace} {v : Value} (h : DataW.trod enc Try.prog w base spare held fuel 22 [v] = some y) (hb : Rows.uptoBulk y.1 ≤ 1048576) : ∃ a c cls, v = .slice a (List.length cls) c ∧ ClAt w.heap.size w a cls ∧ total cls ≤ 1048576 := by
  obtain ⟨a1, u1, l1, e1, hr1, hd1⟩ := open_row CL.cells (fun d x => RowAt w.heap.size w x.a 1 (x.l.map intC) ∧ x.l.length + 1 ≤ Rows.uptoBulk d) Try.underlying22 cSI (by decide) (fun fuel cs y h => cl_el h) h
  have htot : total l1 ≤ 1048576 := by
    rcases hd1 with ⟨_, rfl⟩ | ⟨elems, sp, he, hl, hq⟩
    · simp [total]
    · have := bulk_total l1 elems hl (fun i x hxi => by
        obtain ⟨d, hd, _, h2⟩ := hq i x hxi
        exact ⟨d, hd, h2⟩)
      rw [he] at hb
      simp only [Rows.uptoBulk] at hb
      omega
  refine ⟨a1, u1, l1, e1, ⟨hr1, ?_, by omega⟩, htot⟩
  rcases hd1 with ⟨_, rfl⟩ | ⟨elems, sp, _, _, hq⟩
  · intro t ht; cases ht
  · intro t ht
    obtain ⟨i, hi, rfl⟩ := List.getElem_of_mem ht
    obtain ⟨d, _, hQ, _⟩ := hq i _ (List.getElem?_eq_getElem hi)
    exact hQ
end

theorem Try.own : ownKnob Try.prog.godebug = none := by kernel_rfl
theorem Try.laidOut : laidOutB Try.prog = true := by kernel_rfl
set_option maxRecDepth 100000 in
theorem formula_of {H : Type} {enc : TypeId × Value → H} {W : World} {base : Nat} {v : Value} {d : DataW H} {p : List MemPlace} (hv : Value.okWide Try.prog W .any base 24 v) (h : DataW.Trod enc Try.prog W 0 (fun _ => true) true 24 v d p) (hb : Rows.uptoBulk d ≤ 1048576) :
    ∃ a c x cls, v = .agg #[.int .i64 x, .slice a (List.length cls) c] ∧ ClAt W.heap.size W a cls ∧ total cls ≤ 1048576 := by
  obtain ⟨cs, rfl, _⟩ := okWide_struct Try.underlying24 hv
  obtain ⟨fuel, ht⟩ := h
  obtain ⟨a, c, x, cls, hc, hn⟩ := open_formula ht hb
  refine ⟨a, c, x, cls, ?_, hn⟩
  have : cs.toList = (#[.int .i64 x, .slice a (List.length cls) c] : Array Value).toList := by simpa [Value.cells] using hc
  rw [Array.toList_inj.1 this]
theorem steps_of {H : Type} {enc : TypeId × Value → H} {W : World} {v : Value} {d : DataW H} {p : List MemPlace} (h : DataW.Trod enc Try.prog W 0 (fun _ => true) true 22 v d p) (hv : v.cells.toList = [v]) (hb : Rows.uptoBulk d ≤ 1048576) :
    ∃ a c cls, v = .slice a (List.length cls) c ∧ ClAt W.heap.size W a cls ∧ total cls ≤ 1048576 := by
  obtain ⟨fuel, ht⟩ := h
  rw [hv] at ht
  exact open_steps ht hb

end Go.Proofs.Ytefjicdhccfieaa
