import Derived.Test.YtibjgoigdajkkaaDoorJ51
import Derived.Test.YtibjgoigdajkkaaDoorJ28
namespace Go.Proofs.YtibjgoigdajkkaaDoor
open Go.ChangeShapes Go.WideShapes Go.ChangeAt Go.RowKit

theorem bulk_pos {H : Type} (d : DataW H) : 1 ≤ Rows.uptoBulk d := by
  cases d with
  | lit l => cases l <;> simp [Rows.uptoBulk]
  | _ => simp [Rows.uptoBulk]
theorem bulk_mem {H : Type} {d : DataW H} {l : List (DataW H)} (h : d ∈ l) : Rows.uptoBulk d ≤ Rows.uptoBulkAll l := by
  induction l with
  | nil => cases h
  | cons x r ih =>
    simp only [Rows.uptoBulkAll]
    rcases List.mem_cons.1 h with rfl | h
    · omega
    · have := ih h; omega
theorem bulk_three {H : Type} {l : List (DataW H)} (h : ∀ d, d ∈ l → 3 ≤ Rows.uptoBulk d) : 3 * l.length ≤ Rows.uptoBulkAll l := by
  induction l with
  | nil => simp
  | cons x r ih =>
    have h1 := h x List.mem_cons_self
    have h2 := ih (fun d hd => h d (List.mem_cons_of_mem _ hd))
    simp only [Rows.uptoBulkAll, List.length_cons]
    omega
section
variable {H : Type} {enc : TypeId × Value → H} {w : World} {base : Nat} {spare : Nat → Bool} {held : Bool} {fuel : Nat}

theorem cSB : Tryd.prog.cellsOf 22 = 1 := by kernel_rfl
theorem bSB : Tryd.prog.bytesOf 22 = 24 := by kernel_rfl
theorem slice_nil {t e : TypeId} {a : Option Addr} {n c : Nat} {y : DataW H × List MemPlace} (ht : Tryd.prog.underlying t = some (.slice e)) (h : DataW.trod enc Tryd.prog w base spare held fuel t [.slice a n c] = some y) : a = none → c = 0 ∧ n = 0 := by
  intro ha
  rcases Deep.open_slice ht h with ⟨hv, -⟩ | ⟨b, len, cap, m, k, D, Pl, hv, -⟩
  · simp only [List.cons.injEq, and_true, Value.slice.injEq] at hv
    exact ⟨hv.2.2, hv.2.1⟩
  · simp only [List.cons.injEq, and_true, Value.slice.injEq] at hv
    rw [ha] at hv
    cases hv.1
set_option maxRecDepth 100000 in
theorem tab_bulk {cs : List Value} {y : DataW H × List MemPlace} (h : DataW.trod enc Tryd.prog w base spare held fuel 50 cs = some y) : ∃ x : TbD, cs = x.cells ∧ 3 ≤ Rows.uptoBulk y.1 := by
  obtain ⟨x, hx1, _⟩ := tab_el h
  obtain ⟨ys, m, rfl, hx, hlen, hyl, hel⟩ := DataW.trod_struct Tryd.underlying50 h
  refine ⟨x, hx1, ?_⟩
  match ys, hyl, hx with
  | [y0, y1], _, hx =>
    rw [hx]
    have h0 := bulk_pos y0.1
    have h1 := bulk_pos y1.1
    simp only [List.map_cons, List.map_nil, Rows.uptoBulk, Rows.uptoBulkAll]
    omega
set_option maxRecDepth 100000 in
theorem open_more {y : DataW H × List MemPlace} {S : NtS} {N : NtD} (h : DataW.trod enc Tryd.prog w base spare held fuel 26 (NtS.cells S N).toList = some y) : (S.a1 = none → S.c1 = 0 ∧ N.init = []) ∧ (S.a3 = none → N.next = [] ∧ S.c3 = 0) ∧ (S.a4 = none → N.outs = [] ∧ S.c4 = 0) ∧ 3 * N.tabs.length ≤ Rows.uptoBulk y.1 := by
  obtain ⟨ys, m, rfl, hx, hlen, hyl, hel⟩ := DataW.trod_struct Tryd.underlying26 h
  match ys, hyl, hx, hel with
  | [y0, y1, y2, y3, y4], _, hx, hel =>
    have hcT : Tryd.prog.cellsOf 23 = 1 := by kernel_rfl
    have e1 := hel 1 _ rfl
    have e1' : DataW.trod enc Tryd.prog w base spare held m 22 [.slice S.a1 N.init.length S.c1] = some y1 := by
      simpa [NtS.cells, cI, cSB] using e1
    have e2 := hel 2 _ rfl
    have e2' : DataW.trod enc Tryd.prog w base spare held m 23 [.slice S.a2 N.tabs.length S.c2] = some y2 := by
      simpa [NtS.cells, cI, cSB, hcT] using e2
    have e3 := hel 3 _ rfl
    have e3' : DataW.trod enc Tryd.prog w base spare held m 24 [.slice S.a3 N.next.length S.c3] = some y3 := by
      simpa [NtS.cells, cI, cSB, hcT, cSI] using e3
    have e4 := hel 4 _ rfl
    have e4' : DataW.trod enc Tryd.prog w base spare held m 24 [.slice S.a4 N.outs.length S.c4] = some y4 := by
      simpa [NtS.cells, cI, cSB, hcT, cSI] using e4
    obtain ⟨a2, u2, l2, hv2, hr2, hd2⟩ := open_row TbD.cells (fun d _ => 3 ≤ Rows.uptoBulk d) Tryd.underlying23 cT (by decide) (fun fuel cs y h => tab_bulk h) e2'
    have hl : N.tabs.length = l2.length := by
      simp only [Value.slice.injEq] at hv2
      exact hv2.2.1
    refine ⟨fun ha => ?_, fun ha => ?_, fun ha => ?_, ?_⟩
    · have := slice_nil Tryd.underlying22 e1' ha
      exact ⟨this.1, List.eq_nil_of_length_eq_zero this.2⟩
    · have := slice_nil Tryd.underlying24 e3' ha
      exact ⟨List.eq_nil_of_length_eq_zero this.2, this.1⟩
    · have := slice_nil Tryd.underlying24 e4' ha
      exact ⟨List.eq_nil_of_length_eq_zero this.2, this.1⟩
    · rw [hx, hl]
      have hm : Rows.uptoBulk y2.1 ≤ Rows.uptoBulkAll [y0.1, y1.1, y2.1, y3.1, y4.1] := bulk_mem (by simp)
      have h3 : 3 * l2.length ≤ Rows.uptoBulk y2.1 := by
        rcases hd2 with ⟨_, rfl⟩ | ⟨elems, sp, he, hel2, hq⟩
        · simp
        · rw [he]
          have := bulk_three (l := elems) (fun d hd => by
            obtain ⟨i, hi, rfl⟩ := List.getElem_of_mem hd
            obtain ⟨d', h1, h2⟩ := hq i _ (List.getElem?_eq_getElem (show i < l2.length by omega))
            rw [List.getElem?_eq_getElem hi] at h1
            rw [Option.some.inj h1]; exact h2)
          simp only [Rows.uptoBulk]
          omega
      simp only [List.map_cons, List.map_nil, Rows.uptoBulk]
      omega
theorem tr_el {cs : List Value} {y : DataW H × List MemPlace} (h : DataW.trod enc Tryd.prog w base spare held fuel 22 cs = some y) : ∃ x : TR, cs = x.cells ∧ RowAt w.heap.size w x.a 1 (x.l.map boolC) := by
  obtain ⟨v, rfl⟩ : ∃ v, cs = [v] := by
    rcases DataW.trod_slice Tryd.underlying22 h with ⟨rfl, _⟩ | ⟨a, len, cap, elems, rest, n, _, rfl, _⟩
    · exact ⟨_, rfl⟩
    · exact ⟨_, rfl⟩
  obtain ⟨a, c, l, rfl, hr, -⟩ := open_row boolC (fun _ _ => True) Tryd.underlying22 cB (by decide) (fun fuel cs y h => bool_el h) h
  exact ⟨⟨a, c, l⟩, rfl, hr⟩
/-- what a trace that comes in is in memory -/
theorem open_trace {y : DataW H × List MemPlace} {v : Value} (h : DataW.trod enc Tryd.prog w base spare held fuel 29 [v] = some y) (hf : Fine 29 y.1) : ∃ a c trs, v = .slice a (List.length trs) c ∧ TrAt w.heap.size w a trs := by
  obtain ⟨a, c, l, rfl, hr, hd⟩ := open_row TR.cells (fun _ x => RowAt w.heap.size w x.a 1 (x.l.map boolC)) Tryd.underlying29 cSB (by decide) (fun fuel cs y h => tr_el h) h
  refine ⟨a, c, l, rfl, hr, ?_, ?_⟩
  · rcases hd with ⟨_, rfl⟩ | ⟨elems, sp, _, _, hq⟩
    · intro t ht; cases ht
    · intro t ht
      obtain ⟨i, hi, rfl⟩ := List.getElem_of_mem ht
      obtain ⟨d, _, hQ⟩ := hq i _ (List.getElem?_eq_getElem hi)
      exact hQ
  · rcases hd with ⟨_, rfl⟩ | ⟨elems, sp, he, hl, _⟩
    · simp
    · rw [he] at hf
      have h1 := (fine_slice Tryd.underlying29 hf).1
      rw [bSB] at h1
      simp only [reachBytes] at h1
      omega
set_option maxRecDepth 100000 in
theorem open_shape {y : DataW H × List MemPlace} {cs : List Value} (h : DataW.trod enc Tryd.prog w base spare held fuel 28 cs = some y) : ∃ s : ShD, cs = s.arr.toList := by
  obtain ⟨ys, m, rfl, hx, hlen, hyl, hel⟩ := DataW.trod_struct Tryd.underlying28 h
  rw [show Tryd.prog.cellsOf 28 = 5 by kernel_rfl] at hlen
  match cs, hlen, ys, hyl, hx, hel with
  | [k0, k1, k2, k3, k4], _, [y0, y1, y2, y3, y4], _, hx, hel =>
    obtain ⟨n0, d0, -, -⟩ := DataW.trod_int Tryd.underlying3 (show DataW.trod _ Tryd.prog _ _ _ _ _ 3 _ = some y0 from hel 0 _ rfl)
    obtain ⟨n1, d1, -, -⟩ := DataW.trod_int Tryd.underlying3 (show DataW.trod _ Tryd.prog _ _ _ _ _ 3 _ = some y1 from hel 1 _ rfl)
    obtain ⟨n2, d2, -, -⟩ := DataW.trod_int Tryd.underlying3 (show DataW.trod _ Tryd.prog _ _ _ _ _ 3 _ = some y2 from hel 2 _ rfl)
    obtain ⟨n3, d3, -, -⟩ := DataW.trod_int Tryd.underlying3 (show DataW.trod _ Tryd.prog _ _ _ _ _ 3 _ = some y3 from hel 3 _ rfl)
    obtain ⟨n4, d4, -, -⟩ := DataW.trod_int Tryd.underlying3 (show DataW.trod _ Tryd.prog _ _ _ _ _ 3 _ = some y4 from hel 4 _ rfl)
    simp [cI] at d0 d1 d2 d3 d4
    subst d0 d1 d2 d3 d4
    exact ⟨⟨n0, n1, n2, n3, n4⟩, rfl⟩
end

set_option maxRecDepth 100000 in
theorem net_more {H : Type} {enc : TypeId × Value → H} {W : World} {S : NtS} {N : NtD} {d : DataW H} {p : List MemPlace} (h : DataW.Trod enc Tryd.prog W 0 (fun _ => true) true 26 (.agg (NtS.cells S N)) d p) : (S.a1 = none → S.c1 = 0 ∧ N.init = []) ∧ (S.a3 = none → N.next = [] ∧ S.c3 = 0) ∧ (S.a4 = none → N.outs = [] ∧ S.c4 = 0) ∧ 3 * N.tabs.length ≤ Rows.uptoBulk d := by
  obtain ⟨fuel, ht⟩ := h
  exact open_more ht
set_option maxRecDepth 100000 in
theorem trace_of {H : Type} {enc : TypeId × Value → H} {W : World} {v : Value} {d : DataW H} {p : List MemPlace} (h : DataW.Trod enc Tryd.prog W 0 (fun _ => true) true 29 v d p) (hf : Fine 29 d) (hv : v.cells.toList = [v]) :
    ∃ a c trs, v = .slice a (List.length trs) c ∧ TrAt W.heap.size W a trs := by
  obtain ⟨fuel, ht⟩ := h
  rw [hv] at ht
  exact open_trace ht hf
set_option maxRecDepth 100000 in
theorem shape_of {H : Type} {enc : TypeId × Value → H} {W : World} {base : Nat} {v : Value} {d : DataW H} {p : List MemPlace} (hv : Value.okWide Tryd.prog W .any base 28 v) (h : DataW.Trod enc Tryd.prog W 0 (fun _ => true) true 28 v d p) :
    ∃ s : ShD, v = .agg s.arr := by
  obtain ⟨cs, rfl, _⟩ := okWide_struct Tryd.underlying28 hv
  obtain ⟨fuel, ht⟩ := h
  obtain ⟨s, hc⟩ := open_shape ht
  refine ⟨s, ?_⟩
  have : cs.toList = s.arr.toList := by simpa [Value.cells] using hc
  rw [Array.toList_inj.1 this]

end Go.Proofs.YtibjgoigdajkkaaDoor
