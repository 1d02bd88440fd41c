import Derived.Test.YtdbkomgfcgideaaSvU
import Derived.OpenShut
import Derived.Laws.IdiomArrays
namespace Go.Proofs.Ytdbkomgfcgideaa
open Go.ChangeShapes Go.WideShapes Go.ChangeAt Go.RowKit

section
variable {H : Type} {enc : TypeId × Value → H} {w : World} {base : Nat} {spare : Nat → Bool} {held : Bool} {fuel : Nat}

theorem cI : Try.prog.cellsOf 3 = 1 := by kernel_rfl
theorem cB : Try.prog.cellsOf 4 = 1 := by kernel_rfl
theorem cA : Try.prog.cellsOf 37 = 4 := by kernel_rfl
theorem cC : Try.prog.cellsOf 39 = 5 := by kernel_rfl
theorem cG : Try.prog.cellsOf 42 = 2 := by kernel_rfl
theorem cSC : Try.prog.cellsOf 40 = 1 := by kernel_rfl
theorem cSh : Try.prog.cellsOf 23 = 5 := by kernel_rfl
theorem bI : Try.prog.bytesOf 3 = 8 := by kernel_rfl
theorem bC : Try.prog.bytesOf 39 = 40 := by kernel_rfl
theorem bSC : Try.prog.bytesOf 40 = 24 := by kernel_rfl
theorem bG : Try.prog.bytesOf 42 = 16 := by kernel_rfl

theorem int_el {cs : List Value} {y : DataW H × List MemPlace} (h : DataW.trod enc Try.prog w base spare held fuel 3 cs = some y) : ∃ x : Int, cs = intC x ∧ True := by
  obtain ⟨n, hc, -, -⟩ := DataW.trod_int Try.underlying3 h
  exact ⟨n, hc, trivial⟩
/-- a row's length, where nothing is too long -/
theorem len_of' {α : Type} {Q : DataW H → α → Prop} {t e : TypeId} {d : DataW H} {l : List α} (n : Nat) (ht : Try.prog.underlying t = some (.slice e)) (hb : n ≤ Try.prog.bytesOf e) (hf : Fine t d) (h : (d = .nil ∧ l = []) ∨ ∃ elems sp, d = .slice elems sp ∧ elems.length = l.length ∧ ∀ (i : Nat) (x : α), l[i]? = some x → ∃ d, elems[i]? = some d ∧ Q d x) :
    l.length * n ≤ 140737488355327 ∧ ∀ x, x ∈ l → ∃ d, Fine e d ∧ Q d x := by
  rcases h with ⟨rfl, rfl⟩ | ⟨elems, sp, rfl, hl, hq⟩
  · exact ⟨by simp, fun x hx => by simp at hx⟩
  · have hh := fine_slice ht hf
    refine ⟨?_, fun x hx => ?_⟩
    · have h1 := hh.1
      have h2 : l.length * n ≤ (elems.length + sp.length) * Try.prog.bytesOf e := by
        rw [← hl]
        exact Nat.mul_le_mul (by omega) hb
      simp only [reachBytes] at h1
      omega
    · obtain ⟨i, hi, rfl⟩ := List.getElem_of_mem hx
      obtain ⟨d, hd, hQ⟩ := hq i _ (List.getElem?_eq_getElem hi)
      exact ⟨d, hh.2 i d hd, hQ⟩
theorem len_of {α : Type} {Q : DataW H → α → Prop} {t e : TypeId} {d : DataW H} {l : List α} (ht : Try.prog.underlying t = some (.slice e)) (hb : 8 ≤ Try.prog.bytesOf e) (hf : Fine t d) (h : (d = .nil ∧ l = []) ∨ ∃ elems sp, d = .slice elems sp ∧ elems.length = l.length ∧ ∀ (i : Nat) (x : α), l[i]? = some x → ∃ d, elems[i]? = some d ∧ Q d x) :
    l.length < big ∧ ∀ x, x ∈ l → ∃ d, Fine e d ∧ Q d x := by
  obtain ⟨h1, h2⟩ := len_of' 8 ht hb hf h
  exact ⟨by simp only [big]; omega, h2⟩

theorem sh_el {cs : List Value} {y : DataW H × List MemPlace} (h : DataW.trod enc Try.prog w base spare held fuel 23 cs = some y) : ∃ s : ShD, cs = s.arr.toList := by
  obtain ⟨ys, m, rfl, hx, hlen, hyl, hel⟩ := DataW.trod_struct Try.underlying23 h
  rw [cSh] at hlen
  match cs, hlen, ys, hyl, hx, hel with
  | [k0, k1, k2, k3, k4], _, [y0, y1, y2, y3, y4], _, hx, hel =>
    obtain ⟨n0, d0, -, -⟩ := DataW.trod_int Try.underlying3 (show DataW.trod _ Try.prog _ _ _ _ _ 3 _ = some y0 from hel 0 _ rfl)
    obtain ⟨n1, d1, -, -⟩ := DataW.trod_int Try.underlying3 (show DataW.trod _ Try.prog _ _ _ _ _ 3 _ = some y1 from hel 1 _ rfl)
    obtain ⟨n2, d2, -, -⟩ := DataW.trod_int Try.underlying3 (show DataW.trod _ Try.prog _ _ _ _ _ 3 _ = some y2 from hel 2 _ rfl)
    obtain ⟨n3, d3, -, -⟩ := DataW.trod_int Try.underlying3 (show DataW.trod _ Try.prog _ _ _ _ _ 3 _ = some y3 from hel 3 _ rfl)
    obtain ⟨n4, d4, -, -⟩ := DataW.trod_int Try.underlying3 (show DataW.trod _ Try.prog _ _ _ _ _ 3 _ = some y4 from hel 4 _ rfl)
    simp [cI] at d0 d1 d2 d3 d4
    exact ⟨⟨n0, n1, n2, n3, n4⟩, by simp [ShD.arr, *]⟩
theorem reg_el {cs : List Value} {y : DataW H × List MemPlace} (h : DataW.trod enc Try.prog w base spare held fuel 42 cs = some y) : ∃ d : RgD, cs = d.cells ∧ True := by
  obtain ⟨ys, m, rfl, hx, hlen, hyl, hel⟩ := DataW.trod_struct Try.underlying42 h
  rw [cG] at hlen
  match cs, hlen, ys, hyl, hx, hel with
  | [k0, k1], _, [y0, y1], _, hx, hel =>
    obtain ⟨n0, d0, -, -⟩ := DataW.trod_int Try.underlying3 (show DataW.trod _ Try.prog _ _ _ _ _ 3 _ = some y0 from hel 0 _ rfl)
    obtain ⟨n1, d1, -⟩ := DataW.trod_bool Try.underlying4 (show DataW.trod _ Try.prog _ _ _ _ _ 4 _ = some y1 from hel 1 _ rfl)
    simp [cI] at d0
    simp [cB] at d1
    exact ⟨⟨n0, n1⟩, by simp [RgD.cells, *], trivial⟩
theorem cell_el {cs : List Value} {y : DataW H × List MemPlace} (h : DataW.trod enc Try.prog w base spare held fuel 39 cs = some y) : ∃ d : CeD, cs = d.cells ∧ True := by
  obtain ⟨ys, m, rfl, hx, hlen, hyl, hel⟩ := DataW.trod_struct Try.underlying39 h
  rw [cC] at hlen
  match cs, hlen, ys, hyl, hx, hel with
  | [k0, k1, k2, k3, k4], _, [y0, y1], _, hx, hel =>
    have e0 : DataW.trod enc Try.prog w base spare held m 37 [k0, k1, k2, k3] = some y0 := by simpa [cA] using hel 0 _ rfl
    obtain ⟨z0, z1, z2, z3, m', -, t0, t1, t2, t3⟩ := trod_array4 Try.underlying37 cI e0
    obtain ⟨n0, d0, -, -⟩ := DataW.trod_int Try.underlying3 t0
    obtain ⟨n1, d1, -, -⟩ := DataW.trod_int Try.underlying3 t1
    obtain ⟨n2, d2, -, -⟩ := DataW.trod_int Try.underlying3 t2
    obtain ⟨n3, d3, -, -⟩ := DataW.trod_int Try.underlying3 t3
    obtain ⟨n4, d4, -, -⟩ := DataW.trod_int Try.underlying3 (show DataW.trod _ Try.prog _ _ _ _ _ 3 _ = some y1 from hel 1 _ rfl)
    simp at d0 d1 d2 d3
    simp [cI] at d4
    exact ⟨⟨n0, n1, n2, n3, n4⟩, by simp [CeD.cells, *], trivial⟩
theorem col_el {cs : List Value} {y : DataW H × List MemPlace} (h : DataW.trod enc Try.prog w base spare held fuel 40 cs = some y) (hl : cs.length = 1) : ∃ x : ClD, cs = x.cells ∧ (RowAt w.heap.size w x.a 5 (x.cs.map CeD.cells) ∧ (Fine 40 y.1 → x.cs.length < big)) := by
  match cs, hl with
  | [k], _ =>
    obtain ⟨a, c, l, rfl, hr, hd⟩ := open_row CeD.cells (fun _ _ => True) Try.underlying40 cC (by decide) (fun fuel cs y h => cell_el h) h
    exact ⟨⟨a, c, l⟩, rfl, hr, fun hf => (len_of Try.underlying40 (by rw [bC]; decide) hf hd).1⟩
theorem trod_len {t : TypeId} {e : TypeId} (ht : Try.prog.underlying t = some (.slice e)) {cs : List Value} {y : DataW H × List MemPlace} (h : DataW.trod enc Try.prog w base spare held fuel t cs = some y) : cs.length = 1 := by
  rcases Deep.open_slice ht h with ⟨hv, -⟩ | ⟨a, len, cap, m, n, D, Pl, hv, -⟩ <;> rw [hv] <;> rfl

theorem open_cfg {y : DataW H × List MemPlace} {cs : List Value} (h : DataW.trod enc Try.prog w base spare held fuel 28 cs = some y) (hf : Fine 28 y.1) : ∃ S N, cs = (CnS.cells S N).toList ∧ CnAt w.heap.size w S N := by
  obtain ⟨ys, m, rfl, hx, hlen, hyl, hel⟩ := DataW.trod_struct Try.underlying28 h
  rw [show Try.prog.cellsOf 28 = 8 by kernel_rfl] at hlen
  match cs, hlen, ys, hyl, hx, hel with
  | [k0, k1, k2, k3, k4, k5, k6, k7], _, [y0, y1, y2, y3], _, hx, hel =>
    rw [hx] at hf
    have e0 : DataW.trod enc Try.prog w base spare held m 23 [k0, k1, k2, k3, k4] = some y0 := by simpa [cSh] using hel 0 _ rfl
    obtain ⟨s, hs⟩ := sh_el e0
    have e1 : DataW.trod enc Try.prog w base spare held m 24 [k5] = some y1 := by
      have hc : Try.prog.cellsOf 24 = 1 := by kernel_rfl
      simpa [hc] using hel 1 _ rfl
    obtain ⟨a1, u1, l1, rfl, hr1, hd1⟩ := open_row ClD.cells (fun d x => RowAt w.heap.size w x.a 5 (x.cs.map CeD.cells) ∧ (Fine 40 d → x.cs.length < big)) Try.underlying24 cSC (by decide) (fun fuel cs y h => col_el h (trod_len Try.underlying40 h)) e1
    have g1 := len_of Try.underlying24 (by rw [bSC]; decide) (fine_part Try.underlying28 hf (i := 1) rfl rfl) hd1
    have e2 : DataW.trod enc Try.prog w base spare held m 25 [k6] = some y2 := by
      have hc : Try.prog.cellsOf 25 = 1 := by kernel_rfl
      simpa [hc] using hel 2 _ rfl
    obtain ⟨a2, u2, l2, rfl, hr2, hd2⟩ := open_row RgD.cells (fun _ _ => True) Try.underlying25 cG (by decide) (fun fuel cs y h => reg_el h) e2
    have g2 := len_of Try.underlying25 (by rw [bG]; decide) (fine_part Try.underlying28 hf (i := 2) rfl rfl) hd2
    have e3 : DataW.trod enc Try.prog w base spare held m 26 [k7] = some y3 := by
      have hc : Try.prog.cellsOf 26 = 1 := by kernel_rfl
      simpa [hc] using hel 3 _ rfl
    obtain ⟨a3, u3, l3, rfl, hr3, hd3⟩ := open_row intC (fun _ _ => True) Try.underlying26 cI (by decide) (fun fuel cs y h => int_el h) e3
    have g3 := len_of Try.underlying26 (by rw [bI]; decide) (fine_part Try.underlying28 hf (i := 3) rfl rfl) hd3
    simp only [ShD.arr, List.cons.injEq, and_true] at hs
    obtain ⟨rfl, rfl, rfl, rfl, rfl⟩ := hs
    exact ⟨⟨a1, u1, a2, u2, a3, u3⟩, ⟨s, l1, l2, l3⟩, rfl, hr1, fun d hd => (g1.2 d hd).elim fun _ h => h.2.1, hr2, hr3, g1.1, fun d hd => (g1.2 d hd).elim fun _ h => h.2.2 h.1, g2.1, g3.1⟩

end

theorem Try.own : ownKnob Try.prog.godebug = none := by kernel_rfl
theorem Try.laidOut : laidOutB Try.prog = true := by kernel_rfl

/-- what a configuration that comes in is in memory -/
theorem cfg_of {H : Type} {enc : TypeId × Value → H} {W : World} {base : Nat} {v : Value} {d : DataW H} {p : List MemPlace} (hv : Value.okWide Try.prog W .any base 28 v) (h : DataW.Trod enc Try.prog W 0 (fun _ => true) true 28 v d p) (hf : Fine 28 d) :
    ∃ S N, v = .agg (CnS.cells S N) ∧ CnAt W.heap.size W S N := by
  obtain ⟨cs, rfl, _⟩ := okWide_struct Try.underlying28 hv
  obtain ⟨fuel, ht⟩ := h
  obtain ⟨S, N, hc, hn⟩ := open_cfg ht hf
  refine ⟨S, N, ?_, hn⟩
  have : cs.toList = (CnS.cells S N).toList := by simpa [Value.cells] using hc
  rw [Array.toList_inj.1 this]

end Go.Proofs.Ytdbkomgfcgideaa
