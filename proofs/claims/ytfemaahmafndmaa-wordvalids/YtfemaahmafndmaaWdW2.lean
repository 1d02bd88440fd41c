import Derived.Test.YtfemaahmafndmaaWdW1
namespace Go.Proofs.Ytfemaahmafndmaa
open Go.ChangeShapes Go.WideShapes Go.ChangeAt Go.RowKit

section
variable {H : Type} {enc : TypeId × Value → H} {w : World} {base : Nat} {spare : Nat → Bool} {held : Bool} {fuel : Nat}

theorem b3 : Try.prog.bytesOf 3 = 8 := by kernel_rfl
theorem b41 : Try.prog.bytesOf 41 = 48 := by kernel_rfl
theorem b43 : Try.prog.bytesOf 43 = 24 := by kernel_rfl
theorem b46 : Try.prog.bytesOf 46 = 16 := by kernel_rfl
theorem b50 : Try.prog.bytesOf 50 = 32 := by kernel_rfl
theorem wf_u {n : Int} (h : (Lit.int .u64 n).wf = true) : 0 ≤ n ∧ n < 18446744073709551616 := by
  have h1 : IntKind.u64.min = 0 := rfl
  have h2 : IntKind.u64.max = 18446744073709551615 := rfl
  simp [Lit.wf] at h
  omega

theorem int_el {cs : List Value} {y : DataW H × List MemPlace} (h : DataW.trod enc Try.prog w base spare held fuel 3 cs = some y) : ∃ x : Int, cs = intC x ∧ True := by
  obtain ⟨n, hc, -, -⟩ := DataW.trod_int Try.underlying3 h
  exact ⟨n, hc, trivial⟩
theorem mem_el {cs : List Value} {y : DataW H × List MemPlace} (h : DataW.trod enc Try.prog w base spare held fuel 46 cs = some y) : ∃ x : MemD, cs = x.cells ∧ True := by
  obtain ⟨ys, m, rfl, hx, hlen, hyl, hel⟩ := DataW.trod_struct Try.underlying46 h
  rw [c46] at hlen
  match cs, hlen, ys, hyl, hx, hel with
  | [k0, k1], _, [y0, y1], _, _, hel =>
    have e0 := hel 0 _ rfl
    obtain ⟨n0, d0, -, wf0⟩ := DataW.trod_int Try.underlying3 (show DataW.trod _ Try.prog _ _ _ _ _ 3 _ = some y0 from e0)
    simp [c3] at d0
    have e1 := hel 1 _ rfl
    obtain ⟨n1, d1, -, wf1⟩ := DataW.trod_int Try.underlying3 (show DataW.trod _ Try.prog _ _ _ _ _ 3 _ = some y1 from e1)
    simp [c3] at d1
    exact ⟨⟨n0, n1⟩, by simp [MemD.cells, *], trivial⟩
theorem wr_el {cs : List Value} {y : DataW H × List MemPlace} (h : DataW.trod enc Try.prog w base spare held fuel 50 cs = some y) : ∃ x : WrD, cs = x.cells ∧ True := by
  obtain ⟨ys, m, rfl, hx, hlen, hyl, hel⟩ := DataW.trod_struct Try.underlying50 h
  rw [c50] at hlen
  match cs, hlen, ys, hyl, hx, hel with
  | [k0, k1, k2, k3], _, [y0, y1, y2, y3], _, _, hel =>
    have e0 := hel 0 _ rfl
    obtain ⟨n0, d0, -, wf0⟩ := DataW.trod_int Try.underlying3 (show DataW.trod _ Try.prog _ _ _ _ _ 3 _ = some y0 from e0)
    simp [c3] at d0
    have e1 := hel 1 _ rfl
    obtain ⟨n1, d1, -, wf1⟩ := DataW.trod_int Try.underlying3 (show DataW.trod _ Try.prog _ _ _ _ _ 3 _ = some y1 from e1)
    simp [c3] at d1
    have e2 := hel 2 _ rfl
    obtain ⟨n2, d2, -, wf2⟩ := DataW.trod_int Try.underlying3 (show DataW.trod _ Try.prog _ _ _ _ _ 3 _ = some y2 from e2)
    simp [c3] at d2
    have e3 := hel 3 _ rfl
    obtain ⟨n3, d3, -, wf3⟩ := DataW.trod_int Try.underlying3 (show DataW.trod _ Try.prog _ _ _ _ _ 3 _ = some y3 from e3)
    simp [c3] at d3
    exact ⟨⟨n0, n1, n2, n3⟩, by simp [WrD.cells, *], trivial⟩
theorem reg_el {cs : List Value} {y : DataW H × List MemPlace} (h : DataW.trod enc Try.prog w base spare held fuel 43 cs = some y) : ∃ x : RegD, cs = x.cells ∧ (0 ≤ x.init ∧ x.init < 18446744073709551616) := by
  obtain ⟨ys, m, rfl, hx, hlen, hyl, hel⟩ := DataW.trod_struct Try.underlying43 h
  rw [c43] at hlen
  match cs, hlen, ys, hyl, hx, hel with
  | [k0, k1, k2], _, [y0, y1, y2], _, _, hel =>
    have e0 := hel 0 _ rfl
    obtain ⟨n0, d0, -, wf0⟩ := DataW.trod_int Try.underlying3 (show DataW.trod _ Try.prog _ _ _ _ _ 3 _ = some y0 from e0)
    simp [c3] at d0
    have e1 := hel 1 _ rfl
    obtain ⟨n1, d1, -, wf1⟩ := DataW.trod_int Try.underlying33 (show DataW.trod _ Try.prog _ _ _ _ _ 33 _ = some y1 from e1)
    simp [c33] at d1
    have e2 := hel 2 _ rfl
    obtain ⟨n2, d2, -, wf2⟩ := DataW.trod_int Try.underlying3 (show DataW.trod _ Try.prog _ _ _ _ _ 3 _ = some y2 from e2)
    simp [c3] at d2
    exact ⟨⟨n0, n1, n2⟩, by simp [RegD.cells, *], wf_u wf1⟩
/-- a row's length, where nothing is too long -/
theorem len_of {α : Type} {Q : DataW H → α → Prop} {t e : TypeId} {d : DataW H} {l : List α} (ht : Try.prog.underlying t = some (.slice e)) (hb : 8 ≤ Try.prog.bytesOf e) (hf : Fine t d) (h : (d = .nil ∧ l = []) ∨ ∃ elems sp, d = .slice elems sp ∧ elems.length = l.length ∧ ∀ (i : Nat) (x : α), l[i]? = some x → ∃ d, elems[i]? = some d ∧ Q d x) :
    l.length < big ∧ ∀ x, x ∈ l → ∃ d, Fine e d ∧ Q d x := by
  rcases h with ⟨rfl, rfl⟩ | ⟨elems, sp, rfl, hl, hq⟩
  · exact ⟨by simp [big], fun x hx => by simp at hx⟩
  · have hh := fine_slice ht hf
    refine ⟨?_, fun x hx => ?_⟩
    · have h1 := hh.1
      have h2 : l.length * 8 ≤ (elems.length + sp.length) * Try.prog.bytesOf e := by
        rw [← hl]
        exact Nat.mul_le_mul (by omega) hb
      simp only [reachBytes] at h1
      simp only [big]
      omega
    · obtain ⟨i, hi, rfl⟩ := List.getElem_of_mem hx
      obtain ⟨d, hd, hQ⟩ := hq i _ (List.getElem?_eq_getElem hi)
      exact ⟨d, hh.2 i d hd, hQ⟩

theorem node_el {cs : List Value} {y : DataW H × List MemPlace} (h : DataW.trod enc Try.prog w base spare held fuel 41 cs = some y) : ∃ x : NodeD, cs = x.cells ∧ (RowAt w.heap.size w x.aa 1 (x.args.map intC) ∧ 0 ≤ x.num ∧ x.num < 18446744073709551616 ∧ (Fine 41 y.1 → x.args.length < big)) := by
  obtain ⟨ys, m, rfl, hx, hlen, hyl, hel⟩ := DataW.trod_struct Try.underlying41 h
  rw [c41] at hlen
  match cs, hlen, ys, hyl, hx, hel with
  | [k0, k1, k2, k3], _, [y0, y1, y2, y3], _, hx, hel =>
    have e0 := hel 0 _ rfl
    obtain ⟨n0, d0, -, wf0⟩ := DataW.trod_int Try.underlying3 (show DataW.trod _ Try.prog _ _ _ _ _ 3 _ = some y0 from e0)
    simp [c3] at d0
    have e1 := hel 1 _ rfl
    obtain ⟨n1, d1, -, wf1⟩ := DataW.trod_int Try.underlying3 (show DataW.trod _ Try.prog _ _ _ _ _ 3 _ = some y1 from e1)
    simp [c3] at d1
    have e2 := hel 2 _ rfl
    obtain ⟨n2, d2, -, wf2⟩ := DataW.trod_int Try.underlying33 (show DataW.trod _ Try.prog _ _ _ _ _ 33 _ = some y2 from e2)
    simp [c33] at d2
    have e3 := hel 3 _ rfl
    have e3' : DataW.trod enc Try.prog w base spare held m 22 [k3] = some y3 := by simpa [c22] using e3
    obtain ⟨a, c, l, rfl, hr, hd⟩ := open_row intC (fun _ _ => True) Try.underlying22 c3 (by decide) (fun fuel cs y h => int_el h) e3'
    refine ⟨⟨n0, n1, n2, l, a, c⟩, by simp [NodeD.cells, *], hr, (wf_u wf2).1, (wf_u wf2).2, fun hf => ?_⟩
    rw [hx] at hf
    exact (len_of Try.underlying22 (by rw [b3]; decide) (fine_part Try.underlying41 hf (i := 3) rfl rfl) hd).1

theorem open_net {y : DataW H × List MemPlace} {cs : List Value} (h : DataW.trod enc Try.prog w base spare held fuel 28 cs = some y) (hf : Fine 28 y.1) : ∃ S N, cs = (NetS.cells S N).toList ∧ NetAt w.heap.size w S N := by
  obtain ⟨ys, m, rfl, hx, hlen, hyl, hel⟩ := DataW.trod_struct Try.underlying28 h
  rw [show Try.prog.cellsOf 28 = 6 by kernel_rfl] at hlen
  match cs, hlen, ys, hyl, hx, hel with
  | [k0, k1, k2, k3, k4, k5], _, [y0, y1, y2, y3, y4, y5], _, hx, hel =>
    rw [hx] at hf
    have e0 := hel 0 _ rfl
    have e0' : DataW.trod enc Try.prog w base spare held m 22 [k0] = some y0 := by
      have hc : Try.prog.cellsOf 22 = 1 := by kernel_rfl
      simpa [hc] using e0
    obtain ⟨a0, u0, l0, rfl, hr0, hd0⟩ := open_row intC (fun _ _ => True) Try.underlying22 c3 (by decide) (fun fuel cs y h => int_el h) e0'
    have g0 := len_of Try.underlying22 (by rw [b3]; decide) (fine_part Try.underlying28 hf (i := 0) rfl rfl) hd0
    have e1 := hel 1 _ rfl
    have e1' : DataW.trod enc Try.prog w base spare held m 23 [k1] = some y1 := by
      have hc : Try.prog.cellsOf 23 = 1 := by kernel_rfl
      simpa [hc] using e1
    obtain ⟨a1, u1, l1, rfl, hr1, hd1⟩ := open_row NodeD.cells (fun d x => RowAt w.heap.size w x.aa 1 (x.args.map intC) ∧ 0 ≤ x.num ∧ x.num < 18446744073709551616 ∧ (Fine 41 d → x.args.length < big)) Try.underlying23 c41 (by decide) (fun fuel cs y h => node_el h) e1'
    have g1 := len_of Try.underlying23 (by rw [b41]; decide) (fine_part Try.underlying28 hf (i := 1) rfl rfl) hd1
    have e2 := hel 2 _ rfl
    have e2' : DataW.trod enc Try.prog w base spare held m 24 [k2] = some y2 := by
      have hc : Try.prog.cellsOf 24 = 1 := by kernel_rfl
      simpa [hc] using e2
    obtain ⟨a2, u2, l2, rfl, hr2, hd2⟩ := open_row RegD.cells (fun _ x => 0 ≤ x.init ∧ x.init < 18446744073709551616) Try.underlying24 c43 (by decide) (fun fuel cs y h => reg_el h) e2'
    have g2 := len_of Try.underlying24 (by rw [b43]; decide) (fine_part Try.underlying28 hf (i := 2) rfl rfl) hd2
    have e3 := hel 3 _ rfl
    have e3' : DataW.trod enc Try.prog w base spare held m 25 [k3] = some y3 := by
      have hc : Try.prog.cellsOf 25 = 1 := by kernel_rfl
      simpa [hc] using e3
    obtain ⟨a3, u3, l3, rfl, hr3, hd3⟩ := open_row MemD.cells (fun _ _ => True) Try.underlying25 c46 (by decide) (fun fuel cs y h => mem_el h) e3'
    have g3 := len_of Try.underlying25 (by rw [b46]; decide) (fine_part Try.underlying28 hf (i := 3) rfl rfl) hd3
    have e4 := hel 4 _ rfl
    have e4' : DataW.trod enc Try.prog w base spare held m 26 [k4] = some y4 := by
      have hc : Try.prog.cellsOf 26 = 1 := by kernel_rfl
      simpa [hc] using e4
    obtain ⟨a4, u4, l4, rfl, hr4, hd4⟩ := open_row WrD.cells (fun _ _ => True) Try.underlying26 c50 (by decide) (fun fuel cs y h => wr_el h) e4'
    have g4 := len_of Try.underlying26 (by rw [b50]; decide) (fine_part Try.underlying28 hf (i := 4) rfl rfl) hd4
    have e5 := hel 5 _ rfl
    have e5' : DataW.trod enc Try.prog w base spare held m 22 [k5] = some y5 := by
      have hc : Try.prog.cellsOf 22 = 1 := by kernel_rfl
      simpa [hc] using e5
    obtain ⟨a5, u5, l5, rfl, hr5, hd5⟩ := open_row intC (fun _ _ => True) Try.underlying22 c3 (by decide) (fun fuel cs y h => int_el h) e5'
    have g5 := len_of Try.underlying22 (by rw [b3]; decide) (fine_part Try.underlying28 hf (i := 5) rfl rfl) hd5
    refine ⟨⟨a0, u0, a1, u1, a2, u2, a3, u3, a4, u4, a5, u5⟩, ⟨l0, l1, l2, l3, l4, l5⟩, rfl, hr0, hr1, hr2, hr3, hr4, hr5, fun d hd => ?_, fun d hd => ?_, g0.1, g1.1, g2.1, g3.1, g4.1, g5.1⟩
    · obtain ⟨x, hfx, q1, q2, q3, q4⟩ := g1.2 d hd
      exact ⟨q1, q2, q3, q4 hfx⟩
    · obtain ⟨x, -, q1, q2⟩ := g2.2 d hd
      exact ⟨q1, q2⟩

end
end Go.Proofs.Ytfemaahmafndmaa
