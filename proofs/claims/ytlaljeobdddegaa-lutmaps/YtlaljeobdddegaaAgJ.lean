import Derived.Test.YtlaljeobdddegaaAgI
import Derived.OpenShut
namespace Go.Proofs.Ytlaljeobdddegaa
open Go.ChangeShapes Go.WideShapes Go.ChangeAt Go.RowKit
set_option maxRecDepth 100000

section
variable {H : Type} {enc : TypeId × Value → H} {w : World} {base : Nat} {spare : Nat → Bool} {held : Bool} {fuel : Nat}

theorem cI : Try.prog.cellsOf 3 = 1 := by kernel_rfl
theorem cB : Try.prog.cellsOf 4 = 1 := by kernel_rfl
theorem cL : Try.prog.cellsOf 45 = 2 := by kernel_rfl
theorem cA : Try.prog.cellsOf 46 = 2 := by kernel_rfl
theorem bI : Try.prog.bytesOf 3 = 8 := by kernel_rfl
theorem bL : Try.prog.bytesOf 45 = 16 := by kernel_rfl
theorem bA : Try.prog.bytesOf 46 = 16 := by kernel_rfl

theorem int_el {cs : List Value} {y : DataW H × List MemPlace} (h : DataW.trod enc Try.prog w base spare held fuel 3 cs = some y) : ∃ x : Int, cs = intC x ∧ True := by
  obtain ⟨n, hc, -, -⟩ := DataW.trod_int Try.underlying3 h
  exact ⟨n, hc, trivial⟩
theorem lat_el {cs : List Value} {y : DataW H × List MemPlace} (h : DataW.trod enc Try.prog w base spare held fuel 45 cs = some y) : ∃ x : LatD, cs = x.cells ∧ True := by
  obtain ⟨ys, m, rfl, hx, hlen, hyl, hel⟩ := DataW.trod_struct Try.underlying45 h
  rw [cL] at hlen
  match cs, hlen, ys, hyl, hx, hel with
  | [k0, k1], _, [y0, y1], _, _, hel =>
    have e0 := hel 0 _ rfl
    obtain ⟨n0, d0, -, wf0⟩ := DataW.trod_int Try.underlying3 (show DataW.trod _ Try.prog _ _ _ _ _ 3 _ = some y0 from e0)
    simp [cI] at d0
    have e1 := hel 1 _ rfl
    obtain ⟨n1, d1, -⟩ := DataW.trod_bool Try.underlying4 (show DataW.trod _ Try.prog _ _ _ _ _ 4 _ = some y1 from e1)
    simp [cB] at d1
    exact ⟨⟨n0, n1⟩, by simp [LatD.cells, *], trivial⟩
theorem and_el {cs : List Value} {y : DataW H × List MemPlace} (h : DataW.trod enc Try.prog w base spare held fuel 46 cs = some y) : ∃ x : AndD, cs = x.cells ∧ True := by
  obtain ⟨ys, m, rfl, hx, hlen, hyl, hel⟩ := DataW.trod_array Try.underlying46 h
  rw [cA] at hlen
  match cs, hlen, ys, hyl, hx, hel with
  | [k0, k1], _, [y0, y1], _, _, hel =>
    have e0 := hel 0 (by decide)
    obtain ⟨n0, d0, -, wf0⟩ := DataW.trod_int Try.underlying3 (show DataW.trod _ Try.prog _ _ _ _ _ 3 _ = some y0 from e0)
    simp [cI] at d0
    have e1 := hel 1 (by decide)
    obtain ⟨n1, d1, -, wf1⟩ := DataW.trod_int Try.underlying3 (show DataW.trod _ Try.prog _ _ _ _ _ 3 _ = some y1 from e1)
    simp [cI] at d1
    exact ⟨⟨n0, n1⟩, by simp [AndD.cells, *], trivial⟩
/-- a row's length, where nothing is too long -/
theorem len_of {α : Type} {Q : DataW H → α → Prop} {t e : TypeId} {d : DataW H} {l : List α} (ht : Try.prog.underlying t = some (.slice e)) (hb : 8 ≤ Try.prog.bytesOf e) (hf : Fine t d) (h : (d = .nil ∧ l = []) ∨ ∃ elems sp, d = .slice elems sp ∧ elems.length = l.length ∧ ∀ (i : Nat) (x : α), l[i]? = some x → ∃ d, elems[i]? = some d ∧ Q d x) :
    l.length < big := by
  rcases h with ⟨rfl, rfl⟩ | ⟨elems, sp, rfl, hl, hq⟩
  · simp [big]
  · have hh := fine_slice ht hf
    have h1 := hh.1
    have h2 : l.length * 8 ≤ (elems.length + sp.length) * Try.prog.bytesOf e := by
      rw [← hl]
      exact Nat.mul_le_mul (by omega) hb
    simp only [reachBytes] at h1
    simp only [big]
    omega

theorem open_graph {y : DataW H × List MemPlace} {cs : List Value} (h : DataW.trod enc Try.prog w base spare held fuel 26 cs = some y) (hf : Fine 26 y.1) : ∃ S G, cs = (GrS.cells S G).toList ∧ GrAt w.heap.size w S G := by
  obtain ⟨ys, m, rfl, hx, hlen, hyl, hel⟩ := DataW.trod_struct Try.underlying26 h
  rw [show Try.prog.cellsOf 26 = 4 by kernel_rfl] at hlen
  match cs, hlen, ys, hyl, hx, hel with
  | [k0, k1, k2, k3], _, [y0, y1, y2, y3], _, hx, hel =>
    rw [hx] at hf
    have e0 := hel 0 _ rfl
    obtain ⟨n0, d0, -, wf0⟩ := DataW.trod_int Try.underlying3 (show DataW.trod _ Try.prog _ _ _ _ _ 3 _ = some y0 from e0)
    simp [cI] at d0
    subst d0
    have e1 := hel 1 _ rfl
    have e1' : DataW.trod enc Try.prog w base spare held m 22 [k1] = some y1 := by
      have hc : Try.prog.cellsOf 22 = 1 := by kernel_rfl
      simpa [hc] using e1
    obtain ⟨a1, u1, l1, rfl, hr1, hd1⟩ := open_row LatD.cells (fun _ _ => True) Try.underlying22 cL (by decide) (fun fuel cs y h => lat_el h) e1'
    have g1 := len_of Try.underlying22 (by rw [bL]; decide) (fine_part Try.underlying26 hf (i := 1) rfl rfl) hd1
    have e2 := hel 2 _ rfl
    have e2' : DataW.trod enc Try.prog w base spare held m 23 [k2] = some y2 := by
      have hc : Try.prog.cellsOf 23 = 1 := by kernel_rfl
      simpa [hc] using e2
    obtain ⟨a2, u2, l2, rfl, hr2, hd2⟩ := open_row AndD.cells (fun _ _ => True) Try.underlying23 cA (by decide) (fun fuel cs y h => and_el h) e2'
    have g2 := len_of Try.underlying23 (by rw [bA]; decide) (fine_part Try.underlying26 hf (i := 2) rfl rfl) hd2
    have e3 := hel 3 _ rfl
    have e3' : DataW.trod enc Try.prog w base spare held m 24 [k3] = some y3 := by
      have hc : Try.prog.cellsOf 24 = 1 := by kernel_rfl
      simpa [hc] using e3
    obtain ⟨a3, u3, l3, rfl, hr3, hd3⟩ := open_row intC (fun _ _ => True) Try.underlying24 cI (by decide) (fun fuel cs y h => int_el h) e3'
    have g3 := len_of Try.underlying24 (by rw [bI]; decide) (fine_part Try.underlying26 hf (i := 3) rfl rfl) hd3
    exact ⟨⟨a1, u1, a2, u2, a3, u3⟩, ⟨n0, l1, l2, l3⟩, rfl, hr1, hr2, hr3, g1, g2, g3⟩

end

theorem Try.own : ownKnob Try.prog.godebug = none := by kernel_rfl
theorem Try.laidOut : laidOutB Try.prog = true := by kernel_rfl

/-- what a graph that comes in is in memory -/
theorem graph_of {H : Type} {enc : TypeId × Value → H} {W : World} {base : Nat} {v : Value} {d : DataW H} {p : List MemPlace} (hv : Value.okWide Try.prog W .any base 26 v) (h : DataW.Trod enc Try.prog W 0 (fun _ => true) true 26 v d p) (hf : Fine 26 d) :
    ∃ S G, v = .agg (GrS.cells S G) ∧ GrAt W.heap.size W S G := by
  obtain ⟨cs, rfl, _⟩ := okWide_struct Try.underlying26 hv
  obtain ⟨fuel, ht⟩ := h
  obtain ⟨S, G, hc, hn⟩ := open_graph ht hf
  refine ⟨S, G, ?_, hn⟩
  have : cs.toList = (GrS.cells S G).toList := by simpa [Value.cells] using hc
  rw [Array.toList_inj.1 this]

end Go.Proofs.Ytlaljeobdddegaa
