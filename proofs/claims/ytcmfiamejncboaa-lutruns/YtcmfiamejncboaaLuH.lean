import Derived.Test.YtcmfiamejncboaaLuG
import Derived.OpenShut
namespace Go.Proofs.Ytcmfiamejncboaa
open Go.ChangeShapes Go.WideShapes Go.ChangeAt Go.RowKit

section
variable {H : Type} {enc : TypeId × Value → H} {w : World} {base : Nat} {spare : Nat → Bool} {held : Bool} {fuel : Nat}

theorem cI : Try.prog.cellsOf 3 = 1 := by kernel_rfl
theorem cB : Try.prog.cellsOf 4 = 1 := by kernel_rfl
theorem cSI : Try.prog.cellsOf 24 = 1 := by kernel_rfl
theorem cT : Try.prog.cellsOf 34 = 2 := by kernel_rfl
theorem bI : Try.prog.bytesOf 3 = 8 := by kernel_rfl
theorem bB : Try.prog.bytesOf 4 = 1 := by kernel_rfl
theorem bT : Try.prog.bytesOf 34 = 32 := by kernel_rfl

theorem int_el {cs : List Value} {y : DataW H × List MemPlace} (h : DataW.trod enc Try.prog w base spare held fuel 3 cs = some y) : ∃ x : Int, cs = intC x ∧ True := by
  obtain ⟨n, hc, -, -⟩ := DataW.trod_int Try.underlying3 h
  exact ⟨n, hc, trivial⟩
theorem bool_el {cs : List Value} {y : DataW H × List MemPlace} (h : DataW.trod enc Try.prog w base spare held fuel 4 cs = some y) : ∃ x : Bool, cs = boolC x ∧ True := by
  obtain ⟨n, hc, -⟩ := DataW.trod_bool Try.underlying4 h
  exact ⟨n, hc, trivial⟩
/-- a row's length, where nothing is too long -/
theorem len_of' {α : Type} {Q : DataW H → α → Prop} {t e : TypeId} {d : DataW H} {l : List α} (n : Nat) (ht : Try.prog.underlying t = some (.slice e)) (hb : n ≤ Try.prog.bytesOf e) (hf : Fine t d) (h : (d = .nil ∧ l = []) ∨ ∃ elems sp, d = .slice elems sp ∧ elems.length = l.length ∧ ∀ (i : Nat) (x : α), l[i]? = some x → ∃ d, elems[i]? = some d ∧ Q d x) :
    l.length * n ≤ 140737488355327 ∧ ∀ x, x ∈ l → ∃ d, Fine e d ∧ Q d x := by
  rcases h with ⟨rfl, rfl⟩ | ⟨elems, sp, rfl, hl, hq⟩
  · exact ⟨by simp, fun x hx => by simp at hx⟩
  · have hh := fine_slice ht hf
    refine ⟨?_, fun x hx => ?_⟩
    · have h1 := hh.1
      have h2 : l.length * n ≤ (elems.length + sp.length) * Try.prog.bytesOf e := by
        rw [← hl]
        exact Nat.mul_le_mul (by omega) hb
      simp only [reachBytes] at h1
      omega
    · obtain ⟨i, hi, rfl⟩ := List.getElem_of_mem hx
      obtain ⟨d, hd, hQ⟩ := hq i _ (List.getElem?_eq_getElem hi)
      exact ⟨d, hh.2 i d hd, hQ⟩
theorem len_of {α : Type} {Q : DataW H → α → Prop} {t e : TypeId} {d : DataW H} {l : List α} (ht : Try.prog.underlying t = some (.slice e)) (hb : 8 ≤ Try.prog.bytesOf e) (hf : Fine t d) (h : (d = .nil ∧ l = []) ∨ ∃ elems sp, d = .slice elems sp ∧ elems.length = l.length ∧ ∀ (i : Nat) (x : α), l[i]? = some x → ∃ d, elems[i]? = some d ∧ Q d x) :
    l.length < big ∧ ∀ x, x ∈ l → ∃ d, Fine e d ∧ Q d x := by
  obtain ⟨h1, h2⟩ := len_of' 8 ht hb hf h
  exact ⟨by simp only [big]; omega, h2⟩
theorem len_ofB {α : Type} {Q : DataW H → α → Prop} {t e : TypeId} {d : DataW H} {l : List α} (ht : Try.prog.underlying t = some (.slice e)) (hb : 1 ≤ Try.prog.bytesOf e) (hf : Fine t d) (h : (d = .nil ∧ l = []) ∨ ∃ elems sp, d = .slice elems sp ∧ elems.length = l.length ∧ ∀ (i : Nat) (x : α), l[i]? = some x → ∃ d, elems[i]? = some d ∧ Q d x) :
    l.length < huge ∧ ∀ x, x ∈ l → ∃ d, Fine e d ∧ Q d x := by
  obtain ⟨h1, h2⟩ := len_of' 1 ht hb hf h
  exact ⟨by simp only [huge]; omega, h2⟩
theorem tab_el {cs : List Value} {y : DataW H × List MemPlace} (h : DataW.trod enc Try.prog w base spare held fuel 34 cs = some y) : ∃ x : TbD, cs = x.cells ∧ (RowAt w.heap.size w x.a 1 (x.ins.map intC) ∧ (Fine 34 y.1 → x.ins.length < big)) := by
  obtain ⟨ys, m, rfl, hx, hlen, hyl, hel⟩ := DataW.trod_struct Try.underlying34 h
  rw [cT] at hlen
  match cs, hlen, ys, hyl, hx, hel with
  | [k0, k1], _, [y0, y1], _, hx, hel =>
    have e0 := hel 0 _ rfl
    have e0' : DataW.trod enc Try.prog w base spare held m 24 [k0] = some y0 := by simpa [cSI] using e0
    obtain ⟨a, c, l, rfl, hr, hd⟩ := open_row intC (fun _ _ => True) Try.underlying24 cI (by decide) (fun fuel cs y h => int_el h) e0'
    have e1 := hel 1 _ rfl
    obtain ⟨n1, d1, -, wf1⟩ := DataW.trod_int Try.underlying3 (show DataW.trod _ Try.prog _ _ _ _ _ 3 _ = some y1 from e1)
    simp [cI] at d1
    refine ⟨⟨a, c, l, n1⟩, by simp [TbD.cells, *], hr, fun hf => ?_⟩
    rw [hx] at hf
    exact (len_of Try.underlying24 (by rw [bI]; decide) (fine_part Try.underlying34 hf (i := 0) rfl rfl) hd).1

theorem open_net {y : DataW H × List MemPlace} {cs : List Value} (h : DataW.trod enc Try.prog w base spare held fuel 26 cs = some y) (hf : Fine 26 y.1) : ∃ S N, cs = (NtS.cells S N).toList ∧ NtAt w.heap.size w S N := by
  obtain ⟨ys, m, rfl, hx, hlen, hyl, hel⟩ := DataW.trod_struct Try.underlying26 h
  rw [show Try.prog.cellsOf 26 = 5 by kernel_rfl] at hlen
  match cs, hlen, ys, hyl, hx, hel with
  | [k0, k1, k2, k3, k4], _, [y0, y1, y2, y3, y4], _, hx, hel =>
    rw [hx] at hf
    have e0 := hel 0 _ rfl
    obtain ⟨n0, d0, -, wf0⟩ := DataW.trod_int Try.underlying3 (show DataW.trod _ Try.prog _ _ _ _ _ 3 _ = some y0 from e0)
    simp [cI] at d0
    subst d0
    have e1 := hel 1 _ rfl
    have e1' : DataW.trod enc Try.prog w base spare held m 22 [k1] = some y1 := by
      have hc : Try.prog.cellsOf 22 = 1 := by kernel_rfl
      simpa [hc] using e1
    obtain ⟨a1, u1, l1, rfl, hr1, hd1⟩ := open_row boolC (fun _ _ => True) Try.underlying22 cB (by decide) (fun fuel cs y h => bool_el h) e1'
    have g1 := len_ofB Try.underlying22 (by rw [bB]; decide) (fine_part Try.underlying26 hf (i := 1) rfl rfl) hd1
    have e2 := hel 2 _ rfl
    have e2' : DataW.trod enc Try.prog w base spare held m 23 [k2] = some y2 := by
      have hc : Try.prog.cellsOf 23 = 1 := by kernel_rfl
      simpa [hc] using e2
    obtain ⟨a2, u2, l2, rfl, hr2, hd2⟩ := open_row TbD.cells (fun d x => RowAt w.heap.size w x.a 1 (x.ins.map intC) ∧ (Fine 34 d → x.ins.length < big)) Try.underlying23 cT (by decide) (fun fuel cs y h => tab_el h) e2'
    have g2 := len_of Try.underlying23 (by rw [bT]; decide) (fine_part Try.underlying26 hf (i := 2) rfl rfl) hd2
    have e3 := hel 3 _ rfl
    have e3' : DataW.trod enc Try.prog w base spare held m 24 [k3] = some y3 := by
      have hc : Try.prog.cellsOf 24 = 1 := by kernel_rfl
      simpa [hc] using e3
    obtain ⟨a3, u3, l3, rfl, hr3, hd3⟩ := open_row intC (fun _ _ => True) Try.underlying24 cI (by decide) (fun fuel cs y h => int_el h) e3'
    have g3 := len_of Try.underlying24 (by rw [bI]; decide) (fine_part Try.underlying26 hf (i := 3) rfl rfl) hd3
    have e4 := hel 4 _ rfl
    have e4' : DataW.trod enc Try.prog w base spare held m 24 [k4] = some y4 := by
      have hc : Try.prog.cellsOf 24 = 1 := by kernel_rfl
      simpa [hc] using e4
    obtain ⟨a4, u4, l4, rfl, hr4, hd4⟩ := open_row intC (fun _ _ => True) Try.underlying24 cI (by decide) (fun fuel cs y h => int_el h) e4'
    have g4 := len_of Try.underlying24 (by rw [bI]; decide) (fine_part Try.underlying26 hf (i := 4) rfl rfl) hd4
    exact ⟨⟨a1, u1, a2, u2, a3, u3, a4, u4⟩, ⟨n0, l1, l2, l3, l4⟩, rfl, hr1, hr2, fun d hd => (g2.2 d hd).elim fun _ h => h.2.1, hr3, hr4, g1.1, g2.1, fun d hd => (g2.2 d hd).elim fun _ h => h.2.2 h.1, g3.1, g4.1⟩

end

theorem Try.own : ownKnob Try.prog.godebug = none := by kernel_rfl
theorem Try.laidOut : laidOutB Try.prog = true := by kernel_rfl

/-- what a net that comes in is in memory -/
theorem net_of {H : Type} {enc : TypeId × Value → H} {W : World} {base : Nat} {v : Value} {d : DataW H} {p : List MemPlace} (hv : Value.okWide Try.prog W .any base 26 v) (h : DataW.Trod enc Try.prog W 0 (fun _ => true) true 26 v d p) (hf : Fine 26 d) :
    ∃ S N, v = .agg (NtS.cells S N) ∧ NtAt W.heap.size W S N := by
  obtain ⟨cs, rfl, _⟩ := okWide_struct Try.underlying26 hv
  obtain ⟨fuel, ht⟩ := h
  obtain ⟨S, N, hc, hn⟩ := open_net ht hf
  refine ⟨S, N, ?_, hn⟩
  have : cs.toList = (NtS.cells S N).toList := by simpa [Value.cells] using hc
  rw [Array.toList_inj.1 this]

end Go.Proofs.Ytcmfiamejncboaa
