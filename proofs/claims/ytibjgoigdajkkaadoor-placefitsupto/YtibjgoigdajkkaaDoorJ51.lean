import Derived.Test.YtibjgoigdajkkaaDoorJ05
import Derived.ProofKit
import Derived.SizedLaws
import Derived.Deep.Slices
import Derived.OpenShut
namespace Go.Proofs.YtibjgoigdajkkaaDoor
open Go.ChangeShapes Go.WideShapes Go.ChangeAt Go.RowKit

section
variable {H : Type} {enc : TypeId × Value → H} {w : World} {base : Nat} {spare : Nat → Bool} {held : Bool} {fuel : Nat}

/-- nothing in it that is longer than memory is -/
def Fine (t : TypeId) (d : DataW H) : Prop := ∀ n, n ∈ DataW.weights Tryd.prog t d → n ≤ reachBytes
theorem fine_part {t : TypeId} {fs : Array Field} {parts : List (DataW H)} (ht : Tryd.prog.underlying t = some (.struct fs)) (h : Fine t (.agg parts)) {i : Nat} {f : Field} {d : DataW H} (hf : fs[i]? = some f) (hd : parts[i]? = some d) : Fine f.type d := fun n hn => by
  refine h n ?_
  rw [DataW.weights.eq_def]
  simp only [ht]
  exact DataW.weights_mem_each (j := i) (by rw [List.getElem?_map, Array.getElem?_toList, hf]; rfl) hd n hn
theorem mem_all {e : TypeId} {l : List (DataW H)} {i : Nat} {d : DataW H} (hd : l[i]? = some d) : ∀ n, n ∈ DataW.weights Tryd.prog e d → n ∈ DataW.weightsAll Tryd.prog e l := by
  induction l generalizing i with
  | nil => simp at hd
  | cons a r ih =>
    intro n hn
    rw [DataW.weightsAll.eq_def]
    simp only [List.mem_append]
    cases i with
    | zero => simp at hd; subst hd; exact .inl hn
    | succ i => exact .inr (ih (by simpa using hd) n hn)
theorem fine_slice {t e : TypeId} {elems sp : List (DataW H)} (ht : Tryd.prog.underlying t = some (.slice e)) (h : Fine t (.slice elems sp)) : (elems.length + sp.length) * Tryd.prog.bytesOf e ≤ reachBytes ∧ ∀ (i : Nat) (d : DataW H), elems[i]? = some d → Fine e d := by
  have e1 : DataW.weights Tryd.prog t (.slice elems sp) = (elems.length + sp.length) * Tryd.prog.bytesOf e :: (DataW.weightsAll Tryd.prog e elems ++ DataW.weightsAll Tryd.prog e sp) := by
    rw [DataW.weights.eq_def]; simp only [ht]
  unfold Fine at h
  rw [e1] at h
  exact ⟨h _ List.mem_cons_self, fun i d hd n hn => h n (List.mem_cons_of_mem _ (List.mem_append.2 (.inl (mem_all hd n hn))))⟩
theorem listOf {α : Type} {Q : Nat → α → Prop} (n : Nat) (h : ∀ i, i < n → ∃ x, Q i x) : ∃ l : List α, l.length = n ∧ ∀ (i : Nat) (x : α), l[i]? = some x → Q i x := by
  induction n with
  | zero => exact ⟨[], rfl, fun i x hx => by simp at hx⟩
  | succ n ih =>
    obtain ⟨l, hl, hq⟩ := ih (fun i hi => h i (by omega))
    obtain ⟨x, hx⟩ := h n (by omega)
    refine ⟨l ++ [x], by simp [hl], fun i y hy => ?_⟩
    rcases Nat.lt_or_ge i n with hi | hi
    · rw [List.getElem?_append_left (by omega)] at hy; exact hq i y hy
    · rw [List.getElem?_append_right (by omega)] at hy
      have : i - l.length = 0 := by
        have := (List.getElem?_eq_some_iff.1 hy).1
        simp at this; omega
      rw [this] at hy
      simp at hy
      subst hy
      have : i = n := by omega
      rw [this]; exact hx
theorem spot_none {b o : Nat} {sp : Option Nat} {v : Value} (h : w.cell? ⟨b, o, sp⟩ = some v) : sp = none := by
  cases sp with
  | none => rfl
  | some x =>
    unfold World.cell? at h
    split at h <;> simp at h
theorem add_none (b o n : Nat) : (⟨b, o, none⟩ : Addr).add n = ⟨b, o + n, none⟩ := by
  unfold Addr.add; split
  · simp
  · rfl

/-- a slice of rows of cells -/
theorem open_row {α : Type} (f : α → List Value) (Q : DataW H → α → Prop) {t e : TypeId} {sz : Nat} {v : Value} {y : DataW H × List MemPlace} (ht : Tryd.prog.underlying t = some (.slice e)) (hc : Tryd.prog.cellsOf e = sz) (hs : 0 < sz)
    (hel : ∀ (fuel : Nat) (cs : List Value) (y : DataW H × List MemPlace), DataW.trod enc Tryd.prog w base spare held fuel e cs = some y → ∃ x : α, cs = f x ∧ Q y.1 x) (h : DataW.trod enc Tryd.prog w base spare held fuel t [v] = some y) :
    ∃ a c, ∃ l : List α, v = .slice a l.length c ∧ RowAt w.heap.size w a sz (l.map f) ∧ ((y.1 = .nil ∧ l = []) ∨ ∃ elems sp, y.1 = .slice elems sp ∧ elems.length = l.length ∧ ∀ (i : Nat) (x : α), l[i]? = some x → ∃ d, elems[i]? = some d ∧ Q d x) := by
  rcases Deep.open_slice ht h with ⟨hv, hy⟩ | ⟨a, len, cap, m, n, D, Pl, hv, hb, hlc, hcm, hm, hy, hall⟩
  · simp only [List.cons.injEq, and_true] at hv
    subst hv; subst hy
    exact ⟨none, 0, [], rfl, rowAt_nil, .inl ⟨rfl, rfl⟩⟩
  · simp only [List.cons.injEq, and_true] at hv
    subst hv; subst hy
    have hlm : len ≤ m := by rw [hm]; split <;> omega
    obtain ⟨l, hl, hq⟩ := listOf (Q := fun i (x : α) => (∀ (j : Nat) (c : Value), (f x)[j]? = some c → w.cell? ((a.add (i * sz)).add j) = some c) ∧ (f x).length = sz ∧ Q (D i) x) len (fun i hi => by
      obtain ⟨cs', h1, h2⟩ := hall i (by omega)
      rw [hc] at h1
      obtain ⟨x, hx, hQ⟩ := hel n cs' _ h2
      subst hx
      obtain ⟨-, hlen, hcell⟩ := World.cells?_some h1
      exact ⟨x, fun j c hj => (hcell j (by rw [← hlen]; exact (List.getElem?_eq_some_iff.1 hj).1)).trans hj, hlen, hQ⟩)
    refine ⟨some a, cap, l, by rw [hl], ?_, .inr ⟨_, _, rfl, by simp [hl], fun i x hx => ?_⟩⟩
    · intro hne
      obtain ⟨x0, hx0⟩ : ∃ x, l[0]? = some x := by
        cases l with
        | nil => simp at hne
        | cons a r => exact ⟨a, rfl⟩
      obtain ⟨hc0, hl0, -⟩ := hq 0 x0 hx0
      obtain ⟨v0, hv0⟩ : ∃ v, (f x0)[0]? = some v := ⟨(f x0)[0]'(by omega), List.getElem?_eq_getElem (by omega)⟩
      have hcell := hc0 0 v0 hv0
      rw [show (a.add (0 * sz)).add 0 = a by simp [Addr.add]] at hcell
      have hbl := World.block_lt_of_cell? w _ hcell
      obtain ⟨ab, ao, asp⟩ := a
      have hsp := spot_none hcell
      subst hsp
      refine ⟨ab, ao, rfl, hbl, fun i cs hi j x hx => ?_⟩
      rw [List.getElem?_map] at hi
      cases hli : l[i]? with
      | none => rw [hli] at hi; simp at hi
      | some y =>
        rw [hli] at hi
        simp at hi
        subst hi
        have := (hq i y hli).1 j x hx
        rw [add_none, add_none] at this
        exact this
    · have hi : i < len := by rw [← hl]; exact (List.getElem?_eq_some_iff.1 hx).1
      exact ⟨D i, by simp [hi], (hq i x hx).2.2⟩

end
end Go.Proofs.YtibjgoigdajkkaaDoor

namespace Go.Proofs.YtibjgoigdajkkaaDoor
open Go.ChangeShapes Go.WideShapes Go.ChangeAt Go.RowKit

section
variable {H : Type} {enc : TypeId × Value → H} {w : World} {base : Nat} {spare : Nat → Bool} {held : Bool} {fuel : Nat}

theorem cI : Tryd.prog.cellsOf 3 = 1 := by kernel_rfl
theorem cB : Tryd.prog.cellsOf 4 = 1 := by kernel_rfl
theorem cSI : Tryd.prog.cellsOf 24 = 1 := by kernel_rfl
theorem cT : Tryd.prog.cellsOf 50 = 2 := by kernel_rfl
theorem bI : Tryd.prog.bytesOf 3 = 8 := by kernel_rfl
theorem bB : Tryd.prog.bytesOf 4 = 1 := by kernel_rfl
theorem bT : Tryd.prog.bytesOf 50 = 32 := by kernel_rfl

theorem int_el {cs : List Value} {y : DataW H × List MemPlace} (h : DataW.trod enc Tryd.prog w base spare held fuel 3 cs = some y) : ∃ x : Int, cs = intC x ∧ True := by
  obtain ⟨n, hc, -, -⟩ := DataW.trod_int Tryd.underlying3 h
  exact ⟨n, hc, trivial⟩
theorem bool_el {cs : List Value} {y : DataW H × List MemPlace} (h : DataW.trod enc Tryd.prog w base spare held fuel 4 cs = some y) : ∃ x : Bool, cs = boolC x ∧ True := by
  obtain ⟨n, hc, -⟩ := DataW.trod_bool Tryd.underlying4 h
  exact ⟨n, hc, trivial⟩
/-- a row's length, where nothing is too long -/
theorem len_of' {α : Type} {Q : DataW H → α → Prop} {t e : TypeId} {d : DataW H} {l : List α} (n : Nat) (ht : Tryd.prog.underlying t = some (.slice e)) (hb : n ≤ Tryd.prog.bytesOf e) (hf : Fine t d) (h : (d = .nil ∧ l = []) ∨ ∃ elems sp, d = .slice elems sp ∧ elems.length = l.length ∧ ∀ (i : Nat) (x : α), l[i]? = some x → ∃ d, elems[i]? = some d ∧ Q d x) :
    l.length * n ≤ 140737488355327 ∧ ∀ x, x ∈ l → ∃ d, Fine e d ∧ Q d x := by
  rcases h with ⟨rfl, rfl⟩ | ⟨elems, sp, rfl, hl, hq⟩
  · exact ⟨by simp, fun x hx => by simp at hx⟩
  · have hh := fine_slice ht hf
    refine ⟨?_, fun x hx => ?_⟩
    · have h1 := hh.1
      have h2 : l.length * n ≤ (elems.length + sp.length) * Tryd.prog.bytesOf e := by
        rw [← hl]
        exact Nat.mul_le_mul (by omega) hb
      simp only [reachBytes] at h1
      omega
    · obtain ⟨i, hi, rfl⟩ := List.getElem_of_mem hx
      obtain ⟨d, hd, hQ⟩ := hq i _ (List.getElem?_eq_getElem hi)
      exact ⟨d, hh.2 i d hd, hQ⟩
theorem len_of {α : Type} {Q : DataW H → α → Prop} {t e : TypeId} {d : DataW H} {l : List α} (ht : Tryd.prog.underlying t = some (.slice e)) (hb : 8 ≤ Tryd.prog.bytesOf e) (hf : Fine t d) (h : (d = .nil ∧ l = []) ∨ ∃ elems sp, d = .slice elems sp ∧ elems.length = l.length ∧ ∀ (i : Nat) (x : α), l[i]? = some x → ∃ d, elems[i]? = some d ∧ Q d x) :
    l.length < big ∧ ∀ x, x ∈ l → ∃ d, Fine e d ∧ Q d x := by
  obtain ⟨h1, h2⟩ := len_of' 8 ht hb hf h
  exact ⟨by simp only [big]; omega, h2⟩
theorem len_ofB {α : Type} {Q : DataW H → α → Prop} {t e : TypeId} {d : DataW H} {l : List α} (ht : Tryd.prog.underlying t = some (.slice e)) (hb : 1 ≤ Tryd.prog.bytesOf e) (hf : Fine t d) (h : (d = .nil ∧ l = []) ∨ ∃ elems sp, d = .slice elems sp ∧ elems.length = l.length ∧ ∀ (i : Nat) (x : α), l[i]? = some x → ∃ d, elems[i]? = some d ∧ Q d x) :
    l.length < huge ∧ ∀ x, x ∈ l → ∃ d, Fine e d ∧ Q d x := by
  obtain ⟨h1, h2⟩ := len_of' 1 ht hb hf h
  exact ⟨by simp only [huge]; omega, h2⟩
set_option maxRecDepth 100000 in
theorem tab_el {cs : List Value} {y : DataW H × List MemPlace} (h : DataW.trod enc Tryd.prog w base spare held fuel 50 cs = some y) : ∃ x : TbD, cs = x.cells ∧ (RowAt w.heap.size w x.a 1 (x.ins.map intC) ∧ (Fine 50 y.1 → x.ins.length < big)) := by
  obtain ⟨ys, m, rfl, hx, hlen, hyl, hel⟩ := DataW.trod_struct Tryd.underlying50 h
  rw [cT] at hlen
  match cs, hlen, ys, hyl, hx, hel with
  | [k0, k1], _, [y0, y1], _, hx, hel =>
    have e0 := hel 0 _ rfl
    have e0' : DataW.trod enc Tryd.prog w base spare held m 24 [k0] = some y0 := by simpa [cSI] using e0
    obtain ⟨a, c, l, rfl, hr, hd⟩ := open_row intC (fun _ _ => True) Tryd.underlying24 cI (by decide) (fun fuel cs y h => int_el h) e0'
    have e1 := hel 1 _ rfl
    obtain ⟨n1, d1, -, wf1⟩ := DataW.trod_int Tryd.underlying3 (show DataW.trod _ Tryd.prog _ _ _ _ _ 3 _ = some y1 from e1)
    simp [cI] at d1
    refine ⟨⟨a, c, l, n1⟩, by simp [TbD.cells, *], hr, fun hf => ?_⟩
    rw [hx] at hf
    exact (len_of Tryd.underlying24 (by rw [bI]; decide) (fine_part Tryd.underlying50 hf (i := 0) rfl rfl) hd).1

set_option maxRecDepth 100000 in
theorem open_net {y : DataW H × List MemPlace} {cs : List Value} (h : DataW.trod enc Tryd.prog w base spare held fuel 26 cs = some y) (hf : Fine 26 y.1) : ∃ S N, cs = (NtS.cells S N).toList ∧ NtAt w.heap.size w S N := by
  obtain ⟨ys, m, rfl, hx, hlen, hyl, hel⟩ := DataW.trod_struct Tryd.underlying26 h
  rw [show Tryd.prog.cellsOf 26 = 5 by kernel_rfl] at hlen
  match cs, hlen, ys, hyl, hx, hel with
  | [k0, k1, k2, k3, k4], _, [y0, y1, y2, y3, y4], _, hx, hel =>
    rw [hx] at hf
    have e0 := hel 0 _ rfl
    obtain ⟨n0, d0, -, wf0⟩ := DataW.trod_int Tryd.underlying3 (show DataW.trod _ Tryd.prog _ _ _ _ _ 3 _ = some y0 from e0)
    simp [cI] at d0
    subst d0
    have e1 := hel 1 _ rfl
    have e1' : DataW.trod enc Tryd.prog w base spare held m 22 [k1] = some y1 := by
      have hc : Tryd.prog.cellsOf 22 = 1 := by kernel_rfl
      simpa [hc] using e1
    obtain ⟨a1, u1, l1, rfl, hr1, hd1⟩ := open_row boolC (fun _ _ => True) Tryd.underlying22 cB (by decide) (fun fuel cs y h => bool_el h) e1'
    have g1 := len_ofB Tryd.underlying22 (by rw [bB]; decide) (fine_part Tryd.underlying26 hf (i := 1) rfl rfl) hd1
    have e2 := hel 2 _ rfl
    have e2' : DataW.trod enc Tryd.prog w base spare held m 23 [k2] = some y2 := by
      have hc : Tryd.prog.cellsOf 23 = 1 := by kernel_rfl
      simpa [hc] using e2
    obtain ⟨a2, u2, l2, rfl, hr2, hd2⟩ := open_row TbD.cells (fun d x => RowAt w.heap.size w x.a 1 (x.ins.map intC) ∧ (Fine 50 d → x.ins.length < big)) Tryd.underlying23 cT (by decide) (fun fuel cs y h => tab_el h) e2'
    have g2 := len_of Tryd.underlying23 (by rw [bT]; decide) (fine_part Tryd.underlying26 hf (i := 2) rfl rfl) hd2
    have e3 := hel 3 _ rfl
    have e3' : DataW.trod enc Tryd.prog w base spare held m 24 [k3] = some y3 := by
      have hc : Tryd.prog.cellsOf 24 = 1 := by kernel_rfl
      simpa [hc] using e3
    obtain ⟨a3, u3, l3, rfl, hr3, hd3⟩ := open_row intC (fun _ _ => True) Tryd.underlying24 cI (by decide) (fun fuel cs y h => int_el h) e3'
    have g3 := len_of Tryd.underlying24 (by rw [bI]; decide) (fine_part Tryd.underlying26 hf (i := 3) rfl rfl) hd3
    have e4 := hel 4 _ rfl
    have e4' : DataW.trod enc Tryd.prog w base spare held m 24 [k4] = some y4 := by
      have hc : Tryd.prog.cellsOf 24 = 1 := by kernel_rfl
      simpa [hc] using e4
    obtain ⟨a4, u4, l4, rfl, hr4, hd4⟩ := open_row intC (fun _ _ => True) Tryd.underlying24 cI (by decide) (fun fuel cs y h => int_el h) e4'
    have g4 := len_of Tryd.underlying24 (by rw [bI]; decide) (fine_part Tryd.underlying26 hf (i := 4) rfl rfl) hd4
    exact ⟨⟨a1, u1, a2, u2, a3, u3, a4, u4⟩, ⟨n0, l1, l2, l3, l4⟩, rfl, hr1, hr2, fun d hd => (g2.2 d hd).elim fun _ h => h.2.1, hr3, hr4, g1.1, g2.1, fun d hd => (g2.2 d hd).elim fun _ h => h.2.2 h.1, g3.1, g4.1⟩

end

theorem Tryd.own : ownKnob Tryd.prog.godebug = none := by kernel_rfl
theorem Tryd.laidOut : laidOutB Tryd.prog = true := by kernel_rfl

set_option maxRecDepth 100000 in
/-- what a net that comes in is in memory -/
theorem net_of {H : Type} {enc : TypeId × Value → H} {W : World} {base : Nat} {v : Value} {d : DataW H} {p : List MemPlace} (hv : Value.okWide Tryd.prog W .any base 26 v) (h : DataW.Trod enc Tryd.prog W 0 (fun _ => true) true 26 v d p) (hf : Fine 26 d) :
    ∃ S N, v = .agg (NtS.cells S N) ∧ NtAt W.heap.size W S N := by
  obtain ⟨cs, rfl, _⟩ := okWide_struct Tryd.underlying26 hv
  obtain ⟨fuel, ht⟩ := h
  obtain ⟨S, N, hc, hn⟩ := open_net ht hf
  refine ⟨S, N, ?_, hn⟩
  have : cs.toList = (NtS.cells S N).toList := by simpa [Value.cells] using hc
  rw [Array.toList_inj.1 this]

end Go.Proofs.YtibjgoigdajkkaaDoor
