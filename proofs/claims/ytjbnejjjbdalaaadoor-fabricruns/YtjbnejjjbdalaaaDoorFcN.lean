import Derived.Test.YtjbnejjjbdalaaaDoorFcK
import Derived.OpenShut
import Derived.ProofKit
import Derived.SizedLaws
import Derived.Deep.Slices
namespace Go.Proofs.YtjbnejjjbdalaaaDoor
open Go.ChangeShapes Go.WideShapes Go.ChangeAt Go.RowKit

section
variable {H : Type} {enc : TypeId × Value → H} {w : World} {base : Nat} {spare : Nat → Bool} {held : Bool} {fuel : Nat}

/-- nothing in it that is longer than memory is -/
def Fine (t : TypeId) (d : DataW H) : Prop := ∀ n, n ∈ DataW.weights Tryd.prog t d → n ≤ reachBytes
theorem fine_part {t : TypeId} {fs : Array Field} {parts : List (DataW H)} (ht : Tryd.prog.underlying t = some (.struct fs)) (h : Fine t (.agg parts)) {i : Nat} {f : Field} {d : DataW H} (hf : fs[i]? = some f) (hd : parts[i]? = some d) : Fine f.type d := fun n hn => by
  refine h n ?_
  rw [DataW.weights.eq_def]
  simp only [ht]
  exact DataW.weights_mem_each (j := i) (by rw [List.getElem?_map, Array.getElem?_toList, hf]; rfl) hd n hn
theorem mem_all {e : TypeId} {l : List (DataW H)} {i : Nat} {d : DataW H} (hd : l[i]? = some d) : ∀ n, n ∈ DataW.weights Tryd.prog e d → n ∈ DataW.weightsAll Tryd.prog e l := by
  induction l generalizing i with
  | nil => simp at hd
  | cons a r ih =>
    intro n hn
    rw [DataW.weightsAll.eq_def]
    simp only [List.mem_append]
    cases i with
    | zero => simp at hd; subst hd; exact .inl hn
    | succ i => exact .inr (ih (by simpa using hd) n hn)
theorem fine_slice {t e : TypeId} {elems sp : List (DataW H)} (ht : Tryd.prog.underlying t = some (.slice e)) (h : Fine t (.slice elems sp)) : (elems.length + sp.length) * Tryd.prog.bytesOf e ≤ reachBytes ∧ ∀ (i : Nat) (d : DataW H), elems[i]? = some d → Fine e d := by
  have e1 : DataW.weights Tryd.prog t (.slice elems sp) = (elems.length + sp.length) * Tryd.prog.bytesOf e :: (DataW.weightsAll Tryd.prog e elems ++ DataW.weightsAll Tryd.prog e sp) := by
    rw [DataW.weights.eq_def]; simp only [ht]
  unfold Fine at h
  rw [e1] at h
  exact ⟨h _ List.mem_cons_self, fun i d hd n hn => h n (List.mem_cons_of_mem _ (List.mem_append.2 (.inl (mem_all hd n hn))))⟩
theorem listOf {α : Type} {Q : Nat → α → Prop} (n : Nat) (h : ∀ i, i < n → ∃ x, Q i x) : ∃ l : List α, l.length = n ∧ ∀ (i : Nat) (x : α), l[i]? = some x → Q i x := by
  induction n with
  | zero => exact ⟨[], rfl, fun i x hx => by simp at hx⟩
  | succ n ih =>
    obtain ⟨l, hl, hq⟩ := ih (fun i hi => h i (by omega))
    obtain ⟨x, hx⟩ := h n (by omega)
    refine ⟨l ++ [x], by simp [hl], fun i y hy => ?_⟩
    rcases Nat.lt_or_ge i n with hi | hi
    · rw [List.getElem?_append_left (by omega)] at hy; exact hq i y hy
    · rw [List.getElem?_append_right (by omega)] at hy
      have : i - l.length = 0 := by
        have := (List.getElem?_eq_some_iff.1 hy).1
        simp at this; omega
      rw [this] at hy
      simp at hy
      subst hy
      have : i = n := by omega
      rw [this]; exact hx
theorem spot_none {b o : Nat} {sp : Option Nat} {v : Value} (h : w.cell? ⟨b, o, sp⟩ = some v) : sp = none := by
  cases sp with
  | none => rfl
  | some x =>
    unfold World.cell? at h
    split at h <;> simp at h
theorem add_none (b o n : Nat) : (⟨b, o, none⟩ : Addr).add n = ⟨b, o + n, none⟩ := by
  unfold Addr.add; split
  · simp
  · rfl

/-- a slice of rows of cells -/
theorem open_row {α : Type} (f : α → List Value) (Q : DataW H → α → Prop) {t e : TypeId} {sz : Nat} {v : Value} {y : DataW H × List MemPlace} (ht : Tryd.prog.underlying t = some (.slice e)) (hc : Tryd.prog.cellsOf e = sz) (hs : 0 < sz)
    (hel : ∀ (fuel : Nat) (cs : List Value) (y : DataW H × List MemPlace), DataW.trod enc Tryd.prog w base spare held fuel e cs = some y → ∃ x : α, cs = f x ∧ Q y.1 x) (h : DataW.trod enc Tryd.prog w base spare held fuel t [v] = some y) :
    ∃ a c, ∃ l : List α, v = .slice a l.length c ∧ RowAt w.heap.size w a sz (l.map f) ∧ ((y.1 = .nil ∧ l = []) ∨ ∃ elems sp, y.1 = .slice elems sp ∧ elems.length = l.length ∧ ∀ (i : Nat) (x : α), l[i]? = some x → ∃ d, elems[i]? = some d ∧ Q d x) := by
  rcases Deep.open_slice ht h with ⟨hv, hy⟩ | ⟨a, len, cap, m, n, D, Pl, hv, hb, hlc, hcm, hm, hy, hall⟩
  · simp only [List.cons.injEq, and_true] at hv
    subst hv; subst hy
    exact ⟨none, 0, [], rfl, rowAt_nil, .inl ⟨rfl, rfl⟩⟩
  · simp only [List.cons.injEq, and_true] at hv
    subst hv; subst hy
    have hlm : len ≤ m := by rw [hm]; split <;> omega
    obtain ⟨l, hl, hq⟩ := listOf (Q := fun i (x : α) => (∀ (j : Nat) (c : Value), (f x)[j]? = some c → w.cell? ((a.add (i * sz)).add j) = some c) ∧ (f x).length = sz ∧ Q (D i) x) len (fun i hi => by
      obtain ⟨cs', h1, h2⟩ := hall i (by omega)
      rw [hc] at h1
      obtain ⟨x, hx, hQ⟩ := hel n cs' _ h2
      subst hx
      obtain ⟨-, hlen, hcell⟩ := World.cells?_some h1
      exact ⟨x, fun j c hj => (hcell j (by rw [← hlen]; exact (List.getElem?_eq_some_iff.1 hj).1)).trans hj, hlen, hQ⟩)
    refine ⟨some a, cap, l, by rw [hl], ?_, .inr ⟨_, _, rfl, by simp [hl], fun i x hx => ?_⟩⟩
    · intro hne
      obtain ⟨x0, hx0⟩ : ∃ x, l[0]? = some x := by
        cases l with
        | nil => simp at hne
        | cons a r => exact ⟨a, rfl⟩
      obtain ⟨hc0, hl0, -⟩ := hq 0 x0 hx0
      obtain ⟨v0, hv0⟩ : ∃ v, (f x0)[0]? = some v := ⟨(f x0)[0]'(by omega), List.getElem?_eq_getElem (by omega)⟩
      have hcell := hc0 0 v0 hv0
      rw [show (a.add (0 * sz)).add 0 = a by simp [Addr.add]] at hcell
      have hbl := World.block_lt_of_cell? w _ hcell
      obtain ⟨ab, ao, asp⟩ := a
      have hsp := spot_none hcell
      subst hsp
      refine ⟨ab, ao, rfl, hbl, fun i cs hi j x hx => ?_⟩
      rw [List.getElem?_map] at hi
      cases hli : l[i]? with
      | none => rw [hli] at hi; simp at hi
      | some y =>
        rw [hli] at hi
        simp at hi
        subst hi
        have := (hq i y hli).1 j x hx
        rw [add_none, add_none] at this
        exact this
    · have hi : i < len := by rw [← hl]; exact (List.getElem?_eq_some_iff.1 hx).1
      exact ⟨D i, by simp [hi], (hq i x hx).2.2⟩

theorem cB : Tryd.prog.cellsOf 4 = 1 := by kernel_rfl
theorem bB : Tryd.prog.bytesOf 4 = 1 := by kernel_rfl
theorem cU : Tryd.prog.cellsOf 5 = 1 := by kernel_rfl
theorem bU : Tryd.prog.bytesOf 5 = 1 := by kernel_rfl
theorem cSB : Tryd.prog.cellsOf 34 = 1 := by kernel_rfl
theorem bSB : Tryd.prog.bytesOf 34 = 24 := by kernel_rfl
theorem len_of' {α : Type} {Q : DataW H → α → Prop} {t e : TypeId} {d : DataW H} {l : List α} (n : Nat) (ht : Tryd.prog.underlying t = some (.slice e)) (hb : n ≤ Tryd.prog.bytesOf e) (hf : Fine t d) (h : (d = .nil ∧ l = []) ∨ ∃ elems sp, d = .slice elems sp ∧ elems.length = l.length ∧ ∀ (i : Nat) (x : α), l[i]? = some x → ∃ d, elems[i]? = some d ∧ Q d x) :
    l.length * n ≤ 140737488355327 ∧ ∀ x, x ∈ l → ∃ d, Fine e d ∧ Q d x := by
  rcases h with ⟨rfl, rfl⟩ | ⟨elems, sp, rfl, hl, hq⟩
  · exact ⟨by simp, fun x hx => by simp at hx⟩
  · have hh := fine_slice ht hf
    refine ⟨?_, fun x hx => ?_⟩
    · have h1 := hh.1
      have h2 : l.length * n ≤ (elems.length + sp.length) * Tryd.prog.bytesOf e := by
        rw [← hl]
        exact Nat.mul_le_mul (by omega) hb
      simp only [reachBytes] at h1
      omega
    · obtain ⟨i, hi, rfl⟩ := List.getElem_of_mem hx
      obtain ⟨d, hd, hQ⟩ := hq i _ (List.getElem?_eq_getElem hi)
      exact ⟨d, hh.2 i d hd, hQ⟩
theorem bool_el {cs : List Value} {y : DataW H × List MemPlace} (h : DataW.trod enc Tryd.prog w base spare held fuel 4 cs = some y) : ∃ x : Bool, cs = boolC x ∧ True := by
  obtain ⟨n, hc, -⟩ := DataW.trod_bool Tryd.underlying4 h
  exact ⟨n, hc, trivial⟩
/-- a row's length, where nothing is too long -/
theorem tr_el {cs : List Value} {y : DataW H × List MemPlace} (h : DataW.trod enc Tryd.prog w base spare held fuel 34 cs = some y) : ∃ x : TR, cs = x.cells ∧ RowAt w.heap.size w x.a 1 (x.l.map boolC) ∧ (Fine 34 y.1 → x.l.length < 281474976710656) := by
  obtain ⟨v, rfl⟩ : ∃ v, cs = [v] := by
    rcases DataW.trod_slice Tryd.underlying34 h with ⟨rfl, _⟩ | ⟨a, len, cap, elems, rest, n, _, rfl, _⟩
    · exact ⟨_, rfl⟩
    · exact ⟨_, rfl⟩
  obtain ⟨a, c, l, rfl, hr, hd⟩ := open_row boolC (fun _ _ => True) Tryd.underlying34 cB (by decide) (fun fuel cs y h => bool_el h) h
  refine ⟨⟨a, c, l⟩, rfl, hr, fun hf => ?_⟩
  have := (len_of' 1 Tryd.underlying34 (by rw [bB]; exact Nat.le_refl _) hf hd).1
  show l.length < _
  omega
/-- what a trace that comes in is in memory -/
theorem open_trace {y : DataW H × List MemPlace} {v : Value} (h : DataW.trod enc Tryd.prog w base spare held fuel 23 [v] = some y) (hf : Fine 23 y.1) : ∃ a c trs, v = .slice a (List.length trs) c ∧ TrAt w.heap.size w a trs ∧ ∀ t, t ∈ trs → t.l.length < 281474976710656 := by
  obtain ⟨a, c, l, rfl, hr, hd⟩ := open_row TR.cells (fun d x => RowAt w.heap.size w x.a 1 (x.l.map boolC) ∧ (Fine 34 d → x.l.length < 281474976710656)) Tryd.underlying23 cSB (by decide) (fun fuel cs y h => tr_el h) h
  refine ⟨a, c, l, rfl, ⟨hr, ?_, ?_⟩, ?_⟩
  · rcases hd with ⟨_, rfl⟩ | ⟨elems, sp, _, _, hq⟩
    · intro t ht; cases ht
    · intro t ht
      obtain ⟨i, hi, rfl⟩ := List.getElem_of_mem ht
      obtain ⟨d, _, hQ⟩ := hq i _ (List.getElem?_eq_getElem hi)
      exact hQ.1
  · rcases hd with ⟨_, rfl⟩ | ⟨elems, sp, he, hl, _⟩
    · simp
    · rw [he] at hf
      have h1 := (fine_slice Tryd.underlying23 hf).1
      rw [bSB] at h1
      simp only [reachBytes] at h1
      omega
  · intro t ht
    obtain ⟨d, hfd, hQ⟩ := (len_of' 24 Tryd.underlying23 (by rw [bSB]; exact Nat.le_refl _) hf hd).2 t ht
    exact hQ.2 hfd

/-- bytes that come in -/
theorem open_bytes {y : DataW H × List MemPlace} {v : Value} (h : DataW.trod enc Tryd.prog w base spare held fuel 22 [v] = some y) (hf : Fine 22 y.1) : ∃ a c bs, v = .slice a (List.length bs) c ∧ RowAt w.heap.size w a 1 (bs.map byteC) ∧ (∀ x, x ∈ bs → x < 256) ∧ bs.length ≤ c ∧ bs.length < 281474976710656 := by
  rcases open_ints Tryd.underlying22 Tryd.underlying5 cU h with ⟨hcs, hx⟩ | ⟨a, len, cap, zs, hcs, _, hl, hm, hz, hx, hcell, hwz⟩
  · simp at hcs
    subst hcs
    exact ⟨none, 0, [], rfl, rowAt_nil, fun x hx => by simp at hx, Nat.le_refl _, by decide⟩
  · simp at hcs
    subst hcs
    rw [hx] at hf
    have hzl : len ≤ zs.length := by rw [hz]; split <;> omega
    have hlen : ((zs.take len).map Int.toNat).length = len := by simp; omega
    have hfs := (fine_slice Tryd.underlying22 hf).1
    rw [bU] at hfs
    simp only [reachBytes] at hfs
    have hll : (lits (H := H) IntKind.u8 (zs.take len)).length = len := by simp [lits]; omega
    obtain ⟨ab, ao, spot⟩ := a
    by_cases hl0 : len = 0
    · subst hl0
      exact ⟨_, cap, [], rfl, rowAt_nil, fun x hx => by simp at hx, Nat.zero_le _, by decide⟩
    · have hspot : spot = none := spot_none (b := ab) (o := ao) (by have := hcell 0 (by omega); simpa [Addr.add] using this)
      subst hspot
      refine ⟨some ⟨ab, ao, none⟩, cap, (zs.take len).map Int.toNat, by rw [hlen], fun _ => ⟨ab, ao, rfl, ?_, fun i cs hi j x hx => ?_⟩, fun x hx => ?_, by rw [hlen]; exact hl, by rw [hlen]; omega⟩
      · have h1 := hcell 0 (by omega)
        rw [add_none] at h1
        exact World.block_lt_of_cell? _ _ h1
      · rw [List.getElem?_map] at hi
        cases hq : ((zs.take len).map Int.toNat)[i]? with
        | none => rw [hq] at hi; cases hi
        | some y =>
          rw [hq] at hi
          have ecs : byteC y = cs := by simpa using hi
          subst ecs
          have hj : j = 0 := by
            rcases j with _ | j
            · rfl
            · simp [byteC] at hx
          subst hj
          have ex : Value.int IntKind.u8 (y : Int) = x := by simpa [byteC] using hx
          subst ex
          have hil : i < len := by have := (List.getElem?_eq_some_iff.1 hq).1; rw [hlen] at this; exact this
          have hci := hcell i (by omega)
          rw [add_none] at hci
          rw [show ao + i * 1 + 0 = ao + i by omega, hci]
          have hb := range_u8 hwz i
          rw [List.getElem?_map, List.getElem?_take, if_pos hil] at hq
          have e : zs[i]? = some (zs[i]'(by omega)) := List.getElem?_eq_getElem (by omega)
          rw [e] at hq hb
          simp only [Option.map_some, Option.some.injEq, Option.getD_some] at hq hb
          rw [List.getD_eq_getElem?_getD, e, ← hq]
          simp only [Option.getD_some]
          congr 2
          omega
      · obtain ⟨z, hz2, rfl⟩ := List.mem_map.1 hx
        obtain ⟨i, hi⟩ := List.getElem?_of_mem (List.mem_of_mem_take hz2)
        have hb := range_u8 hwz i
        rw [hi] at hb
        simp only [Option.getD_some] at hb
        omega
end

theorem bytes_in {H : Type} {enc : TypeId × Value → H} {W : World} {v : Value} {d : DataW H} {p : List MemPlace} (h : DataW.Trod enc Tryd.prog W 0 (fun _ => true) true 22 v d p) (hf : Fine 22 d) (hv : v.cells.toList = [v]) : ∃ a c bs, v = .slice a (List.length bs) c ∧ RowAt W.heap.size W a 1 (bs.map byteC) ∧ (∀ x, x ∈ bs → x < 256) ∧ bs.length ≤ c ∧ bs.length < 281474976710656 := by
  obtain ⟨fuel, ht⟩ := h
  rw [hv] at ht
  exact open_bytes ht hf
theorem trace_in {H : Type} {enc : TypeId × Value → H} {W : World} {v : Value} {d : DataW H} {p : List MemPlace} (h : DataW.Trod enc Tryd.prog W 0 (fun _ => true) true 23 v d p) (hf : Fine 23 d) (hv : v.cells.toList = [v]) :
    ∃ a c trs, v = .slice a (List.length trs) c ∧ TrAt W.heap.size W a trs ∧ ∀ t, t ∈ trs → t.l.length < 281474976710656 := by
  obtain ⟨fuel, ht⟩ := h
  rw [hv] at ht
  exact open_trace ht hf

end Go.Proofs.YtjbnejjjbdalaaaDoor
