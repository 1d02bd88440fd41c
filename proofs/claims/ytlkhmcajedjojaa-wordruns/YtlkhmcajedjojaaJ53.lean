import Derived.Test.YtlkhmcajedjojaaJ45
import Derived.Test.YtlkhmcajedjojaaJ52
import Derived.ProofKit
import Derived.SizedLaws
import Derived.Deep.Slices
namespace Go.Proofs.Ytlkhmcajedjojaa
open Go.RowKit

set_option maxRecDepth 100000 in
set_option maxHeartbeats 8000000 in
theorem law_valids (B : Nat) (w : World) (S : NetS) (N : NetD) (h : NetAt B w S N) (hB : B ≤ w.heap.size) :
    Calls Try.prog 3 #[.agg (S.cells N)] w fun e w' => e = .returned (.bool true) ∧ Below w.heap.size w w' := by
  have SM : Hid (∀ w : World, Calls Try.prog 6 #[] w fun e w' => ∃ S a, e = .returned (.agg (NetS.cells S (smallN a))) ∧ NetAt w'.heap.size w' S (smallN a) ∧ Below w.heap.size w w') := small_any
  have VS : Hid (∀ (w : World) S a, NetAt w.heap.size w S (smallN a) → Calls Try.prog 5 #[.agg (NetS.cells S (smallN a))] w fun e w' => e = .returned (.bool true) ∧ Below w.heap.size w w') := by
    intro w S a hn
    have := valid_any w.heap.size w S (smallN a) hn (Nat.le_refl _)
    rw [small_ok] at this
    exact this
  obtain ⟨r, HR⟩ : ∃ r, Hid (NetOk N = r) := ⟨_, rfl⟩
  have VN : Hid (∀ w', Below w.heap.size w w' → Calls Try.prog 5 #[.agg (S.cells N)] w' fun e w'' => e = .returned (.bool r) ∧ Below w'.heap.size w' w'') := by
    intro w' hw'
    have := valid_any B w' S N (h.to (hw'.mono hB)) (Nat.le_trans hB hw'.size)
    rw [HR.out] at this
    exact this
  have DN : Hid (∀ w', Below w.heap.size w w' → Calls Try.prog 7 #[.agg (S.cells N)] w' fun e w'' => e = .returned (.bool r) ∧ Below w'.heap.size w' w'') := by
    intro w' hw'
    have := netValid_any B w' S N (h.to (hw'.mono hB)) (Nat.le_trans hB hw'.size)
    rw [HR.out] at this
    exact this
  clear h HR
  generalize hcs : S.cells N = cs at *
  have hcs' : cs = #[.slice S.a0 N.ins.length S.c0, .slice S.a1 N.nodes.length S.c1, .slice S.a2 N.regs.length S.c2, .slice S.a3 N.mems.length S.c3, .slice S.a4 N.wrs.length S.c4, .slice S.a5 N.outs.length S.c5] := hcs.symm
  clear hcs
  subst hcs'
  go_enter Try.func3, Try.ntmps3
  go_wp2_with fail
  generalize hW : World.alloc w _ = W
  have HB : Hid (Below w.heap.size w W) := by rw [← hW]; exact (Below.refl _ _).alloc (Nat.le_refl _) _
  have QN : Hid (∀ j, W.cell? ⟨w.heap.size, j, none⟩ = (#[.slice S.a0 N.ins.length S.c0, .slice S.a1 N.nodes.length S.c1, .slice S.a2 N.regs.length S.c2, .slice S.a3 N.mems.length S.c3, .slice S.a4 N.wrs.length S.c4, .slice S.a5 N.outs.length S.c5] : Array Value)[j]?) := by rw [← hW]; intro j; simp
  have hN : w.heap.size < W.heap.size := by rw [← hW]; simp
  clear hW
  go_wp2_with (go_at_call 6; refine (SM.out _).mono ?_; rintro e w1 ⟨S1, a1, rfl, hn1, hb1⟩; have HB1 := hidden hb1; have HN1 := hidden hn1; clear hb1 hn1)
  have tok : True := trivial
  go_wp2_with (have _t := tok; go_at_call 5; refine (VS.out _ _ _ HN1.out).mono ?_; rintro e w2 ⟨rfl, hb2⟩; have HB2 := hidden (HB1.out.trans (hb2.mono HB1.out.size)); have u0 : w2.cell? ⟨w.heap.size, 0, none⟩ = some (.slice S.a0 N.ins.length S.c0) := (HB2.out.cell (p := ⟨w.heap.size, 0, none⟩) hN).trans (QN.out 0); have u1 : w2.cell? ⟨w.heap.size, 1, none⟩ = some (.slice S.a1 N.nodes.length S.c1) := (HB2.out.cell (p := ⟨w.heap.size, 1, none⟩) hN).trans (QN.out 1); have u2 : w2.cell? ⟨w.heap.size, 2, none⟩ = some (.slice S.a2 N.regs.length S.c2) := (HB2.out.cell (p := ⟨w.heap.size, 2, none⟩) hN).trans (QN.out 2); have u3 : w2.cell? ⟨w.heap.size, 3, none⟩ = some (.slice S.a3 N.mems.length S.c3) := (HB2.out.cell (p := ⟨w.heap.size, 3, none⟩) hN).trans (QN.out 3); have u4 : w2.cell? ⟨w.heap.size, 4, none⟩ = some (.slice S.a4 N.wrs.length S.c4) := (HB2.out.cell (p := ⟨w.heap.size, 4, none⟩) hN).trans (QN.out 4); have u5 : w2.cell? ⟨w.heap.size, 5, none⟩ = some (.slice S.a5 N.outs.length S.c5) := (HB2.out.cell (p := ⟨w.heap.size, 5, none⟩) hN).trans (QN.out 5); clear hb2 tok)
  have tok : True := trivial
  go_wp2_with (have _t := tok; go_at_call 5; refine (VN.out _ (HB.out.trans (HB2.out.mono HB.out.size))).mono ?_; rintro e w3 ⟨rfl, hb3⟩; have HB3 := hidden (HB2.out.trans (hb3.mono HB2.out.size)); have v0 : w3.cell? ⟨w.heap.size, 0, none⟩ = some (.slice S.a0 N.ins.length S.c0) := (HB3.out.cell (p := ⟨w.heap.size, 0, none⟩) hN).trans (QN.out 0); have v1 : w3.cell? ⟨w.heap.size, 1, none⟩ = some (.slice S.a1 N.nodes.length S.c1) := (HB3.out.cell (p := ⟨w.heap.size, 1, none⟩) hN).trans (QN.out 1); have v2 : w3.cell? ⟨w.heap.size, 2, none⟩ = some (.slice S.a2 N.regs.length S.c2) := (HB3.out.cell (p := ⟨w.heap.size, 2, none⟩) hN).trans (QN.out 2); have v3 : w3.cell? ⟨w.heap.size, 3, none⟩ = some (.slice S.a3 N.mems.length S.c3) := (HB3.out.cell (p := ⟨w.heap.size, 3, none⟩) hN).trans (QN.out 3); have v4 : w3.cell? ⟨w.heap.size, 4, none⟩ = some (.slice S.a4 N.wrs.length S.c4) := (HB3.out.cell (p := ⟨w.heap.size, 4, none⟩) hN).trans (QN.out 4); have v5 : w3.cell? ⟨w.heap.size, 5, none⟩ = some (.slice S.a5 N.outs.length S.c5) := (HB3.out.cell (p := ⟨w.heap.size, 5, none⟩) hN).trans (QN.out 5); clear hb3 tok u0 u1 u2 u3 u4 u5)
  go_wp2_with (go_at_call 7; refine (DN.out _ (HB.out.trans (HB3.out.mono HB.out.size))).mono ?_; rintro e w4 ⟨rfl, hb4⟩; have HB4 := hidden (HB3.out.trans (hb4.mono HB3.out.size)); clear hb4)
  go_ret
  exact ⟨ret_bool (by simp), HB.out.trans (HB4.out.mono HB.out.size)⟩

end Go.Proofs.Ytlkhmcajedjojaa

namespace Go.Proofs.Ytlkhmcajedjojaa
open Go.ChangeShapes Go.WideShapes Go.ChangeAt Go.RowKit

section
variable {H : Type} {enc : TypeId × Value → H} {w : World} {base : Nat} {spare : Nat → Bool} {held : Bool} {fuel : Nat}

theorem c3 : Try.prog.cellsOf 3 = 1 := by kernel_rfl
theorem c33 : Try.prog.cellsOf 33 = 1 := by kernel_rfl
theorem c22 : Try.prog.cellsOf 22 = 1 := by kernel_rfl
theorem c41 : Try.prog.cellsOf 41 = 4 := by kernel_rfl
theorem c43 : Try.prog.cellsOf 43 = 3 := by kernel_rfl
theorem c46 : Try.prog.cellsOf 46 = 2 := by kernel_rfl
theorem c50 : Try.prog.cellsOf 50 = 4 := by kernel_rfl

/-- nothing in it that is longer than memory is -/
def Fine (t : TypeId) (d : DataW H) : Prop := ∀ n, n ∈ DataW.weights Try.prog t d → n ≤ reachBytes
theorem fine_part {t : TypeId} {fs : Array Field} {parts : List (DataW H)} (ht : Try.prog.underlying t = some (.struct fs)) (h : Fine t (.agg parts)) {i : Nat} {f : Field} {d : DataW H} (hf : fs[i]? = some f) (hd : parts[i]? = some d) : Fine f.type d := fun n hn => by
  refine h n ?_
  rw [DataW.weights.eq_def]
  simp only [ht]
  exact DataW.weights_mem_each (j := i) (by rw [List.getElem?_map, Array.getElem?_toList, hf]; rfl) hd n hn
theorem mem_all {e : TypeId} {l : List (DataW H)} {i : Nat} {d : DataW H} (hd : l[i]? = some d) : ∀ n, n ∈ DataW.weights Try.prog e d → n ∈ DataW.weightsAll Try.prog e l := by
  induction l generalizing i with
  | nil => simp at hd
  | cons a r ih =>
    intro n hn
    rw [DataW.weightsAll.eq_def]
    simp only [List.mem_append]
    cases i with
    | zero => simp at hd; subst hd; exact .inl hn
    | succ i => exact .inr (ih (by simpa using hd) n hn)
theorem fine_slice {t e : TypeId} {elems sp : List (DataW H)} (ht : Try.prog.underlying t = some (.slice e)) (h : Fine t (.slice elems sp)) : (elems.length + sp.length) * Try.prog.bytesOf e ≤ reachBytes ∧ ∀ (i : Nat) (d : DataW H), elems[i]? = some d → Fine e d := by
  have e1 : DataW.weights Try.prog t (.slice elems sp) = (elems.length + sp.length) * Try.prog.bytesOf e :: (DataW.weightsAll Try.prog e elems ++ DataW.weightsAll Try.prog e sp) := by
    rw [DataW.weights.eq_def]; simp only [ht]
  unfold Fine at h
  rw [e1] at h
  exact ⟨h _ List.mem_cons_self, fun i d hd n hn => h n (List.mem_cons_of_mem _ (List.mem_append.2 (.inl (mem_all hd n hn))))⟩
theorem listOf {α : Type} {Q : Nat → α → Prop} (n : Nat) (h : ∀ i, i < n → ∃ x, Q i x) : ∃ l : List α, l.length = n ∧ ∀ (i : Nat) (x : α), l[i]? = some x → Q i x := by
  induction n with
  | zero => exact ⟨[], rfl, fun i x hx => by simp at hx⟩
  | succ n ih =>
    obtain ⟨l, hl, hq⟩ := ih (fun i hi => h i (by omega))
    obtain ⟨x, hx⟩ := h n (by omega)
    refine ⟨l ++ [x], by simp [hl], fun i y hy => ?_⟩
    rcases Nat.lt_or_ge i n with hi | hi
    · rw [List.getElem?_append_left (by omega)] at hy; exact hq i y hy
    · rw [List.getElem?_append_right (by omega)] at hy
      have : i - l.length = 0 := by
        have := (List.getElem?_eq_some_iff.1 hy).1
        simp at this; omega
      rw [this] at hy
      simp at hy
      subst hy
      have : i = n := by omega
      rw [this]; exact hx
theorem spot_none {b o : Nat} {sp : Option Nat} {v : Value} (h : w.cell? ⟨b, o, sp⟩ = some v) : sp = none := by
  cases sp with
  | none => rfl
  | some x =>
    unfold World.cell? at h
    split at h <;> simp at h
theorem add_none (b o n : Nat) : (⟨b, o, none⟩ : Addr).add n = ⟨b, o + n, none⟩ := by
  unfold Addr.add; split
  · simp
  · rfl

/-- a slice of rows of cells -/
theorem open_row {α : Type} (f : α → List Value) (Q : DataW H → α → Prop) {t e : TypeId} {sz : Nat} {v : Value} {y : DataW H × List MemPlace} (ht : Try.prog.underlying t = some (.slice e)) (hc : Try.prog.cellsOf e = sz) (hs : 0 < sz)
    (hel : ∀ (fuel : Nat) (cs : List Value) (y : DataW H × List MemPlace), DataW.trod enc Try.prog w base spare held fuel e cs = some y → ∃ x : α, cs = f x ∧ Q y.1 x) (h : DataW.trod enc Try.prog w base spare held fuel t [v] = some y) :
    ∃ a c, ∃ l : List α, v = .slice a l.length c ∧ RowAt w.heap.size w a sz (l.map f) ∧ ((y.1 = .nil ∧ l = []) ∨ ∃ elems sp, y.1 = .slice elems sp ∧ elems.length = l.length ∧ ∀ (i : Nat) (x : α), l[i]? = some x → ∃ d, elems[i]? = some d ∧ Q d x) := by
  rcases Deep.open_slice ht h with ⟨hv, hy⟩ | ⟨a, len, cap, m, n, D, Pl, hv, hb, hlc, hcm, hm, hy, hall⟩
  · simp only [List.cons.injEq, and_true] at hv
    subst hv; subst hy
    exact ⟨none, 0, [], rfl, rowAt_nil, .inl ⟨rfl, rfl⟩⟩
  · simp only [List.cons.injEq, and_true] at hv
    subst hv; subst hy
    have hlm : len ≤ m := by rw [hm]; split <;> omega
    obtain ⟨l, hl, hq⟩ := listOf (Q := fun i (x : α) => (∀ (j : Nat) (c : Value), (f x)[j]? = some c → w.cell? ((a.add (i * sz)).add j) = some c) ∧ (f x).length = sz ∧ Q (D i) x) len (fun i hi => by
      obtain ⟨cs', h1, h2⟩ := hall i (by omega)
      rw [hc] at h1
      obtain ⟨x, hx, hQ⟩ := hel n cs' _ h2
      subst hx
      obtain ⟨-, hlen, hcell⟩ := World.cells?_some h1
      exact ⟨x, fun j c hj => (hcell j (by rw [← hlen]; exact (List.getElem?_eq_some_iff.1 hj).1)).trans hj, hlen, hQ⟩)
    refine ⟨some a, cap, l, by rw [hl], ?_, .inr ⟨_, _, rfl, by simp [hl], fun i x hx => ?_⟩⟩
    · intro hne
      obtain ⟨x0, hx0⟩ : ∃ x, l[0]? = some x := by
        cases l with
        | nil => simp at hne
        | cons a r => exact ⟨a, rfl⟩
      obtain ⟨hc0, hl0, -⟩ := hq 0 x0 hx0
      obtain ⟨v0, hv0⟩ : ∃ v, (f x0)[0]? = some v := ⟨(f x0)[0]'(by omega), List.getElem?_eq_getElem (by omega)⟩
      have hcell := hc0 0 v0 hv0
      rw [show (a.add (0 * sz)).add 0 = a by simp [Addr.add]] at hcell
      have hbl := World.block_lt_of_cell? w _ hcell
      obtain ⟨ab, ao, asp⟩ := a
      have hsp := spot_none hcell
      subst hsp
      refine ⟨ab, ao, rfl, hbl, fun i cs hi j x hx => ?_⟩
      rw [List.getElem?_map] at hi
      cases hli : l[i]? with
      | none => rw [hli] at hi; simp at hi
      | some y =>
        rw [hli] at hi
        simp at hi
        subst hi
        have := (hq i y hli).1 j x hx
        rw [add_none, add_none] at this
        exact this
    · have hi : i < len := by rw [← hl]; exact (List.getElem?_eq_some_iff.1 hx).1
      exact ⟨D i, by simp [hi], (hq i x hx).2.2⟩

end
end Go.Proofs.Ytlkhmcajedjojaa

namespace Go.Proofs.Ytlkhmcajedjojaa
open Go.ChangeShapes Go.WideShapes Go.ChangeAt Go.RowKit

section
variable {H : Type} {enc : TypeId × Value → H} {w : World} {base : Nat} {spare : Nat → Bool} {held : Bool} {fuel : Nat}

theorem b3 : Try.prog.bytesOf 3 = 8 := by kernel_rfl
theorem b41 : Try.prog.bytesOf 41 = 48 := by kernel_rfl
theorem b43 : Try.prog.bytesOf 43 = 24 := by kernel_rfl
theorem b46 : Try.prog.bytesOf 46 = 16 := by kernel_rfl
theorem b50 : Try.prog.bytesOf 50 = 32 := by kernel_rfl
theorem wf_u {n : Int} (h : (Lit.int .u64 n).wf = true) : 0 ≤ n ∧ n < 18446744073709551616 := by
  have h1 : IntKind.u64.min = 0 := rfl
  have h2 : IntKind.u64.max = 18446744073709551615 := rfl
  simp [Lit.wf] at h
  omega

theorem int_el {cs : List Value} {y : DataW H × List MemPlace} (h : DataW.trod enc Try.prog w base spare held fuel 3 cs = some y) : ∃ x : Int, cs = intC x ∧ True := by
  obtain ⟨n, hc, -, -⟩ := DataW.trod_int Try.underlying3 h
  exact ⟨n, hc, trivial⟩
theorem mem_el {cs : List Value} {y : DataW H × List MemPlace} (h : DataW.trod enc Try.prog w base spare held fuel 46 cs = some y) : ∃ x : MemD, cs = x.cells ∧ True := by
  obtain ⟨ys, m, rfl, hx, hlen, hyl, hel⟩ := DataW.trod_struct Try.underlying46 h
  rw [c46] at hlen
  match cs, hlen, ys, hyl, hx, hel with
  | [k0, k1], _, [y0, y1], _, _, hel =>
    have e0 := hel 0 _ rfl
    obtain ⟨n0, d0, -, wf0⟩ := DataW.trod_int Try.underlying3 (show DataW.trod _ Try.prog _ _ _ _ _ 3 _ = some y0 from e0)
    simp [c3] at d0
    have e1 := hel 1 _ rfl
    obtain ⟨n1, d1, -, wf1⟩ := DataW.trod_int Try.underlying3 (show DataW.trod _ Try.prog _ _ _ _ _ 3 _ = some y1 from e1)
    simp [c3] at d1
    exact ⟨⟨n0, n1⟩, by simp [MemD.cells, *], trivial⟩
theorem wr_el {cs : List Value} {y : DataW H × List MemPlace} (h : DataW.trod enc Try.prog w base spare held fuel 50 cs = some y) : ∃ x : WrD, cs = x.cells ∧ True := by
  obtain ⟨ys, m, rfl, hx, hlen, hyl, hel⟩ := DataW.trod_struct Try.underlying50 h
  rw [c50] at hlen
  match cs, hlen, ys, hyl, hx, hel with
  | [k0, k1, k2, k3], _, [y0, y1, y2, y3], _, _, hel =>
    have e0 := hel 0 _ rfl
    obtain ⟨n0, d0, -, wf0⟩ := DataW.trod_int Try.underlying3 (show DataW.trod _ Try.prog _ _ _ _ _ 3 _ = some y0 from e0)
    simp [c3] at d0
    have e1 := hel 1 _ rfl
    obtain ⟨n1, d1, -, wf1⟩ := DataW.trod_int Try.underlying3 (show DataW.trod _ Try.prog _ _ _ _ _ 3 _ = some y1 from e1)
    simp [c3] at d1
    have e2 := hel 2 _ rfl
    obtain ⟨n2, d2, -, wf2⟩ := DataW.trod_int Try.underlying3 (show DataW.trod _ Try.prog _ _ _ _ _ 3 _ = some y2 from e2)
    simp [c3] at d2
    have e3 := hel 3 _ rfl
    obtain ⟨n3, d3, -, wf3⟩ := DataW.trod_int Try.underlying3 (show DataW.trod _ Try.prog _ _ _ _ _ 3 _ = some y3 from e3)
    simp [c3] at d3
    exact ⟨⟨n0, n1, n2, n3⟩, by simp [WrD.cells, *], trivial⟩
theorem reg_el {cs : List Value} {y : DataW H × List MemPlace} (h : DataW.trod enc Try.prog w base spare held fuel 43 cs = some y) : ∃ x : RegD, cs = x.cells ∧ (0 ≤ x.init ∧ x.init < 18446744073709551616) := by
  obtain ⟨ys, m, rfl, hx, hlen, hyl, hel⟩ := DataW.trod_struct Try.underlying43 h
  rw [c43] at hlen
  match cs, hlen, ys, hyl, hx, hel with
  | [k0, k1, k2], _, [y0, y1, y2], _, _, hel =>
    have e0 := hel 0 _ rfl
    obtain ⟨n0, d0, -, wf0⟩ := DataW.trod_int Try.underlying3 (show DataW.trod _ Try.prog _ _ _ _ _ 3 _ = some y0 from e0)
    simp [c3] at d0
    have e1 := hel 1 _ rfl
    obtain ⟨n1, d1, -, wf1⟩ := DataW.trod_int Try.underlying33 (show DataW.trod _ Try.prog _ _ _ _ _ 33 _ = some y1 from e1)
    simp [c33] at d1
    have e2 := hel 2 _ rfl
    obtain ⟨n2, d2, -, wf2⟩ := DataW.trod_int Try.underlying3 (show DataW.trod _ Try.prog _ _ _ _ _ 3 _ = some y2 from e2)
    simp [c3] at d2
    exact ⟨⟨n0, n1, n2⟩, by simp [RegD.cells, *], wf_u wf1⟩
/-- a row's length, where nothing is too long -/
theorem len_of {α : Type} {Q : DataW H → α → Prop} {t e : TypeId} {d : DataW H} {l : List α} (ht : Try.prog.underlying t = some (.slice e)) (hb : 8 ≤ Try.prog.bytesOf e) (hf : Fine t d) (h : (d = .nil ∧ l = []) ∨ ∃ elems sp, d = .slice elems sp ∧ elems.length = l.length ∧ ∀ (i : Nat) (x : α), l[i]? = some x → ∃ d, elems[i]? = some d ∧ Q d x) :
    l.length < big ∧ ∀ x, x ∈ l → ∃ d, Fine e d ∧ Q d x := by
  rcases h with ⟨rfl, rfl⟩ | ⟨elems, sp, rfl, hl, hq⟩
  · exact ⟨by simp [big], fun x hx => by simp at hx⟩
  · have hh := fine_slice ht hf
    refine ⟨?_, fun x hx => ?_⟩
    · have h1 := hh.1
      have h2 : l.length * 8 ≤ (elems.length + sp.length) * Try.prog.bytesOf e := by
        rw [← hl]
        exact Nat.mul_le_mul (by omega) hb
      simp only [reachBytes] at h1
      simp only [big]
      omega
    · obtain ⟨i, hi, rfl⟩ := List.getElem_of_mem hx
      obtain ⟨d, hd, hQ⟩ := hq i _ (List.getElem?_eq_getElem hi)
      exact ⟨d, hh.2 i d hd, hQ⟩

theorem node_el {cs : List Value} {y : DataW H × List MemPlace} (h : DataW.trod enc Try.prog w base spare held fuel 41 cs = some y) : ∃ x : NodeD, cs = x.cells ∧ (RowAt w.heap.size w x.aa 1 (x.args.map intC) ∧ 0 ≤ x.num ∧ x.num < 18446744073709551616 ∧ (Fine 41 y.1 → x.args.length < big)) := by
  obtain ⟨ys, m, rfl, hx, hlen, hyl, hel⟩ := DataW.trod_struct Try.underlying41 h
  rw [c41] at hlen
  match cs, hlen, ys, hyl, hx, hel with
  | [k0, k1, k2, k3], _, [y0, y1, y2, y3], _, hx, hel =>
    have e0 := hel 0 _ rfl
    obtain ⟨n0, d0, -, wf0⟩ := DataW.trod_int Try.underlying3 (show DataW.trod _ Try.prog _ _ _ _ _ 3 _ = some y0 from e0)
    simp [c3] at d0
    have e1 := hel 1 _ rfl
    obtain ⟨n1, d1, -, wf1⟩ := DataW.trod_int Try.underlying3 (show DataW.trod _ Try.prog _ _ _ _ _ 3 _ = some y1 from e1)
    simp [c3] at d1
    have e2 := hel 2 _ rfl
    obtain ⟨n2, d2, -, wf2⟩ := DataW.trod_int Try.underlying33 (show DataW.trod _ Try.prog _ _ _ _ _ 33 _ = some y2 from e2)
    simp [c33] at d2
    have e3 := hel 3 _ rfl
    have e3' : DataW.trod enc Try.prog w base spare held m 22 [k3] = some y3 := by simpa [c22] using e3
    obtain ⟨a, c, l, rfl, hr, hd⟩ := open_row intC (fun _ _ => True) Try.underlying22 c3 (by decide) (fun fuel cs y h => int_el h) e3'
    refine ⟨⟨n0, n1, n2, l, a, c⟩, by simp [NodeD.cells, *], hr, (wf_u wf2).1, (wf_u wf2).2, fun hf => ?_⟩
    rw [hx] at hf
    exact (len_of Try.underlying22 (by rw [b3]; decide) (fine_part Try.underlying41 hf (i := 3) rfl rfl) hd).1

theorem open_net {y : DataW H × List MemPlace} {cs : List Value} (h : DataW.trod enc Try.prog w base spare held fuel 28 cs = some y) (hf : Fine 28 y.1) : ∃ S N, cs = (NetS.cells S N).toList ∧ NetAt w.heap.size w S N := by
  obtain ⟨ys, m, rfl, hx, hlen, hyl, hel⟩ := DataW.trod_struct Try.underlying28 h
  rw [show Try.prog.cellsOf 28 = 6 by kernel_rfl] at hlen
  match cs, hlen, ys, hyl, hx, hel with
  | [k0, k1, k2, k3, k4, k5], _, [y0, y1, y2, y3, y4, y5], _, hx, hel =>
    rw [hx] at hf
    have e0 := hel 0 _ rfl
    have e0' : DataW.trod enc Try.prog w base spare held m 22 [k0] = some y0 := by
      have hc : Try.prog.cellsOf 22 = 1 := by kernel_rfl
      simpa [hc] using e0
    obtain ⟨a0, u0, l0, rfl, hr0, hd0⟩ := open_row intC (fun _ _ => True) Try.underlying22 c3 (by decide) (fun fuel cs y h => int_el h) e0'
    have g0 := len_of Try.underlying22 (by rw [b3]; decide) (fine_part Try.underlying28 hf (i := 0) rfl rfl) hd0
    have e1 := hel 1 _ rfl
    have e1' : DataW.trod enc Try.prog w base spare held m 23 [k1] = some y1 := by
      have hc : Try.prog.cellsOf 23 = 1 := by kernel_rfl
      simpa [hc] using e1
    obtain ⟨a1, u1, l1, rfl, hr1, hd1⟩ := open_row NodeD.cells (fun d x => RowAt w.heap.size w x.aa 1 (x.args.map intC) ∧ 0 ≤ x.num ∧ x.num < 18446744073709551616 ∧ (Fine 41 d → x.args.length < big)) Try.underlying23 c41 (by decide) (fun fuel cs y h => node_el h) e1'
    have g1 := len_of Try.underlying23 (by rw [b41]; decide) (fine_part Try.underlying28 hf (i := 1) rfl rfl) hd1
    have e2 := hel 2 _ rfl
    have e2' : DataW.trod enc Try.prog w base spare held m 24 [k2] = some y2 := by
      have hc : Try.prog.cellsOf 24 = 1 := by kernel_rfl
      simpa [hc] using e2
    obtain ⟨a2, u2, l2, rfl, hr2, hd2⟩ := open_row RegD.cells (fun _ x => 0 ≤ x.init ∧ x.init < 18446744073709551616) Try.underlying24 c43 (by decide) (fun fuel cs y h => reg_el h) e2'
    have g2 := len_of Try.underlying24 (by rw [b43]; decide) (fine_part Try.underlying28 hf (i := 2) rfl rfl) hd2
    have e3 := hel 3 _ rfl
    have e3' : DataW.trod enc Try.prog w base spare held m 25 [k3] = some y3 := by
      have hc : Try.prog.cellsOf 25 = 1 := by kernel_rfl
      simpa [hc] using e3
    obtain ⟨a3, u3, l3, rfl, hr3, hd3⟩ := open_row MemD.cells (fun _ _ => True) Try.underlying25 c46 (by decide) (fun fuel cs y h => mem_el h) e3'
    have g3 := len_of Try.underlying25 (by rw [b46]; decide) (fine_part Try.underlying28 hf (i := 3) rfl rfl) hd3
    have e4 := hel 4 _ rfl
    have e4' : DataW.trod enc Try.prog w base spare held m 26 [k4] = some y4 := by
      have hc : Try.prog.cellsOf 26 = 1 := by kernel_rfl
      simpa [hc] using e4
    obtain ⟨a4, u4, l4, rfl, hr4, hd4⟩ := open_row WrD.cells (fun _ _ => True) Try.underlying26 c50 (by decide) (fun fuel cs y h => wr_el h) e4'
    have g4 := len_of Try.underlying26 (by rw [b50]; decide) (fine_part Try.underlying28 hf (i := 4) rfl rfl) hd4
    have e5 := hel 5 _ rfl
    have e5' : DataW.trod enc Try.prog w base spare held m 22 [k5] = some y5 := by
      have hc : Try.prog.cellsOf 22 = 1 := by kernel_rfl
      simpa [hc] using e5
    obtain ⟨a5, u5, l5, rfl, hr5, hd5⟩ := open_row intC (fun _ _ => True) Try.underlying22 c3 (by decide) (fun fuel cs y h => int_el h) e5'
    have g5 := len_of Try.underlying22 (by rw [b3]; decide) (fine_part Try.underlying28 hf (i := 5) rfl rfl) hd5
    refine ⟨⟨a0, u0, a1, u1, a2, u2, a3, u3, a4, u4, a5, u5⟩, ⟨l0, l1, l2, l3, l4, l5⟩, rfl, hr0, hr1, hr2, hr3, hr4, hr5, fun d hd => ?_, fun d hd => ?_, g0.1, g1.1, g2.1, g3.1, g4.1, g5.1⟩
    · obtain ⟨x, hfx, q1, q2, q3, q4⟩ := g1.2 d hd
      exact ⟨q1, q2, q3, q4 hfx⟩
    · obtain ⟨x, -, q1, q2⟩ := g2.2 d hd
      exact ⟨q1, q2⟩

end
end Go.Proofs.Ytlkhmcajedjojaa
