import Derived.Test.YtefjicdhccfieaaK01
import Derived.Test.YtefjicdhccfieaaK03
import Derived.Test.YtefjicdhccfieaaK09
import Derived.ProofKit
import Derived.SizedLaws
import Derived.Deep.Slices
import Derived.OpenShut
set_option maxRecDepth 100000
set_option maxHeartbeats 16000000
namespace Go.Proofs.Ytefjicdhccfieaa
open Go.ChangeShapes Go.WideShapes Go.ChangeAt Go.RowKit
section
variable {H : Type} {enc : TypeId × Value → H} {w : World} {base : Nat} {spare : Nat → Bool} {held : Bool} {fuel : Nat}
def Fine (t : TypeId) (d : DataW H) : Prop := ∀ n, n ∈ DataW.weights Try.prog t d → n ≤ reachBytes
theorem fine_part {t : TypeId} {fs : Array Field} {parts : List (DataW H)} (ht : Try.prog.underlying t = some (.struct fs)) (h : Fine t (.agg parts)) {i : Nat} {f : Field} {d : DataW H} (hf : fs[i]? = some f) (hd : parts[i]? = some d) : Fine f.type d := fun n hn => by
 refine h n ?_
 rw [DataW.weights.eq_def]
 simp only [ht]
 exact DataW.weights_mem_each (j := i) (by rw [List.getElem?_map, Array.getElem?_toList, hf]; rfl) hd n hn
theorem mem_all {e : TypeId} {l : List (DataW H)} {i : Nat} {d : DataW H} (hd : l[i]? = some d) : ∀ n, n ∈ DataW.weights Try.prog e d → n ∈ DataW.weightsAll Try.prog e l := by
 induction l generalizing i with
 | nil => simp at hd
 | cons a r ih =>
  intro n hn
  rw [DataW.weightsAll.eq_def]
  simp only [List.mem_append]
  cases i with
  | zero => simp at hd; subst hd; exact .inl hn
  | succ i => exact .inr (ih (by simpa using hd) n hn)
theorem fine_slice {t e : TypeId} {elems sp : List (DataW H)} (ht : Try.prog.underlying t = some (.slice e)) (h : Fine t (.slice elems sp)) : (elems.length + sp.length) * Try.prog.bytesOf e ≤ reachBytes ∧ ∀ (i : Nat) (d : DataW H), elems[i]? = some d → Fine e d := by
 have e1 : DataW.weights Try.prog t (.slice elems sp) = (elems.length + sp.length) * Try.prog.bytesOf e :: (DataW.weightsAll Try.prog e elems ++ DataW.weightsAll Try.prog e sp) := by
  rw [DataW.weights.eq_def]; simp only [ht]
 unfold Fine at h
 rw [e1] at h
 exact ⟨h _ List.mem_cons_self, fun i d hd n hn => h n (List.mem_cons_of_mem _ (List.mem_append.2 (.inl (mem_all hd n hn))))⟩
end
end Go.Proofs.Ytefjicdhccfieaa

set_option maxRecDepth 100000
set_option maxHeartbeats 16000000
namespace Go.Proofs.Ytefjicdhccfieaa
open Go.ChangeShapes Go.WideShapes Go.ChangeAt Go.RowKit
theorem bulk_pos {H : Type} (d : DataW H) : 1 ≤ Rows.uptoBulk d := by
 cases d with
 | lit l => cases l <;> simp [Rows.uptoBulk]
 | _ => simp [Rows.uptoBulk]
theorem bulk_mem {H : Type} {d : DataW H} {l : List (DataW H)} (h : d ∈ l) : Rows.uptoBulk d ≤ Rows.uptoBulkAll l := by
 induction l with
 | nil => cases h
 | cons x r ih =>
  simp only [Rows.uptoBulkAll]
  rcases List.mem_cons.1 h with rfl | e
  ·omega
  ·have := ih e; omega
theorem bulk_len {H : Type} (l : List (DataW H)) : l.length ≤ Rows.uptoBulkAll l := by
 induction l with
 | nil => simp
 | cons x r ih => have := bulk_pos x; simp only [Rows.uptoBulkAll, List.length_cons]; omega
theorem bulk_total {H : Type} (cls : List CL) (elems : List (DataW H)) (hl : elems.length = cls.length) (hq : ∀ (i : Nat) (x : CL), cls[i]? = some x → ∃ d, elems[i]? = some d ∧ x.l.length + 1 ≤ Rows.uptoBulk d) : total cls ≤ Rows.uptoBulkAll elems := by
 induction cls generalizing elems with
 | nil => simp [total]
 | cons x r ih =>
  cases elems with
  | nil => simp at hl
  | cons d ds =>
   obtain ⟨d', hd, hx⟩ := hq 0 x rfl
   simp at hd
   subst hd
   have := ih ds (by simpa using hl) (fun i y hy => by
    obtain ⟨e, he, hy2⟩ := hq (i + 1) y (by simpa using hy)
    exact ⟨e, by simpa using he, hy2⟩)
   simp only [total, List.map_cons, List.sum_cons, Rows.uptoBulkAll] at *
   omega
section
variable {H : Type} {enc : TypeId × Value → H} {w : World} {base : Nat} {spare : Nat → Bool} {held : Bool} {fuel : Nat}
theorem cI : Try.prog.cellsOf 3 = 1 := by kernel_rfl
theorem cSI : Try.prog.cellsOf 26 = 1 := by kernel_rfl
theorem int_el {cs : List Value} {y : DataW H × List MemPlace} (h : DataW.trod enc Try.prog w base spare held fuel 3 cs = some y) : ∃ x : Int, cs = intC x ∧ True := by
 obtain ⟨n, hc, -, -⟩ := DataW.trod_int Try.underlying3 h
 exact ⟨n, hc, trivial⟩
theorem cl_el {cs : List Value} {y : DataW H × List MemPlace} (h : DataW.trod enc Try.prog w base spare held fuel 26 cs = some y) : ∃ x : CL, cs = x.cells ∧ (RowAt w.heap.size w x.a 1 (x.l.map intC) ∧ x.l.length + 1 ≤ Rows.uptoBulk y.1) := by
 obtain ⟨v, rfl⟩ : ∃ v, cs = [v] := by
  rcases DataW.trod_slice Try.underlying26 h with ⟨rfl, _⟩ | ⟨a, len, cap, elems, rest, n, _, rfl, _⟩
  ·exact ⟨_, rfl⟩
  ·exact ⟨_, rfl⟩
 obtain ⟨a, c, l, rfl, hr, hd⟩ := open_row intC (fun _ _ => True) Try.underlying26 cI (by decide) (fun fuel cs y h => int_el h) h
 refine ⟨⟨a, c, l⟩, rfl, hr, ?_⟩
 rcases hd with ⟨h0, rfl⟩ | ⟨elems, sp, he, hl, _⟩
 ·have := bulk_pos y.1
  simpa using this
 ·rw [he]
  have := bulk_len elems
  simp only [Rows.uptoBulk]
  show l.length + 1 ≤ _
  omega
theorem open_formula {y : DataW H × List MemPlace} {cs : List Value} (h : DataW.trod enc Try.prog w base spare held fuel 24 cs = some y) (hb : Rows.uptoBulk y.1 ≤ 1048576) : ∃ a c v cls, cs = [.int .i64 v, .slice a (List.length cls) c] ∧ ClAt w.heap.size w a cls ∧ total cls ≤ 1048576 := by
 obtain ⟨ys, m, rfl, hx, hlen, hyl, hel⟩ := DataW.trod_struct Try.underlying24 h
 rw [show Try.prog.cellsOf 24 = 2 by kernel_rfl] at hlen
 match cs, hlen, ys, hyl, hx, hel with
 | [k0, k1], _, [y0, y1], _, hx, hel =>
  have e0 := hel 0 _ rfl
  obtain ⟨n0, d0, -, wf0⟩ := DataW.trod_int Try.underlying3 (show DataW.trod _ Try.prog _ _ _ _ _ 3 _ = some y0 from e0)
  simp [cI] at d0
  subst d0
  have e1 := hel 1 _ rfl
  have e1' : DataW.trod enc Try.prog w base spare held m 22 [k1] = some y1 := by
   have hc : Try.prog.cellsOf 22 = 1 := by kernel_rfl
   simpa [hc] using e1
  obtain ⟨a1, u1, l1, rfl, hr1, hd1⟩ := open_row CL.cells (fun d x => RowAt w.heap.size w x.a 1 (x.l.map intC) ∧ x.l.length + 1 ≤ Rows.uptoBulk d) Try.underlying22 cSI (by decide) (fun fuel cs y h => cl_el h) e1'
  have hm : Rows.uptoBulk y1.1 ≤ Rows.uptoBulkAll ([y0, y1].map Prod.fst) := bulk_mem (by simp)
  rw [hx] at hb
  have hb2 : Rows.uptoBulkAll ([y0, y1].map Prod.fst) ≤ 1048576 := by
   have hb3 : Rows.uptoBulkAll ([y0, y1].map Prod.fst) + 1 ≤ 1048576 := by simpa only [Rows.uptoBulk] using hb
   omega
  have htot : total l1 ≤ 1048576 := by
   rcases hd1 with ⟨_, rfl⟩ | ⟨elems, sp, he, hl, hq⟩
   ·simp [total]
   ·have := bulk_total l1 elems hl (fun i x hxi => by
     obtain ⟨d, hd, _, h2⟩ := hq i x hxi
     exact ⟨d, hd, h2⟩)
    rw [he] at hm
    simp only [Rows.uptoBulk] at hm
    omega
  refine ⟨a1, u1, n0, l1, rfl, ⟨hr1, ?_, by omega⟩, htot⟩
  rcases hd1 with ⟨_, rfl⟩ | ⟨elems, sp, _, _, hq⟩
  ·intro t ht; cases ht
  ·intro t ht
   obtain ⟨i, hi, rfl⟩ := List.getElem_of_mem ht
   obtain ⟨d, _, hQ, _⟩ := hq i _ (List.getElem?_eq_getElem hi)
   exact hQ
theorem open_steps {y : DataW H × List MemPlace} {v : Value} (h : DataW.trod enc Try.prog w base spare held fuel 22 [v] = some y) (hb : Rows.uptoBulk y.1 ≤ 1048576) : ∃ a c cls, v = .slice a (List.length cls) c ∧ ClAt w.heap.size w a cls ∧ total cls ≤ 1048576 := by
 obtain ⟨a1, u1, l1, e1, hr1, hd1⟩ := open_row CL.cells (fun d x => RowAt w.heap.size w x.a 1 (x.l.map intC) ∧ x.l.length + 1 ≤ Rows.uptoBulk d) Try.underlying22 cSI (by decide) (fun fuel cs y h => cl_el h) h
 have htot : total l1 ≤ 1048576 := by
  rcases hd1 with ⟨_, rfl⟩ | ⟨elems, sp, he, hl, hq⟩
  ·simp [total]
  ·have := bulk_total l1 elems hl (fun i x hxi => by
    obtain ⟨d, hd, _, h2⟩ := hq i x hxi
    exact ⟨d, hd, h2⟩)
   rw [he] at hb
   simp only [Rows.uptoBulk] at hb
   omega
 refine ⟨a1, u1, l1, e1, ⟨hr1, ?_, by omega⟩, htot⟩
 rcases hd1 with ⟨_, rfl⟩ | ⟨elems, sp, _, _, hq⟩
 ·intro t ht; cases ht
 ·intro t ht
  obtain ⟨i, hi, rfl⟩ := List.getElem_of_mem ht
  obtain ⟨d, _, hQ, _⟩ := hq i _ (List.getElem?_eq_getElem hi)
  exact hQ
end
theorem Try.own : ownKnob Try.prog.godebug = none := by kernel_rfl
theorem Try.laidOut : laidOutB Try.prog = true := by kernel_rfl
theorem formula_of {H : Type} {enc : TypeId × Value → H} {W : World} {base : Nat} {v : Value} {d : DataW H} {p : List MemPlace} (hv : Value.okWide Try.prog W .any base 24 v) (h : DataW.Trod enc Try.prog W 0 (fun _ => true) true 24 v d p) (hb : Rows.uptoBulk d ≤ 1048576) :
  ∃ a c x cls, v = .agg #[.int .i64 x, .slice a (List.length cls) c] ∧ ClAt W.heap.size W a cls ∧ total cls ≤ 1048576 := by
 obtain ⟨cs, rfl, _⟩ := okWide_struct Try.underlying24 hv
 obtain ⟨fuel, ht⟩ := h
 obtain ⟨a, c, x, cls, hc, hn⟩ := open_formula ht hb
 refine ⟨a, c, x, cls, ?_, hn⟩
 have : cs.toList = (#[.int .i64 x, .slice a (List.length cls) c] : Array Value).toList := by simpa [Value.cells] using hc
 rw [Array.toList_inj.1 this]
theorem steps_of {H : Type} {enc : TypeId × Value → H} {W : World} {v : Value} {d : DataW H} {p : List MemPlace} (h : DataW.Trod enc Try.prog W 0 (fun _ => true) true 22 v d p) (hv : v.cells.toList = [v]) (hb : Rows.uptoBulk d ≤ 1048576) :
  ∃ a c cls, v = .slice a (List.length cls) c ∧ ClAt W.heap.size W a cls ∧ total cls ≤ 1048576 := by
 obtain ⟨fuel, ht⟩ := h
 rw [hv] at ht
 exact open_steps ht hb
end Go.Proofs.Ytefjicdhccfieaa

set_option maxRecDepth 100000
set_option maxHeartbeats 16000000
namespace Go.Proofs.Ytefjicdhccfieaa
open Go.ChangeShapes Go.WideShapes Go.ChangeAt Go.RowKit
section
variable {H : Type} {enc : TypeId × Value → H} {w : World} {base : Nat} {spare : Nat → Bool} {held : Bool} {fuel : Nat}
theorem cB : Try.prog.cellsOf 4 = 1 := by kernel_rfl
theorem cL : Try.prog.cellsOf 55 = 2 := by kernel_rfl
theorem cA : Try.prog.cellsOf 33 = 2 := by kernel_rfl
theorem bI : Try.prog.bytesOf 3 = 8 := by kernel_rfl
theorem bL : Try.prog.bytesOf 55 = 16 := by kernel_rfl
theorem bA : Try.prog.bytesOf 33 = 16 := by kernel_rfl
theorem lat_el {cs : List Value} {y : DataW H × List MemPlace} (h : DataW.trod enc Try.prog w base spare held fuel 55 cs = some y) : ∃ x : LatD, cs = x.cells ∧ True := by
 obtain ⟨ys, m, rfl, hx, hlen, hyl, hel⟩ := DataW.trod_struct Try.underlying55 h
 rw [cL] at hlen
 match cs, hlen, ys, hyl, hx, hel with
 | [k0, k1], _, [y0, y1], _, _, hel =>
  have e0 := hel 0 _ rfl
  obtain ⟨n0, d0, -, wf0⟩ := DataW.trod_int Try.underlying3 (show DataW.trod _ Try.prog _ _ _ _ _ 3 _ = some y0 from e0)
  simp [cI] at d0
  have e1 := hel 1 _ rfl
  obtain ⟨n1, d1, -⟩ := DataW.trod_bool Try.underlying4 (show DataW.trod _ Try.prog _ _ _ _ _ 4 _ = some y1 from e1)
  simp [cB] at d1
  exact ⟨⟨n0, n1⟩, by simp [LatD.cells, *], trivial⟩
theorem and_el {cs : List Value} {y : DataW H × List MemPlace} (h : DataW.trod enc Try.prog w base spare held fuel 33 cs = some y) : ∃ x : AndD, cs = x.cells ∧ True := by
 obtain ⟨ys, m, rfl, hx, hlen, hyl, hel⟩ := DataW.trod_array Try.underlying33 h
 rw [cA] at hlen
 match cs, hlen, ys, hyl, hx, hel with
 | [k0, k1], _, [y0, y1], _, _, hel =>
  have e0 := hel 0 (by decide)
  obtain ⟨n0, d0, -, wf0⟩ := DataW.trod_int Try.underlying3 (show DataW.trod _ Try.prog _ _ _ _ _ 3 _ = some y0 from e0)
  simp [cI] at d0
  have e1 := hel 1 (by decide)
  obtain ⟨n1, d1, -, wf1⟩ := DataW.trod_int Try.underlying3 (show DataW.trod _ Try.prog _ _ _ _ _ 3 _ = some y1 from e1)
  simp [cI] at d1
  exact ⟨⟨n0, n1⟩, by simp [AndD.cells, *], trivial⟩
theorem len_of {α : Type} {Q : DataW H → α → Prop} {t e : TypeId} {d : DataW H} {l : List α} (ht : Try.prog.underlying t = some (.slice e)) (hb : 8 ≤ Try.prog.bytesOf e) (hf : Fine t d) (h : (d = .nil ∧ l = []) ∨ ∃ elems sp, d = .slice elems sp ∧ elems.length = l.length ∧ ∀ (i : Nat) (x : α), l[i]? = some x → ∃ d, elems[i]? = some d ∧ Q d x) :
  l.length < big := by
 rcases h with ⟨rfl, rfl⟩ | ⟨elems, sp, rfl, hl, hq⟩
 ·simp [big]
 ·have hh := fine_slice ht hf
  have h1 := hh.1
  have h2 : l.length * 8 ≤ (elems.length + sp.length) * Try.prog.bytesOf e := by
   rw [← hl]
   exact Nat.mul_le_mul (by omega) hb
  simp only [reachBytes] at h1
  simp only [big]
  omega
theorem open_graph {y : DataW H × List MemPlace} {cs : List Value} (h : DataW.trod enc Try.prog w base spare held fuel 30 cs = some y) (hf : Fine 30 y.1) : ∃ S G, cs = (GrS.cells S G).toList ∧ GrAt w.heap.size w S G := by
 obtain ⟨ys, m, rfl, hx, hlen, hyl, hel⟩ := DataW.trod_struct Try.underlying30 h
 rw [show Try.prog.cellsOf 30 = 4 by kernel_rfl] at hlen
 match cs, hlen, ys, hyl, hx, hel with
 | [k0, k1, k2, k3], _, [y0, y1, y2, y3], _, hx, hel =>
  rw [hx] at hf
  have e0 := hel 0 _ rfl
  obtain ⟨n0, d0, -, wf0⟩ := DataW.trod_int Try.underlying3 (show DataW.trod _ Try.prog _ _ _ _ _ 3 _ = some y0 from e0)
  simp [cI] at d0
  subst d0
  have e1 := hel 1 _ rfl
  have e1' : DataW.trod enc Try.prog w base spare held m 27 [k1] = some y1 := by
   have hc : Try.prog.cellsOf 27 = 1 := by kernel_rfl
   simpa [hc] using e1
  obtain ⟨a1, u1, l1, rfl, hr1, hd1⟩ := open_row LatD.cells (fun _ _ => True) Try.underlying27 cL (by decide) (fun fuel cs y h => lat_el h) e1'
  have g1 := len_of Try.underlying27 (by rw [bL]; decide) (fine_part Try.underlying30 hf (i := 1) rfl rfl) hd1
  have e2 := hel 2 _ rfl
  have e2' : DataW.trod enc Try.prog w base spare held m 28 [k2] = some y2 := by
   have hc : Try.prog.cellsOf 28 = 1 := by kernel_rfl
   simpa [hc] using e2
  obtain ⟨a2, u2, l2, rfl, hr2, hd2⟩ := open_row AndD.cells (fun _ _ => True) Try.underlying28 cA (by decide) (fun fuel cs y h => and_el h) e2'
  have g2 := len_of Try.underlying28 (by rw [bA]; decide) (fine_part Try.underlying30 hf (i := 2) rfl rfl) hd2
  have e3 := hel 3 _ rfl
  have e3' : DataW.trod enc Try.prog w base spare held m 26 [k3] = some y3 := by
   have hc : Try.prog.cellsOf 26 = 1 := by kernel_rfl
   simpa [hc] using e3
  obtain ⟨a3, u3, l3, rfl, hr3, hd3⟩ := open_row intC (fun _ _ => True) Try.underlying26 cI (by decide) (fun fuel cs y h => int_el h) e3'
  have g3 := len_of Try.underlying26 (by rw [bI]; decide) (fine_part Try.underlying30 hf (i := 3) rfl rfl) hd3
  exact ⟨⟨a1, u1, a2, u2, a3, u3⟩, ⟨n0, l1, l2, l3⟩, rfl, hr1, hr2, hr3, g1, g2, g3⟩
end
theorem graph_of {H : Type} {enc : TypeId × Value → H} {W : World} {base : Nat} {v : Value} {d : DataW H} {p : List MemPlace} (hv : Value.okWide Try.prog W .any base 30 v) (h : DataW.Trod enc Try.prog W 0 (fun _ => true) true 30 v d p) (hf : Fine 30 d) :
  ∃ S G, v = .agg (GrS.cells S G) ∧ GrAt W.heap.size W S G := by
 obtain ⟨cs, rfl, _⟩ := okWide_struct Try.underlying30 hv
 obtain ⟨fuel, ht⟩ := h
 obtain ⟨S, G, hc, hn⟩ := open_graph ht hf
 refine ⟨S, G, ?_, hn⟩
 have : cs.toList = (GrS.cells S G).toList := by simpa [Value.cells] using hc
 rw [Array.toList_inj.1 this]
end Go.Proofs.Ytefjicdhccfieaa

set_option maxRecDepth 100000
set_option maxHeartbeats 16000000
namespace Go.Proofs.Ytefjicdhccfieaa
open Go.ChangeShapes Go.WideShapes Go.ChangeAt Go.RowKit
section
variable {H : Type} {enc : TypeId × Value → H} {w : World} {base : Nat} {spare : Nat → Bool} {held : Bool} {fuel : Nat}
theorem pr_el {cs : List Value} {y : DataW H × List MemPlace} (h : DataW.trod enc Try.prog w base spare held fuel 33 cs = some y) : ∃ x : AndD, cs = x.cells ∧ 3 ≤ Rows.uptoBulk y.1 := by
 obtain ⟨ys, m, rfl, hx, hlen, hyl, hel⟩ := DataW.trod_array Try.underlying33 h
 rw [cA] at hlen
 match cs, hlen, ys, hyl, hx, hel with
 | [k0, k1], _, [y0, y1], _, hx, hel =>
  have e0 := hel 0 (by decide)
  obtain ⟨n0, d0, -, wf0⟩ := DataW.trod_int Try.underlying3 (show DataW.trod _ Try.prog _ _ _ _ _ 3 _ = some y0 from e0)
  simp [cI] at d0
  have e1 := hel 1 (by decide)
  obtain ⟨n1, d1, -, wf1⟩ := DataW.trod_int Try.underlying3 (show DataW.trod _ Try.prog _ _ _ _ _ 3 _ = some y1 from e1)
  simp [cI] at d1
  refine ⟨⟨n0, n1⟩, by simp [AndD.cells, *], ?_⟩
  rw [hx]
  have h0 := bulk_pos y0.1
  have h1 := bulk_pos y1.1
  simp only [Rows.uptoBulk, Rows.uptoBulkAll, List.map_cons, List.map_nil]
  omega
theorem bulk_rows {α : Type} (l : List α) (elems : List (DataW H)) (hl : elems.length = l.length) (hq : ∀ (i : Nat) (x : α), l[i]? = some x → ∃ d, elems[i]? = some d ∧ 3 ≤ Rows.uptoBulk d) : 3 * l.length ≤ Rows.uptoBulkAll elems := by
 induction l generalizing elems with
 | nil => simp
 | cons x r ih =>
  cases elems with
  | nil => simp at hl
  | cons d ds =>
   obtain ⟨d', hd, hx⟩ := hq 0 x rfl
   simp at hd
   subst hd
   have := ih ds (by simpa using hl) (fun i y hy => by
    obtain ⟨e, he, hy2⟩ := hq (i + 1) y (by simpa using hy)
    exact ⟨e, by simpa using he, hy2⟩)
   simp only [List.length_cons, Rows.uptoBulkAll] at *
   omega
theorem open_pairs {y : DataW H × List MemPlace} {v : Value} (h : DataW.trod enc Try.prog w base spare held fuel 28 [v] = some y) (hb : Rows.uptoBulk y.1 ≤ 1048576) : ∃ a c prs, v = .slice a (List.length prs) c ∧ RowAt w.heap.size w a 2 (prs.map AndD.cells) ∧ prs.length ≤ 400000 := by
 obtain ⟨a1, u1, l1, e1, hr1, hd1⟩ := open_row AndD.cells (fun d x => 3 ≤ Rows.uptoBulk d) Try.underlying28 cA (by decide) (fun fuel cs y h => pr_el h) h
 refine ⟨a1, u1, l1, e1, hr1, ?_⟩
 rcases hd1 with ⟨_, rfl⟩ | ⟨elems, sp, he, hl, hq⟩
 ·simp
 ·have := bulk_rows l1 elems hl hq
  rw [he] at hb
  simp only [Rows.uptoBulk] at hb
  omega
end
theorem pairs_of {H : Type} {enc : TypeId × Value → H} {W : World} {v : Value} {d : DataW H} {p : List MemPlace} (h : DataW.Trod enc Try.prog W 0 (fun _ => true) true 28 v d p) (hv : v.cells.toList = [v]) (hb : Rows.uptoBulk d ≤ 1048576) :
  ∃ a c prs, v = .slice a (List.length prs) c ∧ RowAt W.heap.size W a 2 (prs.map AndD.cells) ∧ prs.length ≤ 400000 := by
 obtain ⟨fuel, ht⟩ := h
 rw [hv] at ht
 exact open_pairs ht hb
end Go.Proofs.Ytefjicdhccfieaa

set_option maxRecDepth 100000
set_option maxHeartbeats 16000000
namespace Go.Proofs.Ytefjicdhccfieaa
open Go.ChangeShapes Go.WideShapes Go.ChangeAt Go.RowKit
theorem open_cert {H : Type} {enc : TypeId × Value → H} {w : World} {base : Nat} {spare : Nat → Bool} {held : Bool} {fuel : Nat} {y : DataW H × List MemPlace} {cs : List Value} (h : DataW.trod enc Try.prog w base spare held fuel 35 cs = some y) (hb : Rows.uptoBulk y.1 ≤ 1048576) :
  ∃ xa xc prs ba bc bcl sa sc scl oa oc ocl, cs = [.slice xa (List.length prs) xc, .slice ba (List.length bcl) bc, .slice sa (List.length scl) sc, .slice oa (List.length ocl) oc] ∧ (RowAt w.heap.size w xa 2 (prs.map AndD.cells) ∧ prs.length ≤ 400000) ∧ (ClAt w.heap.size w ba bcl ∧ total bcl ≤ 1048576) ∧ (ClAt w.heap.size w sa scl ∧ total scl ≤ 1048576) ∧ (ClAt w.heap.size w oa ocl ∧ total ocl ≤ 1048576) := by
 obtain ⟨ys, m, rfl, hx, hlen, hyl, hel⟩ := DataW.trod_struct Try.underlying35 h
 rw [show Try.prog.cellsOf 35 = 4 by kernel_rfl] at hlen
 match cs, hlen, ys, hyl, hx, hel with
 | [k0, k1, k2, k3], _, [y0, y1, y2, y3], _, hx, hel =>
  rw [hx] at hb
  have hb2 : Rows.uptoBulkAll ([y0, y1, y2, y3].map Prod.fst) ≤ 1048576 := by
   have hb3 : Rows.uptoBulkAll ([y0, y1, y2, y3].map Prod.fst) + 1 ≤ 1048576 := by simpa only [Rows.uptoBulk] using hb
   omega
  have e0 := hel 0 _ rfl
  have e0' : DataW.trod enc Try.prog w base spare held m 28 [k0] = some y0 := by
   have hc : Try.prog.cellsOf 28 = 1 := by kernel_rfl
   simpa [hc] using e0
  have hm0 : Rows.uptoBulk y0.1 ≤ Rows.uptoBulkAll ([y0, y1, y2, y3].map Prod.fst) := bulk_mem (by simp)
  obtain ⟨a0, c0, l0, rfl, q0, r0⟩ := open_pairs e0' (by omega)
  have e1 := hel 1 _ rfl
  have e1' : DataW.trod enc Try.prog w base spare held m 22 [k1] = some y1 := by
   have hc : Try.prog.cellsOf 22 = 1 := by kernel_rfl
   simpa [hc] using e1
  have hm1 : Rows.uptoBulk y1.1 ≤ Rows.uptoBulkAll ([y0, y1, y2, y3].map Prod.fst) := bulk_mem (by simp)
  obtain ⟨a1, c1, l1, rfl, q1, r1⟩ := open_steps e1' (by omega)
  have e2 := hel 2 _ rfl
  have e2' : DataW.trod enc Try.prog w base spare held m 22 [k2] = some y2 := by
   have hc : Try.prog.cellsOf 22 = 1 := by kernel_rfl
   simpa [hc] using e2
  have hm2 : Rows.uptoBulk y2.1 ≤ Rows.uptoBulkAll ([y0, y1, y2, y3].map Prod.fst) := bulk_mem (by simp)
  obtain ⟨a2, c2, l2, rfl, q2, r2⟩ := open_steps e2' (by omega)
  have e3 := hel 3 _ rfl
  have e3' : DataW.trod enc Try.prog w base spare held m 22 [k3] = some y3 := by
   have hc : Try.prog.cellsOf 22 = 1 := by kernel_rfl
   simpa [hc] using e3
  have hm3 : Rows.uptoBulk y3.1 ≤ Rows.uptoBulkAll ([y0, y1, y2, y3].map Prod.fst) := bulk_mem (by simp)
  obtain ⟨a3, c3, l3, rfl, q3, r3⟩ := open_steps e3' (by omega)
  exact ⟨a0, c0, l0, a1, c1, l1, a2, c2, l2, a3, c3, l3, rfl, ⟨q0, r0⟩, ⟨q1, r1⟩, ⟨q2, r2⟩, ⟨q3, r3⟩⟩
theorem cert_of {H : Type} {enc : TypeId × Value → H} {W : World} {base : Nat} {v : Value} {d : DataW H} {p : List MemPlace} (hv : Value.okWide Try.prog W .any base 35 v) (h : DataW.Trod enc Try.prog W 0 (fun _ => true) true 35 v d p) (hb : Rows.uptoBulk d ≤ 1048576) :
  ∃ xa xc prs ba bc bcl sa sc scl oa oc ocl, v = .agg #[.slice xa (List.length prs) xc, .slice ba (List.length bcl) bc, .slice sa (List.length scl) sc, .slice oa (List.length ocl) oc] ∧ (RowAt W.heap.size W xa 2 (prs.map AndD.cells) ∧ prs.length ≤ 400000) ∧ (ClAt W.heap.size W ba bcl ∧ total bcl ≤ 1048576) ∧ (ClAt W.heap.size W sa scl ∧ total scl ≤ 1048576) ∧ (ClAt W.heap.size W oa ocl ∧ total ocl ≤ 1048576) := by
 obtain ⟨cs, rfl, _⟩ := okWide_struct Try.underlying35 hv
 obtain ⟨fuel, ht⟩ := h
 obtain ⟨xa, xc, prs, ba, bc, bcl, sa, sc, scl, oa, oc, ocl, hc, hr⟩ := open_cert ht hb
 refine ⟨xa, xc, prs, ba, bc, bcl, sa, sc, scl, oa, oc, ocl, ?_, hr⟩
 have : cs.toList = (#[.slice xa (List.length prs) xc, .slice ba (List.length bcl) bc, .slice sa (List.length scl) sc, .slice oa (List.length ocl) oc] : Array Value).toList := by simpa [Value.cells] using hc
 rw [Array.toList_inj.1 this]
end Go.Proofs.Ytefjicdhccfieaa
