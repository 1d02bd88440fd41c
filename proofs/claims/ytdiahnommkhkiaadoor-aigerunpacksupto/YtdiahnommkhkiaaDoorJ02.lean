import Derived.Test.YtdiahnommkhkiaaDoorJ01
import Derived.Deep.Cut
import Derived.OwnWalk
import Derived.Deep.AppendLies
namespace Go.Proofs.YtdiahnommkhkiaaDoor
open Go.RowKit

theorem getElem_lt {α : Type} {l : List α} {k : Nat} (h : k < l.length) : ∃ d, l[k]? = some d := ⟨l[k], List.getElem?_eq_getElem h⟩
theorem andOk_of {G : GrD} {k : Nat} {d : AndD} (h : G.ands[k]? = some d) : andOk G k = (litOk (G.first + k) d.x && litOk (G.first + k) d.y) := by
  unfold andOk; rw [h]
structure BoxAt (w : World) (p : Nat) (S : GrS) (G : GrD) : Prop where
  lt : p < w.heap.size
  c0 : w.cell? ⟨p, 0, none⟩ = some (.int .i64 G.ins)
  c1 : w.cell? ⟨p, 1, none⟩ = some (.slice S.a1 G.lats.length S.c1)
  c2 : w.cell? ⟨p, 2, none⟩ = some (.slice S.a2 G.ands.length S.c2)
  c3 : w.cell? ⟨p, 3, none⟩ = some (.slice S.a3 G.outs.length S.c3)
theorem BoxAt.to {B : Nat} {w w' : World} {p : Nat} {S : GrS} {G : GrD} (h : BoxAt w p S G) (hp : p < B) (hb : Below B w w') : BoxAt w' p S G :=
  ⟨Nat.lt_of_lt_of_le h.lt hb.size, (hb.cell (p := ⟨p, 0, none⟩) hp).trans h.c0, (hb.cell (p := ⟨p, 1, none⟩) hp).trans h.c1, (hb.cell (p := ⟨p, 2, none⟩) hp).trans h.c2, (hb.cell (p := ⟨p, 3, none⟩) hp).trans h.c3⟩
def tinyG : GrD := ⟨2, [⟨8, true⟩], [⟨4, 2⟩, ⟨6, 3⟩, ⟨9, 9⟩], [9, 12]⟩
/-- cells in a block, one after the other -/
theorem rowAt_flat {B : Nat} {w : World} {b sz : Nat} {els : List (List Value)} (hb : b < B) (hs : ∀ l, l ∈ els → l.length = sz) (h : ∀ (m : Nat) (v : Value), els.flatten[m]? = some v → w.cell? ⟨b, m, none⟩ = some v) : RowAt B w (some ⟨b, 0, none⟩) sz els := by
  intro hne
  refine ⟨b, 0, rfl, hb, fun i cs hi j x hx => ?_⟩
  rw [Nat.zero_add]
  apply h
  clear h
  induction els generalizing i with
  | nil => simp at hi
  | cons l r ih =>
    have hl := hs l List.mem_cons_self
    cases i with
    | zero =>
      simp at hi; subst hi
      have hj := (List.getElem?_eq_some_iff.1 hx).1
      rw [List.flatten_cons, List.getElem?_append_left (by omega)]
      simpa using hx
    | succ i =>
      have hi' : r[i]? = some cs := by simpa using hi
      rw [List.flatten_cons, List.getElem?_append_right (by rw [hl, Nat.succ_mul]; omega)]
      have := ih (fun l hl => hs l (List.mem_cons_of_mem _ hl)) (List.ne_nil_of_mem (List.mem_of_getElem? hi')) i hi'
      rw [hl]
      rw [show (i + 1) * sz + j - sz = i * sz + j by rw [Nat.succ_mul]; omega]
      exact this
theorem cell_new {w : World} {cs : Array Value} {t b j : Nat} (h : b = w.heap.size) : (w.alloc (.cells cs t)).cell? ⟨b, j, none⟩ = cs[j]? := by
  subst h; simp
theorem rowAt_nil {B : Nat} {w : World} {a : Option Addr} {sz : Nat} : RowAt B w a sz [] := fun h => absurd rfl h
set_option maxRecDepth 100000 in
set_option maxHeartbeats 8000000 in
theorem tiny_any (w : World) :
    Calls Tryd.prog 7 #[] w fun e w' => ∃ S, e = .returned (.agg (GrS.cells S tinyG)) ∧ GrAt w'.heap.size w' S tinyG ∧ Below w.heap.size w w' := by
  go_enter Tryd.func7, Tryd.ntmps7
  go_wp2
  generalize hW : World.alloc _ _ = W
  have HB : Hid (Below w.heap.size w W) := by
    rw [← hW]
    exact ((((Below.refl _ _).alloc (Nat.le_refl _) _ |>.alloc (by simp) _ |>.alloc (by simp; omega) _) |>.alloc (by simp; omega) _) |>.alloc (by simp; omega) _)
  have hs : W.heap.size = w.heap.size + 5 := by rw [← hW]; simp
  have z : ∀ j, W.cell? ⟨w.heap.size, j, none⟩ = (#[.int .i64 2, .slice (some ⟨w.heap.size + 1 + 1, 0, none⟩) 1 1, .slice (some ⟨w.heap.size + 1 + 1 + 1, 0, none⟩) 3 3, .slice (some ⟨w.heap.size + 1 + 1 + 1 + 1, 0, none⟩) 2 2] : Array Value)[j]? := by intro j; rw [← hW, World.cell?_alloc_lt _ _ _ (by first | (simp; done) | (simp; omega)), World.cell?_alloc_lt _ _ _ (by first | (simp; done) | (simp; omega)), World.cell?_alloc_lt _ _ _ (by first | (simp; done) | (simp; omega)), World.cell?_alloc_lt _ _ _ (by first | (simp; done) | (simp; omega))]; exact cell_new (by simp)
  have zl : ∀ j, W.cell? ⟨w.heap.size + 1 + 1, j, none⟩ = (#[.int .i64 8, .bool true] : Array Value)[j]? := by intro j; rw [← hW, World.cell?_alloc_lt _ _ _ (by first | (simp; done) | (simp; omega)), World.cell?_alloc_lt _ _ _ (by first | (simp; done) | (simp; omega))]; exact cell_new (by simp)
  have za : ∀ j, W.cell? ⟨w.heap.size + 1 + 1 + 1, j, none⟩ = (#[.int .i64 4, .int .i64 2, .int .i64 6, .int .i64 3, .int .i64 9, .int .i64 9] : Array Value)[j]? := by intro j; rw [← hW, World.cell?_alloc_lt _ _ _ (by first | (simp; done) | (simp; omega))]; exact cell_new (by simp)
  have zo : ∀ j, W.cell? ⟨w.heap.size + 1 + 1 + 1 + 1, j, none⟩ = (#[.int .i64 9, .int .i64 12] : Array Value)[j]? := by intro j; rw [← hW]; exact cell_new (by simp)
  clear hW
  have z0 := z 0
  have z1 := z 1
  have z2 := z 2
  have z3 := z 3
  simp at z0 z1 z2 z3
  refine bodyPost_ret (v := .agg #[.int .i64 2, .slice (some ⟨w.heap.size + 1 + 1, 0, none⟩) 1 1, .slice (some ⟨w.heap.size + 1 + 1 + 1, 0, none⟩) 3 3, .slice (some ⟨w.heap.size + 1 + 1 + 1 + 1, 0, none⟩) 2 2]) (by simp [results, Tryd.results7, go_sem, *]) rfl ?_
  refine ⟨⟨some ⟨w.heap.size + 1 + 1, 0, none⟩, 1, some ⟨w.heap.size + 1 + 1 + 1, 0, none⟩, 3, some ⟨w.heap.size + 1 + 1 + 1 + 1, 0, none⟩, 2⟩, rfl, ?_, HB.out⟩
  have f : ∀ (b : Nat) (cs : Array Value) (els : List (List Value)), (∀ j, W.cell? ⟨b, j, none⟩ = cs[j]?) → els.flatten = cs.toList → ∀ (m : Nat) (v : Value), els.flatten[m]? = some v → W.cell? ⟨b, m, none⟩ = some v := by
    intro b cs els h1 h2 m v hv
    rw [h1 m, ← Array.getElem?_toList, ← h2]; exact hv
  exact ⟨rowAt_flat (by omega) (by simp [tinyG, LatD.cells]) (f _ _ _ zl rfl), rowAt_flat (by omega) (by simp [tinyG, AndD.cells]) (f _ _ _ za rfl), rowAt_flat (by omega) (by simp [tinyG, intC]) (f _ _ _ zo rfl), by simp [tinyG, big], by simp [tinyG, big], by simp [tinyG, big]⟩


end Go.Proofs.YtdiahnommkhkiaaDoor

namespace Go.Proofs.YtdiahnommkhkiaaDoor
open Go.RowKit

theorem add0 (g j : Nat) : ((⟨g, 0, none⟩ : Addr).add j) = ⟨g, j, none⟩ := by unfold Addr.add; split <;> simp_all
theorem heap_new (w : World) (o : Obj) : (w.alloc o).heap[w.heap.size]? = some o := by unfold World.alloc; simp
theorem grown_plain {V wr w5 : World} (h : Below V.heap.size V wr) {o : Obj} {e : TypeId} {size n : Nat} {v : Value} {xs : List Value} (HO : wr.ownsRow V.heap.size e size v n xs) (hg : (wr.alloc o).grownBy w5 v.ownBlock) : Below V.heap.size V w5 :=
  (h.alloc h.size o).grown hg (Nat.le_trans h.size (by simp)) (fun k hk => (HO.lt k hk).1)
/-- two rows that are not one -/
def Sep (a b : Value) : Prop := a.ownBlock = none ∨ b.ownBlock = none ∨ a.ownBlock ≠ b.ownBlock
theorem Sep.other {a b : Value} (h : Sep a b) : b.ownBlock = none ∨ b.ownBlock ≠ a.ownBlock := by
  rcases h with h | h | h
  · rw [h]; cases hb : b.ownBlock with
    | none => exact .inl rfl
    | some x => exact .inr (by simp)
  · exact .inl h
  · exact .inr (Ne.symm h)
theorem Sep.symm {a b : Value} (h : Sep a b) : Sep b a := by
  rcases h with h | h | h
  · exact .inr (.inl h)
  · exact .inl h
  · exact .inr (.inr (Ne.symm h))
theorem own_below {w w' : World} {B e size n : Nat} {v : Value} {xs : List Value} (h : w.ownsRow B e size v n xs) (hb : Below w.heap.size w w') : w'.ownsRow B e size v n xs :=
  h.kept (row := none) ⟨hb.os, hb.tape, hb.output, hb.size, fun k hk _ => hb.block k hk⟩ (by
    cases hv : v.ownBlock with
    | none => exact .inl rfl
    | some x => exact .inr (by simp))
theorem own_mono {w : World} {C C' e size n : Nat} {v : Value} {xs : List Value} (h : w.ownsRow C e size v n xs) (hc : C' ≤ C) : w.ownsRow C' e size v n xs := by
  refine ⟨h.1, ?_⟩
  rcases h.2 with hn | ⟨g, cap, cur, rfl, hg, rest⟩
  · exact .inl hn
  · exact .inr ⟨g, cap, cur, rfl, Nat.le_trans hc hg, rest⟩
theorem grown_refl (w : World) (row : Option Nat) : w.grownBy w row := ⟨rfl, rfl, rfl, Nat.le_refl _, fun _ _ _ => rfl⟩
theorem grown_trans {a b c : World} {row : Option Nat} (h : a.grownBy b row) (h2 : b.grownBy c row) : a.grownBy c row :=
  ⟨h2.os.trans h.os, h2.tape.trans h.tape, h2.output.trans h.output, Nat.le_trans h.size h2.size, fun k hk hr => (h2.block k (Nat.lt_of_lt_of_le hk h.size) hr).trans (h.block k hk hr)⟩
theorem below_grown {wc w' : World} {row : Option Nat} {C : Nat} (hg : wc.grownBy w' row) (hC : C ≤ wc.heap.size) (hr : ∀ k, row = some k → C ≤ k) : Below C wc w' :=
  (Below.refl C wc).grown hg hC hr
theorem set_mid {α : Type} (a : List α) (x y : α) (r : List α) : (a ++ x :: r).set a.length y = a ++ y :: r := by
  induction a with
  | nil => rfl
  | cons h t ih => simp only [List.cons_append, List.length_cons, List.set_cons_succ, ih]
theorem none_below {w w' : World} (h : w.grownBy w' none) : Below w.heap.size w w' := ⟨h.os, h.tape, h.output, h.size, fun k hk => h.block k hk (by simp)⟩
theorem RowAt.intR {B : Nat} {w : World} {a : Option Addr} {l : List Int} (h : RowAt B w a 1 (l.map intC)) {i : Nat} {x : Int} (hx : l[i]? = some x) : ∃ b o, a = some ⟨b, o, none⟩ ∧ b < B ∧ w.cell? ⟨b, o + i, none⟩ = some (.int .i64 x) := by
  obtain ⟨b, o, ha, hlt, hc⟩ := h.el hx
  refine ⟨b, o, ha, hlt, ?_⟩
  have := hc 0 (.int .i64 x) rfl
  simpa using this


end Go.Proofs.YtdiahnommkhkiaaDoor
