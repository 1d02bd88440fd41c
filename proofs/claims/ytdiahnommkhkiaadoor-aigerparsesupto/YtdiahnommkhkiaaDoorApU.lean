import Derived.Test.YtdiahnommkhkiaaDoorApF
import Derived.Test.YtdiahnommkhkiaaDoorApQ
import Derived.Test.YtdiahnommkhkiaaDoorShl
namespace Go.Proofs.YtdiahnommkhkiaaDoor
open Go.RowKit

/-- a reader -/
structure RdS where
  lay : Int
  h0 : Int
  h1 : Int
  h2 : Int
  h3 : Int
  h4 : Int
  T : List UInt8
  fr : Int
  ln : Int
  bg : Int
def RdS.cells (R : RdS) : Array Value := #[.int .i64 R.lay, .int .i64 R.h0, .int .i64 R.h1, .int .i64 R.h2, .int .i64 R.h3, .int .i64 R.h4, .string (bs R.T), .int .i64 R.fr, .int .i64 R.ln, .int .i64 R.bg]
def RdAt (w : World) (r : Nat) (R : RdS) : Prop := w.heap[r]? = some (.cells R.cells 81 (0, 0))
theorem RdAt.cell {w : World} {r : Nat} {R : RdS} (h : RdAt w r R) (j : Nat) : w.cell? ⟨r, j, none⟩ = R.cells[j]? := by
  unfold RdAt at h; simp [World.cell?, h]
theorem RdAt.fz {w : World} {r : Nat} {R : RdS} (h : RdAt w r R) (j : Nat) : w.frozen? ⟨r, j, none⟩ = false := by
  unfold RdAt at h; simp [World.frozen?, h]
theorem RdAt.lt {w : World} {r : Nat} {R : RdS} (h : RdAt w r R) : r < w.heap.size := by
  unfold RdAt at h
  rcases Nat.lt_or_ge r w.heap.size with h' | h'
  · exact h'
  · simp [Array.getElem?_eq_none h'] at h
theorem RdAt.to {w w' : World} {r : Nat} {R : RdS} (h : RdAt w r R) (hb : Below w.heap.size w w') : RdAt w' r R := (hb.block r h.lt).trans h
theorem set_self {w : World} {b o : Nat} {u : Value} {cs : Array Value} {t : TypeId} (h : w.heap[b]? = some (.cells cs t (0, 0))) : (w.setCell ⟨b, o, none⟩ u).heap[b]? = some (.cells (cs.setIfInBounds o u) t (0, 0)) := by
  simp [World.setCell, Array.getElem?_modify, h]
theorem RdAt.fr {w : World} {r : Nat} {R : RdS} (h : RdAt w r R) (x : Int) : RdAt (w.setCell ⟨r, 7, none⟩ (.int .i64 x)) r { R with fr := x } := (set_self h).trans rfl
theorem RdAt.ln {w : World} {r : Nat} {R : RdS} (h : RdAt w r R) (x : Int) : RdAt (w.setCell ⟨r, 8, none⟩ (.int .i64 x)) r { R with ln := x } := (set_self h).trans rfl
theorem RdAt.bg {w : World} {r : Nat} {R : RdS} (h : RdAt w r R) (x : Int) : RdAt (w.setCell ⟨r, 9, none⟩ (.int .i64 x)) r { R with bg := x } := (set_self h).trans rfl
/-- the place of what comes next -/
def RdS.begun (R : RdS) : Int := if R.lay = 0 then R.ln + 1 else R.fr
/-- what is left as it was, but for the reader -/
theorem gset (w : World) (r j : Nat) (v : Value) : w.grownBy (w.setCell ⟨r, j, none⟩ v) (some r) :=
  ⟨rfl, rfl, rfl, by simp [World.setCell], fun k _ hne => Below.heap_setCell _ _ _ _ (fun e => hne (by rw [e]))⟩
theorem gbel {w w' : World} (h : Below w.heap.size w w') (r : Option Nat) : w.grownBy w' r := ⟨h.os, h.tape, h.output, h.size, fun k hk _ => h.block k hk⟩
theorem gcell {w w' : World} {r : Nat} (h : w.grownBy w' (some r)) {b o : Nat} (hb : b < w.heap.size) (hne : b ≠ r) : w'.cell? ⟨b, o, none⟩ = w.cell? ⟨b, o, none⟩ :=
  World.cell?_of_block (h.block b hb (fun e => hne (Option.some.inj e)))
theorem Vars.grown {w w' : World} {r : Nat} (h : Vars w) (hg : w.grownBy w' (some r)) (hr : 2 ≤ r) (h2 : 2 ≤ w.heap.size) : Vars w' :=
  ⟨(gcell hg (by omega) (by omega)).trans h.et, by obtain ⟨m, hm⟩ := h.ml; exact ⟨m, (gcell hg (by omega) (by omega)).trans hm⟩⟩
/-- a fault of the reader's is thrown -/
def Thr (w : World) (r : Nat) (x : Int) (e : Ending) (w' : World) : Prop := ∃ p, e = thrown p ∧ FtAt w' p 16 x ∧ w.heap.size ≤ p ∧ w.grownBy w' (some r)
theorem Thr.after {w w1 w' : World} {r : Nat} {x : Int} {e : Ending} (hg : w.grownBy w1 (some r)) (h : Thr w1 r x e w') : Thr w r x e w' := by
  obtain ⟨p, h1, h2, h3, h4⟩ := h
  exact ⟨p, h1, h2, Nat.le_trans hg.size h3, grown_trans hg h4⟩

set_option maxRecDepth 100000 in
theorem must_ok (r : Nat) (w : World) : Calls Tryd.prog 53 #[.pointer (some ⟨r, 0, none⟩), .bool true] w fun e w' => e = .returned (.tuple #[]) ∧ w' = w := by
  go_enter Tryd.func53, Tryd.ntmps53
  go_wp2
  go_end0
  exact ⟨rfl, rfl⟩
set_option maxRecDepth 100000 in
theorem must_no (r : Nat) (R : RdS) (w : World) (h : RdAt w r R) : Calls Tryd.prog 53 #[.pointer (some ⟨r, 0, none⟩), .bool false] w fun e w' => Thr w r R.bg e w' := by
  have c9 := h.cell 9
  simp [RdS.cells] at c9
  have TH := hidden (throw_any 16 R.bg w)
  clear h
  go_enter Tryd.func53, Tryd.ntmps53
  go_wp2_with fail
  go_at_call 68
  refine TH.out.mono ?_
  rintro e w1 ⟨rfl, hf, hb⟩
  have HF := hidden hf
  have HB := hidden hb
  clear hf hb TH c9
  unfold thrown
  go_wp2
  first | exact ⟨rfl, _, rfl, HF.out, Nat.le_refl _, gbel HB.out _⟩ | exact ⟨_, rfl, HF.out, Nat.le_refl _, gbel HB.out _⟩
theorem must_any (r : Nat) (R : RdS) (b : Bool) (w : World) (h : RdAt w r R) : Calls Tryd.prog 53 #[.pointer (some ⟨r, 0, none⟩), .bool b] w fun e w' => (b = true ∧ e = .returned (.tuple #[]) ∧ w' = w) ∨ (b = false ∧ Thr w r R.bg e w') := by
  cases b
  · exact (must_no r R w h).mono fun e w' h => .inr ⟨rfl, h⟩
  · exact (must_ok r w).mono fun e w' h => .inl ⟨rfl, h⟩

set_option maxRecDepth 100000 in
set_option maxHeartbeats 1000000 in
theorem begin_any (r : Nat) (R : RdS) (w : World) (h : RdAt w r R) (hl : 0 ≤ R.ln ∧ R.ln ≤ 2000000) : Calls Tryd.prog 50 #[.pointer (some ⟨r, 0, none⟩)] w fun e w' => e = .returned (.tuple #[]) ∧ RdAt w' r { R with bg := R.begun } ∧ w.grownBy w' (some r) := by
  have HR := hidden h
  have c0 := h.cell 0
  have c7 := h.cell 7
  have c8 := h.cell 8
  have c9 := h.cell 9
  have f9 := h.fz 9
  simp [RdS.cells] at c0 c7 c8 c9
  have h2 := h.bg R.fr
  have d0 := h2.cell 0
  have d8 := h2.cell 8
  have d9 := h2.cell 9
  have g9 := h2.fz 9
  simp [RdS.cells] at d0 d8 d9
  have e3 : IntKind.i64.wrap (R.ln + 1) = R.ln + 1 := wrapI _ (by omega) (by omega)
  have H2 := hidden h2
  clear h h2
  by_cases hl0 : R.lay = 0
  · have HL := hidden hl0
    rw [hl0] at c0 d0
    go_enter Tryd.func50, Tryd.ntmps50
    go_wp2
    go_end0
    refine ⟨rfl, ?_, grown_trans (gset _ _ _ _) (gset _ _ _ _)⟩
    rw [show R.begun = R.ln + 1 from if_pos HL.out]
    exact (H2.out.bg (R.ln + 1)).trans rfl
  · have HL := hidden hl0
    go_enter Tryd.func50, Tryd.ntmps50
    go_wp2
    go_end0
    refine ⟨rfl, ?_, gset _ _ _ _⟩
    rw [show R.begun = R.fr from if_neg HL.out]
    exact H2.out

end Go.Proofs.YtdiahnommkhkiaaDoor
