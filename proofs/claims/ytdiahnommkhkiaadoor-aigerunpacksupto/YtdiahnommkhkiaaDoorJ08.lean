import Derived.Test.YtdiahnommkhkiaaDoorProg
import Derived.Shelf.Strings.Search3
import Derived.Shelf.Strings.Cut
import Derived.Shelf.Strings.Split
import Derived.Test.YtdiahnommkhkiaaDoorJ04
import Derived.Test.YtdiahnommkhkiaaDoorJ07
namespace Go.Proofs
open Go.Shelf
def Tryd.lays144_ren : Go.Shelf.Ren := ⟨fun | 144 => 72 | 143 => 75 | 219 => 73 | 217 => 76 | 225 => 77 | 224 => 78 | 267 => 79 | 266 => 82 | 314 => 83 | n => n, fun | 9 => 9 | 4 => 4 | 3 => 3 | 5 => 5 | 46 => 138 | 146 => 141 | 51 => 140 | n => n, fun | 1 => 1 | n => n⟩
theorem Tryd.lays144 : Go.Proofs.Lays.n144 Tryd.prog Tryd.lays144_ren := {
  mixed := by kernel_rfl
  f143 := Tryd.func75.trans (congrArg some (by kernel_rfl))
  f144 := Tryd.func72.trans (congrArg some (by kernel_rfl))
  f217 := Tryd.func76.trans (congrArg some (by kernel_rfl))
  f219 := Tryd.func73.trans (congrArg some (by kernel_rfl))
  f224 := Tryd.func78.trans (congrArg some (by kernel_rfl))
  f225 := Tryd.func77.trans (congrArg some (by kernel_rfl))
  f266 := Tryd.func82.trans (congrArg some (by kernel_rfl))
  f267 := Tryd.func79.trans (congrArg some (by kernel_rfl))
  f314 := Tryd.func83.trans (congrArg some (by kernel_rfl))
  t3 := Tryd.underlying3
  a3 := Tryd.isAgg3
  z3 := Tryd.sizeOf3
  v3 := Tryd.zeroValue3
  t4 := Tryd.underlying4
  a4 := Tryd.isAgg4
  z4 := Tryd.sizeOf4
  v4 := Tryd.zeroValue4
  t5 := Tryd.underlying5
  a5 := Tryd.isAgg5
  z5 := Tryd.sizeOf5
  v5 := Tryd.zeroValue5
  t9 := Tryd.underlying9
  a9 := Tryd.isAgg9
  z9 := Tryd.sizeOf9
  v9 := Tryd.zeroValue9
  t46 := Tryd.underlying138
  a46 := Tryd.isAgg138
  z46 := Tryd.sizeOf138
  v46 := Tryd.zeroValue138
  t51 := Tryd.underlying140
  a51 := Tryd.isAgg140
  z51 := Tryd.sizeOf140
  v51 := Tryd.zeroValue140
  t146 := Tryd.underlying141
  a146 := Tryd.isAgg141
  z146 := Tryd.sizeOf141
  v146 := Tryd.zeroValue141
  g1 := by kernel_rfl }
open Go.RowKit Go.Lib in
theorem Tryd.strings_Contains_one (s : ByteArray) (c : UInt8) (w : World) :
    Calls Tryd.prog 72 #[.string s, .string ⟨#[c]⟩] w fun e w' => e = .returned (.bool (decide (0 ≤ Lib.indexByte s.data.toList c))) ∧ w' = w := Any.strings_Contains_one Tryd.lays144 s c w
def Tryd.lays145_ren : Go.Shelf.Ren := ⟨fun | 145 => 51 | 220 => 67 | 219 => 73 | 217 => 76 | 225 => 77 | 224 => 78 | 267 => 79 | 266 => 82 | 314 => 83 | n => n, fun | 9 => 9 | 4 => 4 | 59 => 107 | 3 => 3 | 5 => 5 | 46 => 138 | 146 => 141 | 51 => 140 | n => n, fun | 1 => 1 | n => n⟩
theorem Tryd.lays145 : Go.Proofs.Lays.n145 Tryd.prog Tryd.lays145_ren := {
  mixed := by kernel_rfl
  f145 := Tryd.func51.trans (congrArg some (by kernel_rfl))
  f217 := Tryd.func76.trans (congrArg some (by kernel_rfl))
  f219 := Tryd.func73.trans (congrArg some (by kernel_rfl))
  f220 := Tryd.func67.trans (congrArg some (by kernel_rfl))
  f224 := Tryd.func78.trans (congrArg some (by kernel_rfl))
  f225 := Tryd.func77.trans (congrArg some (by kernel_rfl))
  f266 := Tryd.func82.trans (congrArg some (by kernel_rfl))
  f267 := Tryd.func79.trans (congrArg some (by kernel_rfl))
  f314 := Tryd.func83.trans (congrArg some (by kernel_rfl))
  t3 := Tryd.underlying3
  a3 := Tryd.isAgg3
  z3 := Tryd.sizeOf3
  v3 := Tryd.zeroValue3
  t4 := Tryd.underlying4
  a4 := Tryd.isAgg4
  z4 := Tryd.sizeOf4
  v4 := Tryd.zeroValue4
  t5 := Tryd.underlying5
  a5 := Tryd.isAgg5
  z5 := Tryd.sizeOf5
  v5 := Tryd.zeroValue5
  t9 := Tryd.underlying9
  a9 := Tryd.isAgg9
  z9 := Tryd.sizeOf9
  v9 := Tryd.zeroValue9
  t46 := Tryd.underlying138
  a46 := Tryd.isAgg138
  z46 := Tryd.sizeOf138
  v46 := Tryd.zeroValue138
  t51 := Tryd.underlying140
  a51 := Tryd.isAgg140
  z51 := Tryd.sizeOf140
  v51 := Tryd.zeroValue140
  t59 := Tryd.underlying107
  a59 := Tryd.isAgg107
  z59 := Tryd.sizeOf107
  v59 := Tryd.zeroValue107
  t146 := Tryd.underlying141
  a146 := Tryd.isAgg141
  z146 := Tryd.sizeOf141
  v146 := Tryd.zeroValue141
  g1 := by kernel_rfl }
open Go.RowKit Go.Lib in
theorem Tryd.strings_Cut (s sep : ByteArray) (m : Int) (w : World) (hs : s.size < 4294967281) (hm : w.cell? ⟨1, 0, none⟩ = some (.int .i64 m)) :
    Calls Tryd.prog 51 #[.string s, .string sep] w fun e w' => e = .returned (.tuple #[.string ⟨(Lib.cut s.data.toList sep.data.toList).1.toArray⟩, .string ⟨(Lib.cut s.data.toList sep.data.toList).2.1.toArray⟩, .bool (Lib.cut s.data.toList sep.data.toList).2.2]) ∧ ∃ n, w' = w.drewN n := Any.strings_Cut Tryd.lays145 s sep m w hs hm
def Tryd.lays147_ren : Go.Shelf.Ren := ⟨fun | 147 => 69 | 221 => 74 | 268 => 80 | 138 => 81 | 143 => 75 | 195 => 84 | 197 => 85 | 218 => 86 | 219 => 73 | 260 => 87 | 217 => 76 | 225 => 77 | 224 => 78 | 267 => 79 | 266 => 82 | 314 => 83 | n => n, fun | 9 => 9 | 3 => 3 | 31 => 55 | 4 => 4 | 0 => 0 | 105 => 143 | 21 => 21 | 5 => 5 | 46 => 138 | 119 => 145 | 139 => 148 | 138 => 147 | 146 => 141 | 51 => 140 | n => n, fun | 1 => 1 | 3 => 2 | 4 => 3 | n => n⟩
theorem Tryd.lays147 : Go.Proofs.Lays.n147 Tryd.prog Tryd.lays147_ren := {
  mixed := by kernel_rfl
  f138 := Tryd.func81.trans (congrArg some (by kernel_rfl))
  f143 := Tryd.func75.trans (congrArg some (by kernel_rfl))
  f147 := Tryd.func69.trans (congrArg some (by kernel_rfl))
  f195 := Tryd.func84.trans (congrArg some (by kernel_rfl))
  f197 := Tryd.func85.trans (congrArg some (by kernel_rfl))
  f217 := Tryd.func76.trans (congrArg some (by kernel_rfl))
  f218 := Tryd.func86.trans (congrArg some (by kernel_rfl))
  f219 := Tryd.func73.trans (congrArg some (by kernel_rfl))
  f221 := Tryd.func74.trans (congrArg some (by kernel_rfl))
  f224 := Tryd.func78.trans (congrArg some (by kernel_rfl))
  f225 := Tryd.func77.trans (congrArg some (by kernel_rfl))
  f260 := Tryd.func87.trans (congrArg some (by kernel_rfl))
  f266 := Tryd.func82.trans (congrArg some (by kernel_rfl))
  f267 := Tryd.func79.trans (congrArg some (by kernel_rfl))
  f268 := Tryd.func80.trans (congrArg some (by kernel_rfl))
  f314 := Tryd.func83.trans (congrArg some (by kernel_rfl))
  t0 := Tryd.underlying0
  a0 := Tryd.isAgg0
  z0 := Tryd.sizeOf0
  v0 := Tryd.zeroValue0
  t3 := Tryd.underlying3
  a3 := Tryd.isAgg3
  z3 := Tryd.sizeOf3
  v3 := Tryd.zeroValue3
  t4 := Tryd.underlying4
  a4 := Tryd.isAgg4
  z4 := Tryd.sizeOf4
  v4 := Tryd.zeroValue4
  t5 := Tryd.underlying5
  a5 := Tryd.isAgg5
  z5 := Tryd.sizeOf5
  v5 := Tryd.zeroValue5
  t9 := Tryd.underlying9
  a9 := Tryd.isAgg9
  z9 := Tryd.sizeOf9
  v9 := Tryd.zeroValue9
  t21 := Tryd.underlying21
  a21 := Tryd.isAgg21
  z21 := Tryd.sizeOf21
  v21 := Tryd.zeroValue21
  t31 := Tryd.underlying55
  a31 := Tryd.isAgg55
  z31 := Tryd.sizeOf55
  v31 := Tryd.zeroValue55
  t46 := Tryd.underlying138
  a46 := Tryd.isAgg138
  z46 := Tryd.sizeOf138
  v46 := Tryd.zeroValue138
  t51 := Tryd.underlying140
  a51 := Tryd.isAgg140
  z51 := Tryd.sizeOf140
  v51 := Tryd.zeroValue140
  t105 := Tryd.underlying143
  a105 := Tryd.isAgg143
  z105 := Tryd.sizeOf143
  v105 := Tryd.zeroValue143
  t119 := Tryd.underlying145
  a119 := Tryd.isAgg145
  z119 := Tryd.sizeOf145
  t138 := Tryd.underlying147
  a138 := Tryd.isAgg147
  z138 := Tryd.sizeOf147
  v138 := Tryd.zeroValue147
  t139 := Tryd.underlying148
  a139 := Tryd.isAgg148
  z139 := Tryd.sizeOf148
  v139 := Tryd.zeroValue148
  t146 := Tryd.underlying141
  a146 := Tryd.isAgg141
  z146 := Tryd.sizeOf141
  v146 := Tryd.zeroValue141
  g1 := by kernel_rfl
  g3 := by kernel_rfl
  g4 := by kernel_rfl }
open Go.RowKit Go.Lib in
theorem Tryd.strings_SplitN (s sep : ByteArray) (n : Nat) (m : Int) (w : World) (hs : s.size < 4294967281) (hm : w.cell? ⟨1, 0, none⟩ = some (.int .i64 m)) (h1 : 1 ≤ sep.size) (hn : 1 ≤ n) (hn63 : n ≤ 9223372036854775807) :
    Calls Tryd.prog 69 #[.string s, .string sep, .int .i64 n] w fun e w' =>
      e = .returned (.slice (some ⟨w.heap.size, 0, none⟩) (Lib.splitB sep 0 (min n (s.size + 1) - 1) s).length (min n (s.size + 1))) ∧ w' = w.alloc (.cells (Lib.cellsOf (Lib.splitB sep 0 (min n (s.size + 1) - 1) s) (min n (s.size + 1))) 9) := Any.strings_SplitN Tryd.lays147 (by kernel_rfl) s sep n m w hs hm h1 hn hn63
end Go.Proofs

namespace Go.Proofs.YtdiahnommkhkiaaDoor
open Go.RowKit

/-- a reader -/
structure RdS where
  lay : Int
  h0 : Int
  h1 : Int
  h2 : Int
  h3 : Int
  h4 : Int
  T : List UInt8
  fr : Int
  ln : Int
  bg : Int
def RdS.cells (R : RdS) : Array Value := #[.int .i64 R.lay, .int .i64 R.h0, .int .i64 R.h1, .int .i64 R.h2, .int .i64 R.h3, .int .i64 R.h4, .string (bs R.T), .int .i64 R.fr, .int .i64 R.ln, .int .i64 R.bg]
def RdAt (w : World) (r : Nat) (R : RdS) : Prop := w.heap[r]? = some (.cells R.cells 81 (0, 0))
theorem RdAt.cell {w : World} {r : Nat} {R : RdS} (h : RdAt w r R) (j : Nat) : w.cell? ⟨r, j, none⟩ = R.cells[j]? := by
  unfold RdAt at h; simp [World.cell?, h]
theorem RdAt.fz {w : World} {r : Nat} {R : RdS} (h : RdAt w r R) (j : Nat) : w.frozen? ⟨r, j, none⟩ = false := by
  unfold RdAt at h; simp [World.frozen?, h]
theorem RdAt.lt {w : World} {r : Nat} {R : RdS} (h : RdAt w r R) : r < w.heap.size := by
  unfold RdAt at h
  rcases Nat.lt_or_ge r w.heap.size with h' | h'
  · exact h'
  · simp [Array.getElem?_eq_none h'] at h
theorem RdAt.to {w w' : World} {r : Nat} {R : RdS} (h : RdAt w r R) (hb : Below w.heap.size w w') : RdAt w' r R := (hb.block r h.lt).trans h
theorem set_self {w : World} {b o : Nat} {u : Value} {cs : Array Value} {t : TypeId} (h : w.heap[b]? = some (.cells cs t (0, 0))) : (w.setCell ⟨b, o, none⟩ u).heap[b]? = some (.cells (cs.setIfInBounds o u) t (0, 0)) := by
  simp [World.setCell, Array.getElem?_modify, h]
theorem RdAt.fr {w : World} {r : Nat} {R : RdS} (h : RdAt w r R) (x : Int) : RdAt (w.setCell ⟨r, 7, none⟩ (.int .i64 x)) r { R with fr := x } := (set_self h).trans rfl
theorem RdAt.ln {w : World} {r : Nat} {R : RdS} (h : RdAt w r R) (x : Int) : RdAt (w.setCell ⟨r, 8, none⟩ (.int .i64 x)) r { R with ln := x } := (set_self h).trans rfl
theorem RdAt.bg {w : World} {r : Nat} {R : RdS} (h : RdAt w r R) (x : Int) : RdAt (w.setCell ⟨r, 9, none⟩ (.int .i64 x)) r { R with bg := x } := (set_self h).trans rfl
/-- the place of what comes next -/
def RdS.begun (R : RdS) : Int := if R.lay = 0 then R.ln + 1 else R.fr
/-- what is left as it was, but for the reader -/
theorem gset (w : World) (r j : Nat) (v : Value) : w.grownBy (w.setCell ⟨r, j, none⟩ v) (some r) :=
  ⟨rfl, rfl, rfl, by simp [World.setCell], fun k _ hne => Below.heap_setCell _ _ _ _ (fun e => hne (by rw [e]))⟩
theorem gbel {w w' : World} (h : Below w.heap.size w w') (r : Option Nat) : w.grownBy w' r := ⟨h.os, h.tape, h.output, h.size, fun k hk _ => h.block k hk⟩
theorem gcell {w w' : World} {r : Nat} (h : w.grownBy w' (some r)) {b o : Nat} (hb : b < w.heap.size) (hne : b ≠ r) : w'.cell? ⟨b, o, none⟩ = w.cell? ⟨b, o, none⟩ :=
  World.cell?_of_block (h.block b hb (fun e => hne (Option.some.inj e)))
theorem Vars.grown {w w' : World} {r : Nat} (h : Vars w) (hg : w.grownBy w' (some r)) (hr : 2 ≤ r) (h2 : 2 ≤ w.heap.size) : Vars w' :=
  ⟨(gcell hg (by omega) (by omega)).trans h.et, by obtain ⟨m, hm⟩ := h.ml; exact ⟨m, (gcell hg (by omega) (by omega)).trans hm⟩⟩
/-- a fault of the reader's is thrown -/
def Thr (w : World) (r : Nat) (x : Int) (e : Ending) (w' : World) : Prop := ∃ p, e = thrown p ∧ FtAt w' p 16 x ∧ w.heap.size ≤ p ∧ w.grownBy w' (some r)
theorem Thr.after {w w1 w' : World} {r : Nat} {x : Int} {e : Ending} (hg : w.grownBy w1 (some r)) (h : Thr w1 r x e w') : Thr w r x e w' := by
  obtain ⟨p, h1, h2, h3, h4⟩ := h
  exact ⟨p, h1, h2, Nat.le_trans hg.size h3, grown_trans hg h4⟩
set_option maxRecDepth 100000 in
theorem must_ok (r : Nat) (w : World) : Calls Tryd.prog 53 #[.pointer (some ⟨r, 0, none⟩), .bool true] w fun e w' => e = .returned (.tuple #[]) ∧ w' = w := by
  go_enter Tryd.func53, Tryd.ntmps53
  go_wp2
  go_end0
  exact ⟨rfl, rfl⟩
set_option maxRecDepth 100000 in
theorem must_no (r : Nat) (R : RdS) (w : World) (h : RdAt w r R) : Calls Tryd.prog 53 #[.pointer (some ⟨r, 0, none⟩), .bool false] w fun e w' => Thr w r R.bg e w' := by
  have c9 := h.cell 9
  simp [RdS.cells] at c9
  have TH := hidden (throw_any 16 R.bg w)
  clear h
  go_enter Tryd.func53, Tryd.ntmps53
  go_wp2_with fail
  go_at_call 68
  refine TH.out.mono ?_
  rintro e w1 ⟨rfl, hf, hb⟩
  have HF := hidden hf
  have HB := hidden hb
  clear hf hb TH c9
  unfold thrown
  go_wp2
  first | exact ⟨rfl, _, rfl, HF.out, Nat.le_refl _, gbel HB.out _⟩ | exact ⟨_, rfl, HF.out, Nat.le_refl _, gbel HB.out _⟩
theorem must_any (r : Nat) (R : RdS) (b : Bool) (w : World) (h : RdAt w r R) : Calls Tryd.prog 53 #[.pointer (some ⟨r, 0, none⟩), .bool b] w fun e w' => (b = true ∧ e = .returned (.tuple #[]) ∧ w' = w) ∨ (b = false ∧ Thr w r R.bg e w') := by
  cases b
  · exact (must_no r R w h).mono fun e w' h => .inr ⟨rfl, h⟩
  · exact (must_ok r w).mono fun e w' h => .inl ⟨rfl, h⟩
set_option maxRecDepth 100000 in
set_option maxHeartbeats 1000000 in
theorem begin_any (r : Nat) (R : RdS) (w : World) (h : RdAt w r R) (hl : 0 ≤ R.ln ∧ R.ln ≤ 2000000) : Calls Tryd.prog 50 #[.pointer (some ⟨r, 0, none⟩)] w fun e w' => e = .returned (.tuple #[]) ∧ RdAt w' r { R with bg := R.begun } ∧ w.grownBy w' (some r) := by
  have HR := hidden h
  have c0 := h.cell 0
  have c7 := h.cell 7
  have c8 := h.cell 8
  have c9 := h.cell 9
  have f9 := h.fz 9
  simp [RdS.cells] at c0 c7 c8 c9
  have h2 := h.bg R.fr
  have d0 := h2.cell 0
  have d8 := h2.cell 8
  have d9 := h2.cell 9
  have g9 := h2.fz 9
  simp [RdS.cells] at d0 d8 d9
  have e3 : IntKind.i64.wrap (R.ln + 1) = R.ln + 1 := wrapI _ (by omega) (by omega)
  have H2 := hidden h2
  clear h h2
  by_cases hl0 : R.lay = 0
  · have HL := hidden hl0
    rw [hl0] at c0 d0
    go_enter Tryd.func50, Tryd.ntmps50
    go_wp2
    go_end0
    refine ⟨rfl, ?_, grown_trans (gset _ _ _ _) (gset _ _ _ _)⟩
    rw [show R.begun = R.ln + 1 from if_pos HL.out]
    exact (H2.out.bg (R.ln + 1)).trans rfl
  · have HL := hidden hl0
    go_enter Tryd.func50, Tryd.ntmps50
    go_wp2
    go_end0
    refine ⟨rfl, ?_, gset _ _ _ _⟩
    rw [show R.begun = R.fr from if_neg HL.out]
    exact H2.out


end Go.Proofs.YtdiahnommkhkiaaDoor
