import Derived.Test.YtefjicdhccfieaaRows
import Derived.WalkKit
import Derived.WalkSpells
import Derived.WalkLawsBesides
import Derived.Deep.QuietTactic
import Derived.BigQuiet
import Derived.Test.YtefjicdhccfieaaSaA
namespace Go.Proofs.Ytefjicdhccfieaa
open Go.RowKit

structure LatD where
  next : Int
  init : Bool
def LatD.cells (d : LatD) : List Value := [.int .i64 d.next, .bool d.init]
structure AndD where
  x : Int
  y : Int
def AndD.cells (d : AndD) : List Value := [.int .i64 d.x, .int .i64 d.y]
structure GrD where
  ins : Int
  lats : List LatD
  ands : List AndD
  outs : List Int
/-- the three slices -/
structure GrS where
  a1 : Option Addr
  c1 : Nat
  a2 : Option Addr
  c2 : Nat
  a3 : Option Addr
  c3 : Nat
def GrS.cells (S : GrS) (G : GrD) : Array Value := #[.int .i64 G.ins, .slice S.a1 G.lats.length S.c1, .slice S.a2 G.ands.length S.c2, .slice S.a3 G.outs.length S.c3]
structure GrAt (B : Nat) (w : World) (S : GrS) (G : GrD) : Prop where
  l : RowAt B w S.a1 2 (G.lats.map LatD.cells)
  a : RowAt B w S.a2 2 (G.ands.map AndD.cells)
  o : RowAt B w S.a3 1 (G.outs.map intC)
  ll : G.lats.length < big
  la : G.ands.length < big
  lo : G.outs.length < big
theorem GrAt.to {B : Nat} {w w' : World} {S : GrS} {G : GrD} (h : GrAt B w S G) (hb : Below B w w') : GrAt B w' S G :=
  ⟨h.l.to hb, h.a.to hb, h.o.to hb, h.ll, h.la, h.lo⟩
theorem GrAt.mono {B B' : Nat} {w : World} {S : GrS} {G : GrD} (h : GrAt B w S G) (hb : B ≤ B') : GrAt B' w S G :=
  ⟨h.l.mono hb, h.a.mono hb, h.o.mono hb, h.ll, h.la, h.lo⟩

/-- the variable of the first gate; how many variables there are -/
def GrD.first (G : GrD) : Int := 1 + G.ins + G.lats.length
def GrD.vars (G : GrD) : Int := G.first + G.ands.length
def litOkG (n l : Int) : Bool := decide (0 ≤ l ∧ l < 2 * n)
def GrD.small (G : GrD) : Prop := 0 ≤ G.ins ∧ G.ins ≤ 60000 ∧ G.lats.length ≤ 6000 ∧ G.outs.length ≤ 60000 ∧ G.vars ≤ 60000
instance (G : GrD) : Decidable G.small := by unfold GrD.small; infer_instance
def andOk (G : GrD) (i : Nat) : Bool := match G.ands[i]? with | some d => litOkG (G.first + i) d.x && litOkG (G.first + i) d.y | none => true
def latOk (G : GrD) (d : LatD) : Bool := litOkG G.vars d.next
def GrOk (G : GrD) : Bool := decide G.small && (List.range G.ands.length).all (andOk G) && G.lats.all (latOk G) && G.outs.all (litOkG G.vars)

set_option maxHeartbeats 4000000 in
theorem vars_any (w : World) (S : GrS) (G : GrD) (h0 : 0 ≤ G.ins) (h1 : G.ins ≤ 60000) (h2 : G.lats.length < big) (h3 : G.ands.length < big) :
    Calls Try.prog 52 #[.agg (S.cells G)] w fun e w' => e = .returned (.int .i64 G.vars) ∧ Below w.heap.size w w' := by
  unfold GrS.cells
  simp only [big] at h2 h3
  go_enter Try.func52, Try.ntmps52
  go_wp2
  go_ret
  refine ⟨ret_int ?_, (Below.refl _ _).alloc (Nat.le_refl _) _⟩
  simp only [GrD.vars, GrD.first]

end Go.Proofs.Ytefjicdhccfieaa
