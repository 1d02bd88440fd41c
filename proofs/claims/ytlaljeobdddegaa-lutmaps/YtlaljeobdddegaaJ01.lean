import Derived.Test.YtlaljeobdddegaaRows
import Derived.WalkKit
import Derived.WalkSpells
import Derived.WalkLawsBesides
import Derived.Deep.QuietTactic
import Derived.BigQuiet
namespace Go.Proofs.Ytlaljeobdddegaa
open Go.RowKit
theorem ret_bool {a b:Bool} (h:a=b):Ending.returned (.bool a) = .returned (.bool b):=by rw [h]
theorem ret_int {k:IntKind} {a b:Int} (h:a=b):Ending.returned (.int k a) = .returned (.int k b):=by rw [h]
theorem wrapI (x:Int) (h0:-9223372036854775808≤x) (h1:x<9223372036854775808):IntKind.i64.wrap x=x:=by
 rw [IntKind.wrap_i64];omega
theorem hidden {p:Prop} (h:p):Hid p:=h
theorem Below.drewN {B:Nat} {a w:World} (h:Below B a w) (n:Nat):Below B a (w.drewN n):=⟨h.os,h.tape,h.output,h.size,h.block⟩
theorem take_next {α:Type} (l:List α) (k:Nat) (x:α) (h:l[k]?=some x):l.take (k+1)=l.take k++[x]:=by
 rw [List.take_add_one,h];rfl
theorem all_next {α:Type} (p:α→Bool) (l:List α) (k:Nat) (x:α) (h:l[k]?=some x):(l.take (k+1)).all p=((l.take k).all p && p x):=by
 rw [take_next l k x h,List.all_append];simp
theorem range_next (p:Nat→Bool) (k:Nat):(List.range (k+1)).all p=((List.range k).all p && p k):=by
 rw [List.range_succ,List.all_append];simp
def RowAt (B:Nat) (w:World) (a:Option Addr) (sz:Nat) (els:List (List Value)):Prop :=
 els≠[]→∃ b o,a=some ⟨b,o,none⟩∧b<B∧∀ (i:Nat) (cs:List Value),els[i]?=some cs→∀ (j:Nat) (x:Value),cs[j]?=some x→w.cell? ⟨b,o+i*sz+j,none⟩=some x
theorem RowAt.to {B:Nat} {w w':World} {a:Option Addr} {sz:Nat} {els:List (List Value)} (h:RowAt B w a sz els) (hb:Below B w w'):RowAt B w' a sz els:=fun he=>by
 obtain ⟨b,o,ha,hlt,hc⟩:=h he
 exact ⟨b,o,ha,hlt,fun i cs h1 j x h2=>(hb.cell (p:=⟨b,o+i*sz+j,none⟩) hlt).trans (hc i cs h1 j x h2)⟩
theorem RowAt.mono {B B':Nat} {w:World} {a:Option Addr} {sz:Nat} {els:List (List Value)} (h:RowAt B w a sz els) (hb:B≤B'):RowAt B' w a sz els:=fun he=>by
 obtain ⟨b,o,ha,hlt,hc⟩:=h he
 exact ⟨b,o,ha,Nat.lt_of_lt_of_le hlt hb,hc⟩
theorem RowAt.el {B:Nat} {w:World} {a:Option Addr} {sz:Nat} {α:Type} {f:α→List Value} {xs:List α} (h:RowAt B w a sz (xs.map f)) {i:Nat} {x:α} (hx:xs[i]?=some x) :
  ∃ b o,a=some ⟨b,o,none⟩∧b<B∧∀ (j:Nat) (v:Value),(f x)[j]?=some v→w.cell? ⟨b,o+i*sz+j,none⟩=some v:=by
 obtain ⟨b,o,ha,hlt,hc⟩:=h (by intro e;have:xs=[]:=List.map_eq_nil_iff.1 e;rw [this] at hx;simp at hx)
 exact ⟨b,o,ha,hlt,hc i (f x) (by simp [hx])⟩
def intC (x:Int):List Value:=[.int .i64 x]
structure LatD where
 next:Int
 init:Bool
def LatD.cells (d:LatD):List Value:=[.int .i64 d.next,.bool d.init]
structure AndD where
 x:Int
 y:Int
def AndD.cells (d:AndD):List Value:=[.int .i64 d.x,.int .i64 d.y]
structure GrD where
 ins:Int
 lats:List LatD
 ands:List AndD
 outs:List Int
structure GrS where
 a1:Option Addr
 c1:Nat
 a2:Option Addr
 c2:Nat
 a3:Option Addr
 c3:Nat
def GrS.cells (S:GrS) (G:GrD):Array Value:=#[.int .i64 G.ins,.slice S.a1 G.lats.length S.c1,.slice S.a2 G.ands.length S.c2,.slice S.a3 G.outs.length S.c3]
def big:Nat:=17592186044416
structure GrAt (B:Nat) (w:World) (S:GrS) (G:GrD):Prop where
 l:RowAt B w S.a1 2 (G.lats.map LatD.cells)
 a:RowAt B w S.a2 2 (G.ands.map AndD.cells)
 o:RowAt B w S.a3 1 (G.outs.map intC)
 ll:G.lats.length<big
 la:G.ands.length<big
 lo:G.outs.length<big
theorem GrAt.to {B:Nat} {w w':World} {S:GrS} {G:GrD} (h:GrAt B w S G) (hb:Below B w w'):GrAt B w' S G :=
 ⟨h.l.to hb,h.a.to hb,h.o.to hb,h.ll,h.la,h.lo⟩
theorem GrAt.mono {B B':Nat} {w:World} {S:GrS} {G:GrD} (h:GrAt B w S G) (hb:B≤B'):GrAt B' w S G :=
 ⟨h.l.mono hb,h.a.mono hb,h.o.mono hb,h.ll,h.la,h.lo⟩
def GrD.first (G:GrD):Int:=1+G.ins+G.lats.length
def GrD.vars (G:GrD):Int:=G.first+G.ands.length
def litOk (n l:Int):Bool:=decide (0≤l∧l<2*n)
def GrD.small (G:GrD):Prop:=0≤G.ins∧G.ins≤60000∧G.lats.length≤6000∧G.outs.length≤60000∧G.vars≤60000
instance (G:GrD):Decidable G.small:=by unfold GrD.small;infer_instance
def andOk (G:GrD) (i:Nat):Bool:=match G.ands[i]? with | some d=>litOk (G.first+i) d.x && litOk (G.first+i) d.y | none=>true
def latOk (G:GrD) (d:LatD):Bool:=litOk G.vars d.next
def GrOk (G:GrD):Bool:=decide G.small && (List.range G.ands.length).all (andOk G) && G.lats.all (latOk G) && G.outs.all (litOk G.vars)
set_option maxHeartbeats 4000000 in
theorem vars_any (w:World) (S:GrS) (G:GrD) (h0:0≤G.ins) (h1:G.ins≤60000) (h2:G.lats.length<big) (h3:G.ands.length<big) :
  Calls Try.prog 16 #[.agg (S.cells G)] w fun e w'=>e = .returned (.int .i64 G.vars)∧Below w.heap.size w w':=by
 unfold GrS.cells
 simp only [big] at h2 h3
 go_enter Try.func16,Try.ntmps16
 go_wp2
 go_ret
 refine ⟨ret_int ?_,(Below.refl _ _).alloc (Nat.le_refl _) _⟩
 simp only [GrD.vars,GrD.first]
end Go.Proofs.Ytlaljeobdddegaa

namespace Go.Proofs.Ytlaljeobdddegaa
open Go.RowKit
set_option maxRecDepth 100000 in
set_option maxHeartbeats 16000000 in
theorem graphValid_small (B:Nat) (w:World) (S:GrS) (G:GrD) (h:GrAt B w S G) (hs:¬ G.small) :
  Calls Try.prog 6 #[.agg (S.cells G)] w fun e w'=>e = .returned (.bool false)∧Below w.heap.size w w':=by
 have l1:=hidden h.ll
 have l2:=hidden h.la
 have l3:=hidden h.lo
 have hcs:G.ins<0∨(0≤G.ins∧60000<G.ins)∨(0≤G.ins∧G.ins≤60000∧6000<(G.lats.length:Int))∨(0≤G.ins∧G.ins≤60000∧(G.lats.length:Int)≤6000∧60000<(G.outs.length:Int))∨(0≤G.ins∧G.ins≤60000∧(G.lats.length:Int)≤6000∧(G.outs.length:Int)≤60000∧60000<G.vars):=by
  unfold GrD.small at hs;omega
 have VA:Hid (0≤G.ins→G.ins≤60000→∀ w,Calls Try.prog 16 #[.agg (S.cells G)] w fun e w'=>e = .returned (.int .i64 G.vars)∧Below w.heap.size w w'):=fun h0 h1 w=>vars_any w S G h0 h1 h.ll h.la
 generalize G.vars=n at *
 clear hs h l1 l2 l3
 unfold GrS.cells at *
 rcases hcs with g1 | ⟨g0,g1⟩ | ⟨g0,g1,g2⟩ | ⟨g0,g1,g2,g3⟩ | ⟨g0,g1,g2,g3,g4⟩
 all_goals
  go_enter Try.func6,Try.ntmps6
  go_wp2_with (go_at_call 16;refine (VA.out g0 g1 _).mono ?_;rintro e w2 ⟨rfl,hb2⟩)
  go_ret
  first
  | exact ⟨rfl,(Below.refl _ _).alloc (Nat.le_refl _) _⟩
  | exact ⟨rfl,((Below.refl _ _).alloc (Nat.le_refl _) _).trans (hb2.mono (by simp))⟩
end Go.Proofs.Ytlaljeobdddegaa
