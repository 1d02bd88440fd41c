import Derived.Test.YtcbcenfjigcfkaaGreatDoorRows
import Derived.WalkKit
import Derived.Deep.RegionHeld3
import Derived.Below
import Derived.WalkSpells
import Derived.WalkLawsBesides
import Derived.Deep.QuietTactic
import Derived.BigQuiet
import Derived.Deep.Cut
import Derived.OwnWalk
import Derived.Deep.AppendLies
import Derived.Laws.OwnMore
import Derived.Laws.BitsAllLaws
import Derived.Laws.BitsLemmas
import Derived.WideKeyPair
import Derived.WideKeyMaps2
import Derived.DeepKeys4
import Derived.Maps.OwnOps
set_option maxRecDepth 100000
set_option maxHeartbeats 40000000
namespace Go.Proofs.YtcbcenfjigcfkaaGreatDoor
open Go.RowKit
variable {B w:World} {C Y fuel gx i n size:Nat} {a:Option Addr} {b v:Value} {e:TypeId} {l:List Bool} {xs:List Value}
theorem bf {α:Type} {xs:List α} (h:i<xs.toArray.size):xs.toArray[i]=xs[i]'(by simpa using h):=List.getElem_toArray h
theorem bg {α:Type} {a:α} {l:List α} (h:0<(a::l).length):(a::l)[0]=a:=rfl
theorem bh {α:Type} {a:α} {l:List α} (h:i+1<(a::l).length):(a::l)[i+1]=l[i]'(Nat.lt_of_succ_lt_succ h):=rfl
theorem mP {α:Type} {xs:List α} {a:α}:xs.toArray.setIfInBounds i a=(xs.set i a).toArray:=List.setIfInBounds_toArray xs i a
theorem mh {α:Type} {x:α} {xs:List α} {a:α}:(x::xs).set 0 a=a::xs:=rfl
theorem mi {α:Type} {x:α} {xs:List α} {a:α}:(x::xs).set (i+1) a=x::xs.set i a:=rfl
theorem R {P:Program} {jL:Array Oper} {Q:Exit->Act->World->Prop} {sY:Region.Mode} {S:World->Prop} (i:Nat) {Cr:Oper} {uI:Array Bool} {a eP:Act} (h:wpAnyH P sY jL Q S fuel (uI.setIfInBounds i true) eP w) (hi:jL[i]?=some Cr:=by rfl)
    (hs:Region.noSelect jL=true:=by kernel_rfl) (ah:Region.free sY jL uI i=true:=by kernel_rfl) (ak:(Region.ready sY jL uI).contains i=true:=by kernel_rfl)
    (kW:∀c a w,Q (.panic c) (a.put Cr.dst v) w->Q (.panic c) a w:=by exact fun _ _ _ h=>h) (aw:Region.wanted Cr (yielded jL a.tmps)=true:=by rfl)
    (L:∀w,S w->(execOp a.eval Cr).run P w = .ok (.value v) w:=by(intro az anF;(try dsimp only at anF);(try simp only[bf,bg,bh]);go_simp;try(with_reducible rfl))) (uv:S w:=by assumption)
    (ad:a.put Cr.dst v=eP:=by((try simp only[Act.put,bf,bg,bh,mP,mh,mi]);rfl)):wpAnyH P sY jL Q S (fuel+1) uI a w:=by
  subst ad
  exact wpAnyH_take hi hs ah ak kW (Or.inl ⟨aw,L⟩) uv h
theorem fR {P:Program} {jL:Array Oper} {Q:Exit->Act->World->Prop} {sY:Region.Mode} {S:World->Prop} (i:Nat) {Cr:Oper} {uI:Array Bool} {a eP:Act} (h:wpAnyH P sY jL Q S fuel (uI.setIfInBounds i true) eP w) (hi:jL[i]?=some Cr:=by rfl)
    (hs:Region.noSelect jL=true:=by kernel_rfl) (ah:Region.free sY jL uI i=true:=by kernel_rfl) (ak:(Region.ready sY jL uI).contains i=true:=by kernel_rfl)
    (kW:∀c a w,Q (.panic c) (a.put Cr.dst undef) w->Q (.panic c) a w:=by exact fun _ _ _ h=>h) (aw:Region.wanted Cr (yielded jL a.tmps)=false:=by rfl) (uv:S w:=by assumption)
    (ad:a.put Cr.dst undef=eP:=by((try simp only[Act.put,bf,bg,bh,mP,mh,mi]);rfl)):wpAnyH P sY jL Q S (fuel+1) uI a w:=by
  subst ad
  exact wpAnyH_take hi hs ah ak kW (Or.inr ⟨aw,rfl⟩) uv h
theorem rd {P:Program} {jL:Array Oper} {Q:Exit->Act->World->Prop} {sY:Region.Mode} {S:World->Prop} (i:Nat) {o:Oper} {uI:Array Bool} {a:Act} 
    (h:∀b9:Act->World->Prop,Shut (∀a w,S w->(S w->wpAnyH P sY jL Q S fuel (uI.setIfInBounds i true) a w)->b9 a w)->if Region.wanted o (yielded jL a.tmps)=true then Oper.wp P o a w b9 Q else b9 (a.put o.dst undef) w) (ak:Region.ready sY jL uI=[i]:=by kernel_rfl) (aY:jL[i]?=some o:=by rfl):wpAnyH P sY jL Q S (fuel+1) uI a w :=
  wpAnyH_ready ak (by simp) (AllReadyH.cons aY h AllReadyH.nil)
theorem aQ {P:Program} {jL:Array Oper} {Q:Exit->Act->World->Prop} {sY:Region.Mode} {S:World->Prop} {uI:Array Bool} {b9:Act->World->Prop} {a eP:Act} (I:Shut (∀a w,S w->(S w->wpAnyH P sY jL Q S fuel uI a w)->b9 a w)) (uv:S w) (h:S w->wpAnyH P sY jL Q S fuel uI eP w) (ad:a=eP:=by((try simp only[Act.put,mP,mh,mi]);rfl)):b9 a w:=by
  subst ad
  exact I.out _ _ uv h
abbrev V (w B:World):Prop:=Below w.heap.size w B
theorem cf {α:Type} (a:α):∃x,x=a:=⟨_,rfl⟩
theorem bF (x:Int) (F:-9223372036854775808<=x:=by omega) (O:x<9223372036854775808:=by omega):IntKind.i64.wrap x=x:=by rw[IntKind.wrap_i64];omega
theorem b7 {a b:World} (h:Below n a b:=by first | exact Below.drew (Below.refl _ _) | exact Below.refl _ _):Below n a b:=h
theorem ax:type_of% @Below.refl:=@Below.refl
theorem bn:type_of% @List.mem_of_getElem?:=@List.mem_of_getElem?
theorem ce:type_of% @World.cell?_setCell_far:=@World.cell?_setCell_far
theorem bk:type_of% @Nat.lt_of_lt_of_le:=@Nat.lt_of_lt_of_le
theorem ct:type_of% @List.getElem?_eq_getElem:=@List.getElem?_eq_getElem
theorem cr:type_of% @List.getElem?_eq_some_iff:=@List.getElem?_eq_some_iff
theorem aL:type_of% @Nat.le_refl:=@Nat.le_refl
theorem dA:type_of% @World.cell?_of_block:=@World.cell?_of_block
theorem fQ:type_of% @List.take_of_length_le:=@List.take_of_length_le
theorem iH:type_of% @List.getD_eq_getElem?_getD:=@List.getD_eq_getElem?_getD
theorem bL:type_of% @Nat.le_trans:=@Nat.le_trans
theorem fT:type_of% @List.getElem?_map:=@List.getElem?_map
theorem lu:type_of% @List.getElem?_append_right:=@List.getElem?_append_right
theorem cE:type_of% @Nat.zero_le:=@Nat.zero_le
theorem jw:type_of% @List.length_append:=@List.length_append
theorem g1:type_of% @List.map_append:=@List.map_append
theorem i5:type_of% @World.news_of_block:=@World.news_of_block
theorem mS:type_of% @List.getElem?_append_left:=@List.getElem?_append_left
theorem iI:type_of% @Bool.eq_iff_iff:=@Bool.eq_iff_iff
theorem jx:type_of% @List.length_take:=@List.length_take
theorem oL:type_of% @World.cell?_setCell_other:=@World.cell?_setCell_other
theorem on:type_of% @World.cell?_setCell_same:=@World.cell?_setCell_same
theorem k8:type_of% @World.ownsRow_nil:=@World.ownsRow_nil
theorem nb:type_of% @World.cell?_alloc_lt:=@World.cell?_alloc_lt
theorem k9:type_of% @List.all_eq_true:=@List.all_eq_true
theorem lb:type_of% @List.length_map:=@List.length_map
theorem oN:type_of% @List.getElem?_eq_none:=@List.getElem?_eq_none
theorem i6:type_of% @List.mem_map:=@List.mem_map
theorem yb:type_of% @List.length_cons:=@List.length_cons
theorem vg:type_of% @Int.toNat_natCast:=@Int.toNat_natCast
theorem vh:type_of% @List.getElem?_drop:=@List.getElem?_drop
theorem qd:type_of% @List.mem_cons_of_mem:=@List.mem_cons_of_mem
theorem o8:type_of% @List.map_congr_left:=@List.map_congr_left
theorem yc:type_of% @List.eq_nil_of_length_eq_zero:=@List.eq_nil_of_length_eq_zero
theorem s6:type_of% @World.frozen?_setCell:=@World.frozen?_setCell
theorem wX:type_of% @Nat.mod_two_eq_zero_or_one:=@Nat.mod_two_eq_zero_or_one
theorem q7:type_of% @Nat.pow_le_pow_right:=@Nat.pow_le_pow_right
theorem qe:type_of% @List.mem_cons_self:=@List.mem_cons_self
theorem su:type_of% @List.mem_of_mem_take:=@List.mem_of_mem_take
theorem t6:type_of% @List.getElem?_set_self:=@List.getElem?_set_self
theorem s4:type_of% @List.flatMap_append:=@List.flatMap_append
theorem aBb:type_of% @Option.some.injEq:=@Option.some.injEq
theorem o7:type_of% @List.mem_append:=@List.mem_append
theorem om:type_of% @List.mem_range:=@List.mem_range
theorem q5:type_of% @List.length_drop:=@List.length_drop
theorem ve:type_of% @List.getElem?_set_ne:=@List.getElem?_set_ne
theorem jN:type_of% @of_decide_eq_true:=@of_decide_eq_true
theorem ih:type_of% @wp_region_held_drew:=@wp_region_held_drew
theorem gn:type_of% @wpAnyH_done:=@wpAnyH_done
theorem mR:type_of% @wp_region_noPanic:=@wp_region_noPanic
theorem vf:type_of% @decide_eq_false_iff_not:=@decide_eq_false_iff_not
theorem s5:type_of% @decide_eq_true_iff:=@decide_eq_true_iff
theorem j8:type_of% @NoPanic.normal:=@NoPanic.normal
theorem j9:type_of% @AllReadyH.cons:=@AllReadyH.cons
theorem q6:type_of% @AllReadyH.nil:=@AllReadyH.nil
theorem ia {a b:Bool} (h:a=b):Ending.returned (.bool a) = .returned (.bool b):=by rw[h]
theorem qB {k:IntKind} {a b:Int} (h:a=b):Ending.returned (.int k a) = .returned (.int k b):=by rw[h]
theorem mj (x:Int) (aI:-9223372036854775808<=x) (F:x<9223372036854775808):IntKind.i64.wrap x=x:=by
 rw[IntKind.wrap_i64];omega
theorem K {p:Prop} (h:p):Hid p:=h
theorem Below.drewN {a:World} (h:Below Y a w) (n:Nat):Below Y a (w.drewN n):=⟨h.os,h.tape,h.output,h.size,h.block⟩
theorem gM {α:Type} (l:List α) (k:Nat) (x:α) (h:l[k]?=some x):l.take (k+1)=l.take k++[x]:=by
 rw[List.take_add_one,h];rfl
theorem Fg {α:Type} (p:α->Bool) (l:List α) (k:Nat) (x:α) (h:l[k]?=some x):(l.take (k+1)).all p=((l.take k).all p&&p x):=by
 rw[gM l k x h,List.all_append];simp
theorem af2 (p:Nat->Bool) (k:Nat):(List.range (k+1)).all p=((List.range k).all p&&p k):=by
 rw[List.range_succ,List.all_append];simp
def cm (Y:Nat) (w:World) (a:Option Addr) (gx:Nat) (kS:List (List Value)):Prop :=
 kS≠[]->∃b o,a=some ⟨b,o,none⟩∧b<Y∧∀(i:Nat) (cs:List Value),kS[i]?=some cs->∀(j:Nat) (x:Value),cs[j]?=some x->w.cell? ⟨b,o+i*gx+j,none⟩=some x
theorem cm.to {kS:List (List Value)} (h:cm Y w a gx kS) (D:Below Y w B):cm Y B a gx kS:=fun ay=>by
 obtain⟨b,o,ad,aB,ar⟩:=h ay;exact⟨b,o,ad,aB,fun i cs F j x O=>(D.cell (p:=⟨b,o+i*gx+j,none⟩) aB).trans (ar i cs F j x O)⟩
theorem cm.mono {EK:Nat} {kS:List (List Value)} (h:cm Y w a gx kS) (D:Y<=EK):cm EK w a gx kS:=fun ay=>by
 obtain⟨b,o,ad,aB,ar⟩:=h ay;exact⟨b,o,ad,bk aB D,ar⟩
theorem cm.el {α:Type} {f:α->List Value} {xs:List α} (h:cm Y w a gx (xs.map f)) {x:α} (J:xs[i]?=some x) :
  ∃b o,a=some ⟨b,o,none⟩∧b<Y∧∀(j:Nat) (v:Value),(f x)[j]?=some v->w.cell? ⟨b,o+i*gx+j,none⟩=some v:=by
 obtain⟨b,o,ad,aB,ar⟩:=h (by intro e;have:xs=[]:=List.map_eq_nil_iff.1 e;rw[this] at J;simp at J);exact⟨b,o,ad,aB,ar i (f x) (by simp[J])⟩
def j4 (x:Int):List Value:=[.int .i64 x]
structure eA where
 next:Int
 init:Bool
def eA.cells (d:eA):List Value:=[.int .i64 d.next,.bool d.init]
structure Z where
 x:Int
 y:Int
def Z.cells (d:Z):List Value:=[.int .i64 d.x,.int .i64 d.y]
structure eq where
 ins:Int
 lats:List eA
 ands:List Z
 outs:List Int
structure jm where
 a1:Option Addr
 c1:Nat
 a2:Option Addr
 c2:Nat
 a3:Option Addr
 c3:Nat
def jm.cells (S:jm) (G:eq):Array Value:=#[.int .i64 G.ins,.slice S.a1 G.lats.length S.c1,.slice S.a2 G.ands.length S.c2,.slice S.a3 G.outs.length S.c3]
def cd:Nat:=17592186044416
structure iB (Y:Nat) (w:World) (S:jm) (G:eq):Prop where
 l:cm Y w S.a1 2 (G.lats.map eA.cells)
 a:cm Y w S.a2 2 (G.ands.map Z.cells)
 o:cm Y w S.a3 1 (G.outs.map j4)
 ll:G.lats.length<cd
 la:G.ands.length<cd
 lo:G.outs.length<cd
theorem iB.to {S:jm} {G:eq} (h:iB Y w S G) (D:Below Y w B):iB Y B S G :=
 ⟨h.l.to D,h.a.to D,h.o.to D,h.ll,h.la,h.lo⟩
theorem iB.mono {EK:Nat} {S:jm} {G:eq} (h:iB Y w S G) (D:Y<=EK):iB EK w S G :=
 ⟨h.l.mono D,h.a.mono D,h.o.mono D,h.ll,h.la,h.lo⟩
def eq.first (G:eq):Int:=1+G.ins+G.lats.length
def eq.vars (G:eq):Int:=G.first+G.ands.length
def od (n l:Int):Bool:=decide (0<=l∧l<2*n)
def eq.small (G:eq):Prop:=0<=G.ins∧G.ins<=60000∧G.lats.length<=6000∧G.outs.length<=60000∧G.vars<=60000
instance (G:eq):Decidable G.small:=by unfold eq.small;infer_instance
def Dg (G:eq) (i:Nat):Bool:=match G.ands[i]? with | some d=>od (G.first+i) d.x&&od (G.first+i) d.y | none=>true
def Ck (G:eq) (d:eA):Bool:=od G.vars d.next
def Ju (G:eq):Bool:=decide G.small&&(List.range G.ands.length).all (Dg G)&&G.lats.all (Ck G)&&G.outs.all (od G.vars)
theorem ahT (w:World) (S:jm) (G:eq) (aI:0<=G.ins) (F:G.ins<=60000) (O:G.lats.length<cd) (aW:G.ands.length<cd) :
  Calls Tryz.prog 31 #[.agg (S.cells G)] w fun e B=>e = .returned (.int .i64 G.vars)∧V w B:=by
 unfold jm.cells;simp only[cd] at O aW;go_enter Tryz.func31,Tryz.ntmps31
 go_wp2;go_ret
 refine⟨qB ?_,(ax _ _).alloc (aL _) _⟩;simp only[eq.vars,eq.first]
theorem bS {α:Type} {l:List α} {k:Nat} (h:k<l.length):∃d,l[k]?=some d:=⟨l[k],ct h⟩
theorem abC {G:eq} {k:Nat} {d:Z} (h:G.ands[k]?=some d):Dg G k=(od (G.first+k) d.x&&od (G.first+k) d.y):=by
 unfold Dg;rw[h]
structure o9 (w:World) (p:Nat) (S:jm) (G:eq):Prop where
 lt:p<w.heap.size
 c0:w.cell? ⟨p,0,none⟩=some (.int .i64 G.ins)
 c1:w.cell? ⟨p,1,none⟩=some (.slice S.a1 G.lats.length S.c1)
 c2:w.cell? ⟨p,2,none⟩=some (.slice S.a2 G.ands.length S.c2)
 c3:w.cell? ⟨p,3,none⟩=some (.slice S.a3 G.outs.length S.c3)
theorem o9.to {p:Nat} {S:jm} {G:eq} (h:o9 w p S G) (aE:p<Y) (D:Below Y w B):o9 B p S G :=
 ⟨bk h.lt D.size,(D.cell (p:=⟨p,0,none⟩) aE).trans h.c0,(D.cell (p:=⟨p,1,none⟩) aE).trans h.c1,(D.cell (p:=⟨p,2,none⟩) aE).trans h.c2,(D.cell (p:=⟨p,3,none⟩) aE).trans h.c3⟩
theorem D6 {b:Nat} {kS:List (List Value)} (D:b<Y) (hs:∀l,l∈kS->l.length=gx) (h:∀(m:Nat) (v:Value),kS.flatten[m]?=some v->w.cell? ⟨b,m,none⟩=some v):cm Y w (some ⟨b,0,none⟩) gx kS:=by
 intro cb;refine⟨b,0,rfl,D,fun i cs hi j x J=>?_⟩;rw[Nat.zero_add];apply h;clear h
 induction kS generalizing i with
 | nil=>simp at hi
 | cons l r aA =>
  have hl:=hs l qe;cases i with
  | zero =>
   simp at hi;subst hi;have aT:=(cr.1 J).1;rw[List.flatten_cons,mS (by omega)];simpa using J
  | succ i =>
   have yC:r[i]?=some cs:=by simpa using hi
   rw[List.flatten_cons,lu (by rw[hl,Nat.succ_mul];omega)]
   have:=aA (fun l hl=>hs l (qd _ hl)) (List.ne_nil_of_mem (bn yC)) i yC
   rw[hl];rw[show(i+1)*gx+j - gx=i*gx+j by rw[Nat.succ_mul];omega];exact this
theorem ja {cs:Array Value} {t b j:Nat} (h:b=w.heap.size):(w.alloc (.cells cs t)).cell? ⟨b,j,none⟩=cs[j]?:=by
 subst h;simp
theorem D7:cm Y w a gx []:=fun h=>absurd rfl h
def gi (b:Bool):Value:= .bool b
def Ac (b:Bool):List Value:=[.bool b]
theorem HH (g j:Nat):((⟨g,0,none⟩:Addr).add j)=⟨g,j,none⟩:=by unfold Addr.add;split <;> simp_all
theorem h8 (w:World) (o:Obj):(w.alloc o).heap[w.heap.size]?=some o:=by unfold World.alloc;simp
theorem s0 {α:Type} {g:α->Value} {xs:List α} (h:w.ownsRow C e 1 v n (xs.map g)) :
  n=xs.length∧∃ee ca,v = .slice ee n ca∧cm w.heap.size w ee 1 (xs.map fun x=>[g x]):=by
 have hl:n=xs.length:=by have:=h.1;simp at this;omega
 refine⟨hl,?_⟩;rcases h.2 with ⟨aI,F⟩ | ⟨aX,cap,hV,L,F⟩
 ·refine⟨none,0,by rw[aI,F],fun ay=>?_⟩;exfalso;apply ay;have:xs.length=0:=by omega
  rw[List.length_eq_zero_iff.1 this];rfl
 ·refine⟨some ⟨aX,0,none⟩,cap,L,fun _=>⟨aX,0,rfl,?_,?_⟩⟩
  ·exact(h.lt aX (by rw[L];rfl)).2
  ·intro i cs hi j x aT;have ar:=h.cells (g:=aX) (by rw[L];rfl) i;rw[fT] at hi;cases J:xs[i]? with
   | none=>rw[J] at hi;cases hi
   | some y =>
    rw[J] at hi;have e:[g y]=cs:=by simpa using hi
    subst e;cases j with
    | succ j=>simp at aT
    | zero =>
     have yv:g y=x:=by simpa using aT
     subst yv
     have:=ar (g y) (by rw[fT,J];rfl)
     rw[HH] at this;simpa using this
theorem us {aC wr al:World} (h:V aC wr) {o:Obj} (a6:wr.ownsRow aC.heap.size e size v n xs) (af:(wr.alloc o).grownBy al v.ownBlock):V aC al :=
 (h.alloc h.size o).grown af (bL h.size (by simp)) (fun k X=>(a6.lt k X).1)
def Sep (a b:Value):Prop:=a.ownBlock=none∨b.ownBlock=none∨a.ownBlock≠b.ownBlock
theorem Sep.other {a:Value} (h:Sep a b):b.ownBlock=none∨b.ownBlock≠a.ownBlock:=by
 rcases h with h | h | h
 ·rw[h];cases D:b.ownBlock with
  | none=>exact .inl rfl
  | some x=>exact .inr (by simp)
 ·exact .inl h
 ·exact .inr (Ne.symm h)
theorem Sep.symm {a:Value} (h:Sep a b):Sep b a:=by
 rcases h with h | h | h
 ·exact .inr (.inl h)
 ·exact .inl h
 ·exact .inr (.inr (Ne.symm h))
theorem Sep.new {a:Value} (h:Sep a b) (D:w.ownsRow C e 1 b n xs) {g H m cap:Nat} (af:a.ownBlock=some g∨g=H) (QE:w.heap.size<=H):Sep (.slice (some ⟨g,0,none⟩) m cap) b:=by
 cases f0:b.ownBlock with
 | none=>exact .inr (.inl f0)
 | some x =>
  refine .inr (.inr ?_);rw[f0];show some g≠some x;rcases af with af | af
  ·rcases h with h | h | h
   ·rw[af] at h;cases h
   ·rw[f0] at h;cases h
   ·rw[af,f0] at h;exact h
  ·have:=(D.lt x f0).2
   intro e;cases e;omega
theorem mx {e:Nat} (h:w.ownsRow Y e size v n xs) (D:V w B):B.ownsRow Y e size v n xs :=
 h.kept (row:=none) ⟨D.os,D.tape,D.output,D.size,fun k X _=>D.block k X⟩ (by
  cases L:v.ownBlock with
  | none=>exact .inl rfl
  | some x=>exact .inr (by simp))
theorem xN {EM e:Nat} (h:w.ownsRow C e size v n xs) (ar:EM<=C):w.ownsRow EM e size v n xs:=by
 refine⟨h.1,?_⟩;rcases h.2 with ag | ⟨g,cap,hV,rfl,af,oH⟩
 ·exact .inl ag
 ·exact .inr ⟨g,cap,hV,rfl,bL ar af,oH⟩
theorem qQ (w:World) (row:Option Nat):w.grownBy w row:=⟨rfl,rfl,rfl,aL _,fun _ _ _=>rfl⟩
theorem js {a b c:World} {row:Option Nat} (h:a.grownBy b row) (O:b.grownBy c row):a.grownBy c row :=
 ⟨O.os.trans h.os,O.tape.trans h.tape,O.output.trans h.output,bL h.size O.size,fun k X ak=>(O.block k (bk X h.size) ak).trans (h.block k X ak)⟩
theorem jB {wc:World} {row:Option Nat} (af:wc.grownBy B row) (eu:C<=wc.heap.size) (ak:∀k,row=some k->C<=k):Below C wc B :=
 (ax C wc).grown af eu ak
theorem Lv {α:Type} (a:List α) (x y:α) (r:List α):(a++x::r).set a.length y=a++y::r:=by
 induction a with
 | nil=>rfl
 | cons h t aA=>simp only[List.cons_append,List.length_cons,mi,aA]
theorem tw (h:w.grownBy B none):V w B:=⟨h.os,h.tape,h.output,h.size,fun k X=>h.block k X (by simp)⟩
theorem apS:(Tryz.prog.info? 4).map (fun i=>(i.zero,i.size,i.bytes))=some (some (.bool false),1,1):=by kernel_rfl
theorem IB:∃i,Tryz.prog.info? 4=some i∧i.zero=some (.bool false)∧i.size=1∧i.bytes=1:=by
 have h:=apS;cases hi:Tryz.prog.info? 4 with
 | none=>rw[hi] at h;cases h
 | some i=>rw[hi] at h;simp at h;exact⟨i,rfl,h.1,h.2.1,h.2.2⟩
theorem Xh (n:Nat):(madeCells (Value.bool false).cells (n*1)).toList=(List.replicate n false).map gi:=by
 rw[Nat.mul_one];apply List.ext_getElem?;intro i;by_cases h:i<n
 ·simp[madeCells,Value.cells,gi,h,Nat.mod_one]
 ·simp[madeCells,Value.cells,gi,h]
theorem Sh (h:cm Y w a 1 (l.map Ac)) {x:Bool} (J:l[i]?=some x):∃b o,a=some ⟨b,o,none⟩∧b<Y∧w.cell? ⟨b,o+i,none⟩=some (.bool x):=by
 obtain⟨b,o,ad,aB,ar⟩:=h.el J;refine⟨b,o,ad,aB,?_⟩
 have:=ar 0 (.bool x) rfl
 simpa using this
theorem cm.intR {l:List Int} (h:cm Y w a 1 (l.map j4)) {x:Int} (J:l[i]?=some x):∃b o,a=some ⟨b,o,none⟩∧b<Y∧w.cell? ⟨b,o+i,none⟩=some (.int .i64 x):=by
 obtain⟨b,o,ad,aB,ar⟩:=h.el J;refine⟨b,o,ad,aB,?_⟩
 have:=ar 0 (.int .i64 x) rfl
 simpa using this
def gw (v:List Bool) (l:Int):Bool:=(v[(l / 2).toNat]?.getD false) != decide (l%2=1)
def ajV (v:List Bool) (l:Int):Prop:=0<=l∧l<2*(v.length:Int)
theorem apX:(Tryz.prog.info? 82).map (fun i=>(i.zero,i.size,i.bytes))=some (some (.slice none 0 0),1,24):=by kernel_rfl
theorem aeE:∃i,Tryz.prog.info? 82=some i∧i.zero=some (.slice none 0 0)∧i.size=1∧i.bytes=24:=by
 have h:=apX;cases hi:Tryz.prog.info? 82 with
 | none=>rw[hi] at h;cases h
 | some i=>rw[hi] at h;simp at h;exact⟨i,rfl,h.1,h.2.1,h.2.2⟩
theorem Xg (w:World) (a:Option Addr) (c:Nat) (v:List Bool) (L:cm w.heap.size w a 1 (v.map Ac)) (aU:v.length<cd) (l:Int) (hl:ajV v l) :
  Calls Tryz.prog 64 #[.slice a v.length c,.int .i64 l] w fun e B=>e = .returned (.bool (gw v l))∧B=w:=by
 obtain⟨aI,F⟩:=hl;simp only[cd] at aU;obtain⟨x,J⟩:∃x,v[(l / 2).toNat]?=some x:=⟨v[(l / 2).toNat]'(by omega),ct (by omega)⟩
 obtain⟨b,o,rfl,D,ar⟩:=Sh L J;have e:gw v l=(x != decide (l%2=1)):=by unfold gw;rw[J];rfl
 rw[e];have aB:l / 2<(v.length:Int):=by omega
 have O:0<=l / 2:=by omega
 have cy:Int.tdiv l 2=l / 2:=by rw[Int.tdiv_eq_ediv_of_nonneg aI]
 have eX:Int.tmod l 2=l%2:=by rw[Int.tmod_eq_emod_of_nonneg aI]
 clear e J L;generalize l / 2=m at *;generalize ak:l%2=r at *;have bp:IntKind.i64.wrap m=m:=mj _ (by omega) (by omega);have aS:IntKind.i64.wrap r=r:=mj _ (by omega) (by omega);go_enter Tryz.func64,Tryz.ntmps64
 go_wp2;go_ret
 refine⟨ia ?_,rfl⟩;have UI:(r==1)=decide (r=1):=by rw[iI];simp
 cases x <;> simp[UI]
def sV (n:Nat) (row:List Bool):List Bool:=(List.range n).map fun i=>row[i]?.getD false
def iS (v:List Bool) (l:List Z):List Bool:=l.foldl (fun v d=>v++[gw v d.x&&gw v d.y]) v
def l7 (G:eq) (row dB:List Bool):List Bool:=iS ([false]++sV G.ins.toNat row++dB) G.ands
def tu (G:eq):List Bool:=G.lats.map eA.init
def zC (G:eq) (v:List Bool):List Bool:=G.outs.map (gw v)
def vI (G:eq) (v:List Bool):List Bool:=G.lats.map fun d=>gw v d.next
def ED (G:eq) (dB:List Bool) (j6:List (List Bool)):List Bool:=j6.foldl (fun dB r=>vI G (l7 G r dB)) dB
def runN (G:eq):List (List Bool)->List Bool->List (List Bool)
 | [],_=>[]
 | r::t,dB=>zC G (l7 G r dB)::runN G t (vI G (l7 G r dB))
theorem auw (G:eq) (l:List (List Bool)) (r:List Bool) (dB:List Bool):runN G (l++[r]) dB=runN G l dB++[zC G (l7 G r (ED G dB l))]:=by
 induction l generalizing dB with
 | nil=>rfl
 | cons a t aA=>simp only[List.cons_append,runN,aA];rfl
theorem auP (G:eq) (l:List (List Bool)) (r:List Bool) (dB:List Bool):ED G dB (l++[r])=vI G (l7 G r (ED G dB l)):=by
 unfold ED;rw[List.foldl_append];rfl
theorem P5 (v:List Bool) (l:List Z):(iS v l).length=v.length+l.length:=by
 induction l generalizing v with
 | nil=>rfl
 | cons a t aA=>unfold iS at *;rw[List.foldl_cons,aA];simp;omega
theorem MP (v:List Bool) (l:List Z) (d:Z):iS v (l++[d])=iS v l++[gw (iS v l) d.x&&gw (iS v l) d.y]:=by
 unfold iS;rw[List.foldl_append];rfl
theorem aeC (n:Nat) (row:List Bool):(sV n row).length=n:=by unfold sV;simp
theorem apR (n:Nat) (row:List Bool):sV (n+1) row=sV n row++[row[n]?.getD false]:=by unfold sV;rw[List.range_succ,g1];rfl
theorem acf (G:eq) (row dB:List Bool):(l7 G row dB).length=1+G.ins.toNat+dB.length+G.ands.length:=by
 unfold l7;rw[P5];simp[aeC];omega
theorem auO (G:eq) (j6:List (List Bool)) (dB:List Bool) (h:dB.length=G.lats.length):(ED G dB j6).length=G.lats.length:=by
 induction j6 generalizing dB with
 | nil=>exact h
 | cons a t aA=>exact aA (vI G (l7 G a dB)) (by unfold vI;simp)
def iJ (w:World) (v:Value) (l:List Bool):Prop:=(v = .slice none 0 0∧l=[])∨∃b o c,v = .slice (some ⟨b,o,none⟩) l.length c∧b<w.heap.size∧∀(i:Nat) (x:Bool),l[i]?=some x->w.cell? ⟨b,o+i,none⟩=some (.bool x)
theorem iJ.to (h:iJ w v l) (D:V w B):iJ B v l:=by
 rcases h with h | ⟨b,o,c,L,aB,ar⟩
 ·exact .inl h
 ·exact .inr ⟨b,o,c,L,bk aB D.size,fun i x J=>(D.cell (p:=⟨b,o+i,none⟩) aB).trans (ar i x J)⟩
theorem iJ.of (h:w.ownsRow C 4 1 v n (l.map gi)):iJ w v l:=by
 have hl:n=l.length:=by have:=h.1;simp at this;omega
 rcases h.2 with ⟨aI,F⟩ | ⟨g,cap,hV,L,F⟩
 ·exact .inl ⟨aI,yc (by omega)⟩
 ·refine .inr ⟨g,0,cap,by rw[L,hl],(h.lt g (by rw[L];rfl)).2,fun i x J=>?_⟩
  have:=h.cells (g:=g) (by rw[L];rfl) i (.bool x) (by rw[fT,J];rfl)
  rw[HH] at this;simpa using this
theorem iJ.row (h:iJ w v l):∃a c,v = .slice a l.length c∧cm w.heap.size w a 1 (l.map Ac):=by
 rcases h with ⟨rfl,rfl⟩ | ⟨b,o,c,L,aB,ar⟩
 ·exact⟨none,0,rfl,D7⟩
 ·refine⟨_,c,L,fun _=>⟨b,o,rfl,aB,fun i cs hi j x J=>?_⟩⟩;rw[fT] at hi;cases aF:l[i]? with
  | none=>rw[aF] at hi;cases hi
  | some y =>
   rw[aF] at hi;have e:[Value.bool y]=cs:=by simpa[Ac] using hi
   subst e;cases j with
   | succ j=>simp at J
   | zero =>
    have yv:Value.bool y=x:=by simpa using J
    subst yv;simpa using ar i y aF
theorem auQ (Y:Nat) (w:World) (S:jm) (G:eq) (h:iB Y w S G) (aM:Y<=w.heap.size) :
  Calls Tryz.prog 32 #[.agg (S.cells G)] w fun e B=>∃v,e = .returned v∧B.ownsRow w.heap.size 4 1 v G.lats.length ((tu G).map gi)∧V w B:=by
 have aU:=h.ll;simp only[cd] at aU;unfold jm.cells;obtain⟨eE,ek,i1,jU,f0⟩:=IB
 change Hid _ at ek i1 jU f0
 go_enter Tryz.func32,Tryz.ntmps32
 go_wp2_with fail
 generalize av:World.alloc w _=I;have aD:Hid (V w I):=by rw[<-av];exact(ax _ _).alloc (aL _) _
 have a8:w.heap.size<I.heap.size:=by rw[<-av];simp
 have iC:Hid (o9 I w.heap.size S G):=by
  rw[<-av];exact⟨by simp,by simp,by simp,by simp,by simp⟩
 have hU:Hid (iB Y I S G):=h.to (aD.mono aM);have gE:Y<=I.heap.size:=bL aM aD.size;clear av h;go_loopw [3,4] (fun v aq B=>∃(k:Nat),k<=G.lats.length∧aq = .int .i64 k∧Hid (B.ownsRow I.heap.size 4 1 v k (((G.lats.take k).map eA.init).map gi))∧Hid (V I B)) (fun _ aq _=>G.lats.length - (intOf aq).toNat)
 case atStart=>exact⟨0,cE _,rfl,k8 _ _ _ _,ax _ _⟩
 case round =>
  obtain⟨k,X,rfl,a6,au⟩:=hrel;have IR:=(au.cell (p:=⟨w.heap.size,1,none⟩) a8).trans iC.c1;by_cases aB:k<G.lats.length
  ·obtain⟨z,ao⟩:=bS aB;obtain⟨bG,ck,bQ,gK,cx⟩:=hU.l.el ao;have c1:=(au.cell (p:=⟨bG,ck+k*2+1,none⟩) (bk gK gE)).trans (cx 1 _ rfl);rw[bQ] at IR;have bW:Hid (((G.lats.take (k+1)).map eA.init).map gi=((G.lats.take k).map eA.init).map gi++[.bool z.init]):=by
    show _=_;rw[gM _ k z ao,g1,g1];rfl
   generalize z.init=x at *;have fa:(k:Int)<(G.lats.length:Int):=by omega
   have bM:=bF ((k:Int)+1);have cn:k+1<=maxLen:=by simp only[maxLen];omega
   have cq:(k+1)*1<=140737488355328:=by omega
   have gY:=au.size;have cJ:I.heap.size<=(wr.alloc (.cells #[.bool x] 4)).heap.size:=by simp;omega
   clear cx bQ ao gK;have tok:True:=trivial;go_wp2_with (have _t:=tok;at_builtin;(refine wpList_append_lies _ rfl (.tmp 12) (.tmp 19) 82 rfl I.heap.size 4 eE _ 1 1 Tryz.underlying82 ek i1 jU f0 rfl (by decide) u3 k _ rfl (a6.alloc _) ⟨wr.heap.size,0,none⟩ 1 1 [.bool x] rfl rfl (i5 (h8 _ _)) (by simp[Value.oneCell']) (by decide) cn cq cJ _ rfl ?_;intro g cap al bc br kX cj;clear tok))
   have i8:Hid (al.ownsRow I.heap.size 4 1 (.slice (some ⟨g,0,none⟩) (k+1) cap) (k+1) (((G.lats.take (k+1)).map eA.init).map gi)):=by
    show World.ownsRow _ _ _ _ _ _ _;rw[bW.out];exact bc
   have cV:Hid (V I al):=us au a6 br;clear bc br kX cj cn cq cJ a6 au bW;go_wp2;go_roundw
   case measure=>simp[intOf];omega
   exact⟨k+1,by omega,by simp,i8.out,cV⟩
  ·have cQ:¬((k:Int)<(G.lats.length:Int)):=by omega
   have hM:Hid (wr.ownsRow I.heap.size 4 1 u3 G.lats.length ((tu G).map gi)):=by
    have:=a6.out
    rw[fQ (by omega),show k=G.lats.length by omega] at this;exact this
   clear a6;go_wp2;go_ret
   exact⟨_,rfl,xN hM aD.size,aD.trans (au.mono aD.size)⟩
def jC (G:eq):Nat:=1+G.ins.toNat+G.lats.length
theorem R8 {e:Nat} {kS:List (List Value)} (h:w.ownsRow C e gx v n kS.flatten) (hs:∀l,l∈kS->l.length=gx) (ao:0<gx):∃a c,v = .slice a n c∧cm w.heap.size w a gx kS:=by
 rcases h.2 with ⟨aI,F⟩ | ⟨g,cap,hV,L,F⟩
 ·refine⟨none,0,by rw[aI,F],?_⟩;have hl:=h.1;rw[F,Nat.zero_mul] at hl;intro cb;exfalso;cases kS with
  | nil=>exact cb rfl
  | cons x t =>
   have:=hs x qe
   rw[List.flatten_cons,jw] at hl;omega
 ·subst L;refine⟨_,cap,rfl,D6 (h.lt g rfl).2 hs fun m v ae=>?_⟩
  have:=(cr.1 ae).1
  rw[h.cellAt m (by have:=h.1;omega)];exact ae
def bu (x:Int):Int:=if x%2=0 then x+1 else x - 1
def pm:List Z->Int->Int->Option Nat
 | [],_,_=>none
 | d::r,p,q=>if d.x=p∧d.y=q then some 0 else (pm r p q).map (· + 1)
def bE (first:Nat) (hs:List Z) (a b:Int):List Z×Int :=
 if min a b=0∨max a b=bu (min a b) then (hs,0)
 else if min a b=1∨max a b=min a b then (hs,max a b)
 else match pm hs (max a b) (min a b) with
  | some i=>(hs,2*((first:Int)+(i:Int)))
  | none=>(hs++[⟨max a b,min a b⟩],2*((first:Int)+(hs.length:Int)))
theorem Qp (x:Int) (h:0<=x):0<=bu x∧bu x / 2=x / 2∧(bu x%2=1↔¬x%2=1)∧bu x<=x+1:=by
 unfold bu;split <;> omega
theorem Xf (v:List Bool) (x:Int) (h:0<=x):gw v (bu x)=!gw v x:=by
 obtain⟨_,O,aW,_⟩:=Qp x h;unfold gw;rw[O];generalize (v[(x / 2).toNat]?.getD false)=b;by_cases J:x%2=1
 ·have:¬bu x%2=1:=fun e=>(aW.1 e) J
  simp[J,this]
 ·have:bu x%2=1:=aW.2 J
  simp[J,this]
theorem RR (v w:List Bool) (x:Int) (aI:0<=x) (h:x<2*(v.length:Int)):gw (v++w) x=gw v x:=by
 unfold gw;rw[mS (by omega)]
theorem MO (v:List Bool) (l m:List Z):∃r,iS v (l++m)=iS v l++r:=by
 induction m generalizing l with
 | nil=>exact⟨[],by simp⟩
 | cons d m aA =>
  obtain⟨r,ak⟩:=aA (l++[d]);refine⟨[gw (iS v l) d.x&&gw (iS v l) d.y]++r,?_⟩;rw[show l++d::m=(l++[d])++m by simp,ak,MP,List.append_assoc]
structure bI (first:Nat) (hs:List Z):Prop where
 low:∀(i:Nat) (d:Z),hs[i]?=some d->2<=d.y∧d.y<d.x∧¬d.x / 2=d.y / 2∧d.x<2*((first:Int)+(i:Int))
 one:∀(i j:Nat) (d e:Z),hs[i]?=some d->hs[j]?=some e->d.x=e.x->d.y=e.y->i=j
theorem UN {hs:List Z} {p q:Int} (h:pm hs p q=some i):∃d,hs[i]?=some d∧d.x=p∧d.y=q:=by
 induction hs generalizing i with
 | nil=>cases h
 | cons d r aA =>
  unfold pm at h;split at h
  ·next U =>
   have:i=0:=by simpa using h.symm
   subst this;exact⟨d,rfl,U.1,U.2⟩
  ·cases ak:pm r p q with
   | none=>rw[ak] at h;cases h
   | some j =>
    rw[ak] at h
    have:i=j+1:=by simpa using h.symm
    subst this;obtain⟨e,ay⟩:=aA ak;exact⟨e,by simpa using ay⟩
theorem UM {hs:List Z} {p q:Int} (h:pm hs p q=none):∀(i:Nat) (d:Z),hs[i]?=some d->¬(d.x=p∧d.y=q):=by
 induction hs with
 | nil=>intro i d U;simp at U
 | cons e r aA =>
  unfold pm at h;split at h
  ·cases h
  ·next cb =>
   have ak:pm r p q=none:=by simpa using h
   intro i d U;cases i with
   | zero =>
    have:e=d:=by simpa using U
    rw[<-this];exact cb
   | succ i=>exact aA ak i d (by simpa using U)
theorem ae4 {first:Nat} {hs:List Z} (h:bI first hs) {v0:List Bool} (L:v0.length=first) {d:Z} (U:hs[i]?=some d):gw (iS v0 hs) (2*((first:Int)+(i:Int)))=(gw (iS v0 hs) d.x&&gw (iS v0 hs) d.y):=by
 have hi:=(cr.1 U).1;have hl:=h.low i d U;have bp:hs=hs.take i++[d]++hs.drop (i+1):=by
  rw[<-gM hs i d U,List.take_append_drop]
 obtain⟨r,ak⟩:=MO v0 (hs.take i++[d]) (hs.drop (i+1));rw[<-bp,MP] at ak;have aU:(iS v0 (hs.take i)).length=first+i:=by rw[P5,jx,L];omega
 generalize iS v0 (hs.take i)=aC at *;rw[ak];have aS:∀x:Int,0<=x->x<2*((first:Int)+(i:Int))->gw (aC++[gw aC d.x&&gw aC d.y]++r) x=gw aC x:=fun x aI F=>by
  rw[List.append_assoc];exact RR _ _ x aI (by rw[aU];omega)
 rw[aS d.x (by omega) (by omega),aS d.y (by omega) (by omega)];unfold gw;have bM:(2*((first:Int)+(i:Int)) / 2).toNat=aC.length:=by omega
 rw[bM,List.append_assoc,lu (aL _)];simp
theorem akv {first:Nat} {hs:List Z} (ah:1<=first) (h:bI first hs) {a b:Int} (ad:0<=a∧a<2*((first:Int)+(hs.length:Int))) (D:0<=b∧b<2*((first:Int)+(hs.length:Int))) :
  (∃r,(bE first hs a b).1=hs++r∧r.length<=1)∧bI first (bE first hs a b).1∧(0<=(bE first hs a b).2∧(bE first hs a b).2<2*((first:Int)+((bE first hs a b).1.length:Int))) ∧
  ∀v0:List Bool,v0.length=first->v0[0]?=some false->gw (iS v0 (bE first hs a b).1) (bE first hs a b).2=(gw (iS v0 hs) a&&gw (iS v0 hs) b):=by
 have alL:∀(aC:List Bool),(gw aC a&&gw aC b)=(gw aC (max a b)&&gw aC (min a b)):=fun aC=>by
  by_cases oa:a<=b
  ·rw[show max a b=b by omega,show min a b=a by omega,Bool.and_comm]
  ·rw[show max a b=a by omega,show min a b=b by omega]
 have jc:0<=max a b∧max a b<2*((first:Int)+(hs.length:Int)):=by omega
 have NJ:0<=min a b∧min a b<=max a b:=by omega
 simp only[alL];unfold bE;generalize max a b=mu at *;generalize min a b=kF at *;have zero:∀v0:List Bool,v0.length=first->v0[0]?=some false->gw (iS v0 hs) 0=false:=fun v0 _ aI=>by
  obtain⟨r,ak⟩:=MO v0 [] hs;rw[List.nil_append] at ak;rw[ak]
  have:iS v0 []=v0:=rfl
  rw[this];unfold gw;rw[show((0:Int) / 2).toNat=0 by omega,mS (by have:=(cr.1 aI).1;omega),aI];simp
 split
 ·next ar =>
  refine⟨⟨[],by simp,by simp⟩,h,by omega,fun v0 L aI=>?_⟩;rw[zero v0 L aI];rcases ar with ar | ar
  ·rw[ar,zero v0 L aI];simp
  ·rw[ar,Xf _ _ NJ.1];simp
 ·next ar =>
  split
  ·next U =>
   refine⟨⟨[],by simp,by simp⟩,h,jc,fun v0 L aI=>?_⟩;rcases U with U | U
   ·have one:gw (iS v0 hs) 1=true:=by
     have:=Xf (iS v0 hs) 0 (by omega)
     rw[zero v0 L aI] at this;exact this
    rw[U,one];simp
   ·rw[U];simp
  ·next U =>
   split
   ·next i hi =>
    obtain⟨d,VG,J,aF⟩:=UN hi;have qW:=(cr.1 VG).1;refine⟨⟨[],by simp,by simp⟩,h,by simp only;omega,fun v0 L aI=>?_⟩;rw[ae4 h L VG,J,aF]
   ·next ag =>
    have kC:=UM ag;have oY:2<=kF:=by omega
    have aB:kF<mu:=by omega
    have adc:¬mu / 2=kF / 2:=by
     intro e;apply ar
     right
     unfold bu;split <;> omega
    have aG:bI first (hs++[⟨mu,kF⟩]):=by
     refine⟨fun i d U=>?_,fun i j d e U ay F O=>?_⟩
     ·rcases Nat.lt_or_ge i hs.length with hi | hi
      ·rw[mS hi] at U;exact h.low i d U
      ·rw[lu hi] at U;have pp:i - hs.length=0:=by have:=(cr.1 U).1;simp at this;omega
       rw[pp] at U
       have:(⟨mu,kF⟩:Z)=d:=by simpa using U
       subst this;simp only;omega
     ·rcases Nat.lt_or_ge i hs.length with hi | hi <;> rcases Nat.lt_or_ge j hs.length with aT | aT
      ·rw[mS hi] at U;rw[mS aT] at ay;exact h.one i j d e U ay F O
      ·rw[mS hi] at U;rw[lu aT] at ay;have aon:j - hs.length=0:=by have:=(cr.1 ay).1;simp at this;omega
       rw[aon] at ay
       have:(⟨mu,kF⟩:Z)=e:=by simpa using ay
       subst this;exact absurd ⟨F,O⟩ (kC i d U)
      ·rw[lu hi] at U;rw[mS aT] at ay;have pp:i - hs.length=0:=by have:=(cr.1 U).1;simp at this;omega
       rw[pp] at U
       have:(⟨mu,kF⟩:Z)=d:=by simpa using U
       subst this;exact absurd ⟨F.symm,O.symm⟩ (kC j e ay)
      ·have aW:=(cr.1 U).1;have cw:=(cr.1 ay).1;simp at aW cw;omega
    refine⟨⟨[⟨mu,kF⟩],rfl,by simp⟩,aG,by simp only[List.length_append,List.length_cons,List.length_nil];omega,fun v0 L aI=>?_⟩;have cQ:(hs++[(⟨mu,kF⟩:Z)])[hs.length]?=some ⟨mu,kF⟩:=by simp
    rw[ae4 aG L cQ];have aU:(iS v0 hs).length=first+hs.length:=by rw[P5,L]
    obtain⟨r,ak⟩:=MO v0 hs [(⟨mu,kF⟩:Z)];rw[ak];simp only;rw[RR _ _ mu jc.1 (by rw[aU];omega),RR _ _ kF NJ.1 (by rw[aU];omega)]
theorem aia (a b:Nat) (ad:a<9223372036854775808) (D:b<9223372036854775808):bits BinOp.xor IntKind.i64 (a:Int) (b:Int)=((a ^^^ b:Nat):Int):=by
 show IntKind.i64.wrap ((BitVec.ofInt 64 (a:Int) ^^^ BitVec.ofInt 64 (b:Int)).toNat:Int)=_;have J:a ^^^ b<2^63:=Nat.xor_lt_two_pow (by omega) (by omega);rw[BitVec.toNat_xor,ofInt_u64 a (by omega),ofInt_u64 b (by omega),IntKind.wrap_i64];omega
theorem arv (a:Nat):(a ^^^ 1)%2=(a+1)%2:=by
 have h:(a ^^^ 1).testBit 0=(a.testBit 0 ^^ (1:Nat).testBit 0):=Nat.testBit_xor ..;simp only[Nat.testBit_zero] at h;generalize a ^^^ 1=c at *;by_cases ad:a%2=1
 ·have:¬c%2=1:=by intro e;simp[ad,e] at h
  omega
 ·have:c%2=1:=by
   by_cases e:c%2=1
   ·exact e
   ·simp[ad,e] at h
  omega
theorem afh (a:Nat):a ^^^ 1=if a%2=0 then a+1 else a - 1:=by
 have F:(a ^^^ 1) / 2=a / 2:=by rw[Nat.xor_div_two];simp
 have O:(a ^^^ 1)%2=(a+1)%2:=arv a;split <;> omega
theorem awT (x:Int) (aI:0<=x) (F:x<9223372036854775808):bits BinOp.xor IntKind.i64 x 1=bu x:=by
 obtain⟨a,rfl⟩:=Int.eq_ofNat_of_zero_le aI
 have:=aia a 1 (by omega) (by omega)
 rw[afh] at this;unfold bu;rw[show((1:Int))=((1:Nat):Int) by rfl,this];by_cases ad:a%2=0
 ·rw[if_pos ad,if_pos (by omega)];simp
 ·rw[if_neg ad,if_neg (by omega)];omega
theorem K6 (x:Int) (aI:0<=x) (F:x<9223372036854775807) (w:World):Calls Tryz.prog 97 #[.int .i64 x] w fun e B=>e = .returned (.int .i64 (bu x))∧B=w:=by
 go_enter Tryz.func97,Tryz.ntmps97
 go_wp2;refine bodyPost_ret (v:= .int .i64 (bu x)) (by simp[results,Tryz.results97,go_sem,awT x aI (by omega), *]) rfl ⟨rfl,rfl⟩
end Go.Proofs.YtcbcenfjigcfkaaGreatDoor
namespace Go.Proofs.YtcbcenfjigcfkaaGreatDoor
open Go.RowKit Go.WideMaps
open Go.ChangeMaps (setBlock heap_setBlock_same heap_setBlock_other)
variable {first:Nat}
theorem afJ:Tryz.prog.underlying 79=some (.array 2 3):=by kernel_rfl
theorem ap2:Tryz.prog.underlying 3=some (.int .i64):=by kernel_rfl
theorem W8:Tryz.prog.underlying 110=some (.map 79 3):=by kernel_rfl
theorem afI:(79:TypeId)<Tryz.prog.types.size:=jN (by kernel_rfl)
theorem atC:ArrKey Tryz.prog 79 3 2:=⟨afJ,by kernel_rfl,by kernel_rfl,by kernel_rfl⟩
theorem atE:(match Tryz.prog.underlying 79 with | some (.array _ _) | some (.struct _)=>true | _=>false)=true:=by rw[afJ]
theorem aqq:laidOutB Tryz.prog=true:=by kernel_rfl
theorem Oz:KeyLaw Tryz.prog 79:=deep_law_laid aqq (m:=2) (by omega) afI (by kernel_rfl) atE
theorem ahY (x:Int) (h:0<=x∧x<9223372036854775808):(Lit.int .i64 x).wf=true:=by
 have bp:IntKind.i64.min=-9223372036854775808:=by decide
 have aS:IntKind.i64.max=9223372036854775807:=by decide
 simp[Lit.wf,bp,aS];omega
def zw (x y:Int):Value:= .agg #[.int .i64 x,.int .i64 y]
theorem XE (x y:Int) (J:0<=x∧x<9223372036854775808) (aF:0<=y∧y<9223372036854775808):∃s,keyOf Tryz.prog 79 (zw x y)=some (.string s) :=
 ⟨_,keyOf_pair atC ap2 ⟨Tryz.prog.types.size - 1,by have h:=afI;exact(Nat.succ_pred_eq_of_pos (Nat.lt_of_le_of_lt (cE _) h)).symm⟩ (ahY x J) (ahY y aF)⟩
def yn (w:World) (M first:Nat) (hs:List Z):Prop :=
 ∃(bo:Array MapEntry) (BQ:Nat),w.heap[M]?=some (.map bo BQ)∧bo.size=hs.length∧∀(i:Nat) (d:Z),hs[i]?=some d->∃Di,bo[i]?=some ⟨zw d.x d.y,.int .i64 (2*((first:Int)+(i:Int))),Di⟩
theorem aeU {a b c d:Int} (h:zw a b=zw c d):a=c∧b=d:=by
 unfold zw at h;simpa using h
theorem yn.keys {hs:List Z} {bo:Array MapEntry} (ak:∀(i:Nat) (d:Z),hs[i]?=some d->0<=d.y∧d.y<d.x∧d.x<1073741824) (gY:bo.size=hs.length) (h:∀(i:Nat) (d:Z),hs[i]?=some d->∃Di,bo[i]?=some ⟨zw d.x d.y,.int .i64 (2*((first:Int)+(i:Int))),Di⟩):∀e∈bo.toList,∃l,keyOf Tryz.prog 79 e.key=some l:=by
 intro e ay;obtain⟨i,hi⟩:=List.mem_iff_getElem?.1 ay;have qW:=(cr.1 hi).1;obtain⟨d,U⟩:∃d,hs[i]?=some d:=⟨hs[i]'(by simpa[gY] using qW),ct _⟩
 obtain⟨Di,D⟩:=h i d U;rw[Array.getElem?_toList,D] at hi;cases hi
 have:=ak i d U
 obtain⟨s,hs⟩:=XE d.x d.y (by omega) (by omega);exact⟨_,hs⟩
theorem W9 {w:World} {M:Nat} {hs:List Z} (H:bI first hs) (D:first+hs.length<=268435456) (h:yn w M first hs) (p q:Int) (aE:0<=p∧p<1073741824) (aJ:0<=q∧q<1073741824) :
  (pm hs p q=none∧(Instr.lookup 110 (.map (some M)) (zw p q) true).run Tryz.prog w = .ok (.tuple #[.int .i64 0,.bool false]) w) ∨
  ∃i,pm hs p q=some i∧(Instr.lookup 110 (.map (some M)) (zw p q) true).run Tryz.prog w = .ok (.tuple #[.int .i64 (2*((first:Int)+(i:Int))),.bool true]) w:=by
 obtain⟨bo,BQ,F,O,aW⟩:=h;have ak:∀(i:Nat) (d:Z),hs[i]?=some d->0<=d.y∧d.y<d.x∧d.x<1073741824:=fun i d U=>by
  have:=H.low i d U
  have:=(cr.1 U).1
  omega
 obtain⟨s,X⟩:=XE p q (by omega) (by omega);rcases Oz.find w X bo.toList (yn.keys ak O aW) with ⟨sM,oU⟩ | ⟨j,ko,sM,oU,yw⟩
 ·refine .inl ⟨?_,by simp[Instr.lookup,run_underlying W8,MapKept.run_getObj_map F,Oz.check w _ X,sM,Result.andThen]⟩;cases ah:pm hs p q with
  | none=>rfl
  | some i =>
   obtain⟨d,U,rfl,rfl⟩:=UN ah;obtain⟨Di,zf⟩:=aW i d U;exact absurd rfl (oU _ (bn (by rw[Array.getElem?_toList];exact zf)))
 ·have aT:bo[j]?=some ko:=by simpa using oU
  have Nz:=(Array.getElem?_eq_some_iff.1 aT).1;obtain⟨d,U⟩:∃d,hs[j]?=some d:=⟨hs[j]'(by omega),ct _⟩
  obtain⟨Di,zf⟩:=aW j d U;rw[aT] at zf;cases zf;obtain⟨rfl,rfl⟩:=aeU yw;refine .inr ⟨j,?_,by simp[Instr.lookup,run_underlying W8,MapKept.run_getObj_map F,Oz.check w _ X,sM,Result.andThen]⟩;cases ah:pm hs d.x d.y with
  | none=>exact absurd ⟨rfl,rfl⟩ (UM ah j d U)
  | some i =>
   obtain⟨BR,Ic,bp,aS⟩:=UN ah;rw[H.one i j BR d Ic U bp aS]
theorem aeV {w:World} {M:Nat} {hs:List Z} (H:bI first hs) (D:first+hs.length<=268435456) (h:yn w M first hs) (p q:Int) (aE:0<=p∧p<1073741824) (aJ:0<=q∧q<1073741824) (ag:pm hs p q=none) :
  ∃B,(Instr.mapUpdate 110 (.map (some M)) (zw p q) (.int .i64 (2*((first:Int)+(hs.length:Int))))).run Tryz.prog w = .ok () B∧yn B M first (hs++[⟨p,q⟩])∧∃amr alD,B=setBlock w M (.map amr alD):=by
 obtain⟨bo,BQ,F,O,aW⟩:=h;have ak:∀(i:Nat) (d:Z),hs[i]?=some d->0<=d.y∧d.y<d.x∧d.x<1073741824:=fun i d U=>by
  have:=H.low i d U
  have:=(cr.1 U).1
  omega
 obtain⟨s,X⟩:=XE p q (by omega) (by omega);rcases Oz.find w X bo.toList (yn.keys ak O aW) with ⟨sM,oU⟩ | ⟨j,ko,sM,oU,yw⟩
 ·refine⟨setBlock w M (.map (bo.push ⟨zw p q,.int .i64 (2*((first:Int)+(hs.length:Int))),BQ⟩) (BQ+1)),by simp[Instr.mapUpdate,run_underlying W8,MapKept.run_getObj_map F,Oz.check w false X,sM,MapKept.run_setObj_map _ F,Result.andThen,setBlock],?_,_,_,rfl⟩;refine⟨_,_,heap_setBlock_same F _,by simp[O],fun i d U=>?_⟩;by_cases hi:i<hs.length
  ·rw[mS hi] at U;obtain⟨Di,zf⟩:=aW i d U;exact⟨Di,by rw[Array.getElem?_push_lt (by omega)];rw[<-zf,Array.getElem?_eq_getElem (by omega)]⟩
  ·rw[lu (by omega)] at U;have ko:i - hs.length=0:=by
    have:=(cr.1 U).1
    simp at this;omega
   rw[ko] at U;cases U;have bp:i=bo.size:=by omega
   subst bp;exact⟨BQ,by rw[O];simp[<-O]⟩
 ·have aT:bo[j]?=some ko:=by simpa using oU
  have Nz:=(Array.getElem?_eq_some_iff.1 aT).1;obtain⟨d,U⟩:∃d,hs[j]?=some d:=⟨hs[j]'(by omega),ct _⟩
  obtain⟨Di,zf⟩:=aW j d U;rw[aT] at zf;cases zf;obtain⟨rfl,rfl⟩:=aeU yw;exact absurd ⟨rfl,rfl⟩ (UM ag j d U)
end Go.Proofs.YtcbcenfjigcfkaaGreatDoor
