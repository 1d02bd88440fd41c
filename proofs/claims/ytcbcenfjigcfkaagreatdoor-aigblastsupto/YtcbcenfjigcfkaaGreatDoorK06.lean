import Derived.Test.YtcbcenfjigcfkaaGreatDoorK05
set_option maxRecDepth 100000
set_option maxHeartbeats 40000000
namespace Go.Proofs.YtcbcenfjigcfkaaGreatDoor
open Go.RowKit
def ip (x:Int):Value:= .int .i64 x
theorem ae5 (n:Nat):(madeCells (Value.int .i64 0).cells (n*1)).toList=(List.replicate n (0:Int)).map ip:=by
 rw[Nat.mul_one];apply List.ext_getElem?;intro i;by_cases h:i<n
 ·simp[madeCells,Value.cells,ip,h,Nat.mod_one]
 ·simp[madeCells,Value.cells,ip,h]
theorem apT:(Tryz.prog.info? 3).map (fun i=>(i.zero,i.size,i.bytes))=some (some (.int .i64 0),1,8):=by kernel_rfl
theorem sW:∃i,Tryz.prog.info? 3=some i∧i.zero=some (.int .i64 0)∧i.size=1∧i.bytes=8:=by
 have h:=apT;cases hi:Tryz.prog.info? 3 with
 | none=>rw[hi] at h;cases h
 | some i=>rw[hi] at h;simp at h;exact⟨i,rfl,h.1,h.2.1,h.2.2⟩
def cK (Ps:Nat->Prop) (g:Nat):Nat->Prop:=fun b=>Ps b∨b=g
def cv (Ps:Nat->Prop) (w:World) (v:Value) (ls:List Int):Prop :=
 ∃b o c,v = .slice (some ⟨b,o,none⟩) ls.length c∧ls.length<=c∧Ps b∧∀(i:Nat) (x:Int),ls[i]?=some x->w.cell? ⟨b,o+i,none⟩=some (.int .i64 x)
theorem cv.keep {Ps:Nat->Prop} {w B:World} {v:Value} {ls:List Int} (h:cv Ps w v ls) (X:∀b,Ps b->B.heap[b]?=w.heap[b]?):cv Ps B v ls:=by
 obtain⟨b,o,c,F,O,aW,cw⟩:=h;exact⟨b,o,c,F,O,aW,fun i x J=>(dA (a:=⟨b,o+i,none⟩) (X b aW)).trans (cw i x J)⟩
theorem cv.to {C:Nat} {Ps:Nat->Prop} {w B:World} {v:Value} {ls:List Int} (h:cv Ps w v ls) (X:f3 C Ps w B):cv Ps B v ls:=h.keep X.block
theorem cv.more {Ps an:Nat->Prop} {w:World} {v:Value} {ls:List Int} (h:cv Ps w v ls) (aE:∀b,Ps b->an b):cv an w v ls:=by
 obtain⟨b,o,c,F,O,aW,cw⟩:=h;exact⟨b,o,c,F,O,aE b aW,cw⟩
theorem f3.less {C:Nat} {Ps an:Nat->Prop} {w B:World} (h:f3 C an w B) (aE:∀b,Ps b->an b):f3 C Ps w B:=⟨h.below,fun b D=>h.block b (aE b D)⟩
theorem bZ.less {C:Nat} {w:World} {E M first:Nat} {hs:List Z} {Ps an:Nat->Prop} (h:bZ C w E M first hs an) (aE:∀b,Ps b->an b):bZ C w E M first hs Ps:=by
 obtain⟨u,bb,aJ⟩:=h.gt;exact⟨⟨u,bb,fun b D=>aJ b (aE b D)⟩,h.ok,h.lo,h.len,fun b D=>h.ps b (aE b D)⟩
theorem lK {Ps:Nat->Prop} {g:Nat}:∀b,Ps b->cK Ps g b:=fun _ h=> .inl h
theorem bZ.kp {C:Nat} {w B:World} {E M first:Nat} {hs:List Z} {Ps:Nat->Prop} (h:bZ C w E M first hs Ps) (D:V w B):f3 C Ps w B:=⟨D.mono h.lo.2.2,fun b aE=>D.block b (h.ps b aE).1⟩
theorem bZ.add {C:Nat} {w B:World} {E M first:Nat} {hs:List Z} {Ps:Nat->Prop} (h:bZ C w E M first hs Ps) (D:V w B) {g:Nat} (F:w.heap.size<=g) (O:g<B.heap.size):bZ C B E M first hs (cK Ps g):=by
 obtain⟨u,bb,uF⟩:=h.gt;have aB:=bb.lt;have aov:=bb.lm;refine⟨⟨u,bb.to D,fun b aE e=>?_⟩,h.ok,⟨h.lo.1,h.lo.2.1,bL h.lo.2.2 D.size⟩,h.len,fun b aE=>?_⟩
 ·rcases aE with aE | rfl
  ·exact uF b aE e
  ·have:=(bb.ow.lt b e).2;omega
 ·rcases aE with aE | rfl
  ·exact⟨bk (h.ps b aE).1 D.size,(h.ps b aE).2⟩
  ·exact⟨O,by omega,by omega⟩
theorem qg.far {C:Nat} {w B:World} {E M first:Nat} {hs:List Z} {u:Value} (h:qg C w E M first hs u) {g:Nat} (af:w.grownBy B (some g)) (F:g≠E) (O:g≠M) (aW:u.ownBlock≠some g):qg C B E M first hs u:=by
 have D:∀k,k<w.heap.size->k≠g->B.heap[k]?=w.heap[k]?:=fun k X ag=>af.block k X (fun e=>ag (Option.some.inj e))
 have ar:∀j,B.cell? ⟨E,j,none⟩=w.cell? ⟨E,j,none⟩:=fun j=>dA (a:=⟨E,j,none⟩) (D E h.lt (Ne.symm F))
 exact⟨(ar 0).trans h.c0,(ar 1).trans h.c1,(ar 2).trans h.c2,h.ow.kept af (.inr aW),h.kn.to (D M h.lm (Ne.symm O)),fun j=>(World.frozen?_of_block (a:=⟨E,j,none⟩) (D E h.lt (Ne.symm F))).trans (h.fr j),bL h.ge af.size,bk h.lt af.size,bk h.lm af.size,h.ne,h.ng,h.nm⟩
theorem bZ.far {C:Nat} {w B:World} {E M first:Nat} {hs:List Z} {Ps:Nat->Prop} (h:bZ C w E M first hs Ps) {g:Nat} (af:w.grownBy B (some g)) (aE:Ps g):bZ C B E M first hs Ps:=by
 obtain⟨u,bb,uF⟩:=h.gt;have rG:=h.ps g aE;exact⟨⟨u,bb.far af rG.2.1 rG.2.2 (uF g aE),uF⟩,h.ok,⟨h.lo.1,h.lo.2.1,bL h.lo.2.2 af.size⟩,h.len,fun b D=>⟨bk (h.ps b D).1 af.size,(h.ps b D).2⟩⟩
structure hA (C:Nat) (az w:World) (E M first:Nat) (hs:List Z) (Ps:Nat->Prop) (g n:Nat) (ls:List Int):Prop where
 gt:bZ C w E M first hs (cK Ps g)
 kp:f3 C Ps az w
 ow:w.ownsRow C 3 1 (.slice (some ⟨g,0,none⟩) n n) n (ls.map ip)
 new:¬Ps g∧C<=g
theorem hA.start {C:Nat} {w w1:World} {E M first:Nat} {hs:List Z} {Ps:Nat->Prop} {n g:Nat} (h:bZ C w E M first hs Ps) (D:V w w1) {ls:List Int} (Ie:w.heap.size<=g) (aY:w1.ownsRow w.heap.size 3 1 (.slice (some ⟨g,0,none⟩) n n) n (ls.map ip)):hA C w w1 E M first hs Ps g n ls :=
 ⟨h.add D Ie (aY.lt _ rfl).2,h.kp D,xN aY h.lo.2.2,fun aE=>by have:=(h.ps _ aE).1;omega,by have:=h.lo.2.2;omega⟩
theorem zD {w B:World} {C e n c:Nat} {g:Nat} {xs:List Value} (h:w.ownsRow C e 1 (.slice (some ⟨g,0,none⟩) n c) n xs) (D:B.heap[g]?=w.heap[g]?):B.ownsRow C e 1 (.slice (some ⟨g,0,none⟩) n c) n xs:=by
 refine⟨h.1,?_⟩;rcases h.2 with ⟨d9,_⟩ | ⟨oB,cap,hV,d9,ar,np,oH⟩
 ·simp at d9
 ·simp only[Value.slice.injEq,Option.some.injEq,Addr.mk.injEq,and_true,true_and] at d9;obtain⟨rfl,rfl⟩:=d9;exact .inr ⟨g,c,hV,rfl,ar,D.trans np,oH⟩
theorem hA.call {C:Nat} {az w B:World} {E M first:Nat} {hs bA:List Z} {Ps:Nat->Prop} {g n:Nat} {ls:List Int} (h:hA C az w E M first hs Ps g n ls) (af:bZ C B E M first bA (cK Ps g)) (X:f3 C (cK Ps g) w B):hA C az B E M first bA Ps g n ls :=
 ⟨af,h.kp.trans (X.less lK),zD h.ow (X.block g (.inr rfl)),h.new⟩
theorem hA.store {C:Nat} {az w B:World} {E M first:Nat} {hs:List Z} {Ps:Nat->Prop} {g n:Nat} {ls:List Int} (h:hA C az w E M first hs Ps g n ls) (k:Nat) (x:Int) (aw:w.setCell ⟨g,k,none⟩ (.int .i64 x)=B):hA C az B E M first hs Ps g n (ls.set k x):=by
 obtain⟨F,O⟩:=h.ow.stored k (ip x);have e:w.setCell ⟨g,k,none⟩ (ip x)=B:=aw;rw[e] at F O;rw[<-List.map_set] at F;exact⟨h.gt.far O (.inr rfl),⟨h.kp.below.trans (jB O h.gt.lo.2.2 (fun k X=>by cases X;exact h.new.2)),fun b aE=>(O.block b (h.gt.ps b (.inl aE)).1 (fun e=>h.new.1 (by cases e;exact aE))).trans (h.kp.block b aE)⟩,F,h.new⟩
theorem hA.len {C:Nat} {az w:World} {E M first:Nat} {hs:List Z} {Ps:Nat->Prop} {g n:Nat} {ls:List Int} (h:hA C az w E M first hs Ps g n ls):ls.length=n:=by have:=h.ow.1;simp at this;exact this
theorem hA.word {C:Nat} {az w:World} {E M first:Nat} {hs:List Z} {Ps:Nat->Prop} {g n:Nat} {ls:List Int} (h:hA C az w E M first hs Ps g n ls):cv (cK Ps g) w (.slice (some ⟨g,0,none⟩) n n) ls:=by
 have hl:=h.len;refine⟨g,0,n,by rw[hl],by omega,.inr rfl,fun i x J=>?_⟩;have hi:=(cr.1 J).1;rw[Nat.zero_add,h.ow.cellAt i (by omega),fT,J]
 rfl
theorem hA.cell {C:Nat} {az w:World} {E M first:Nat} {hs:List Z} {Ps:Nat->Prop} {g n:Nat} {ls:List Int} (h:hA C az w E M first hs Ps g n ls) {k:Nat} (X:k<n):(∃x:Int,ls[k]?=some x∧w.cell? ⟨g,k,none⟩=some (.int .i64 x))∧w.frozen? ⟨g,k,none⟩=false:=by
 have hl:=h.len;refine⟨⟨ls[k],ct _,?_⟩,h.ow.frozenAt k⟩;rw[h.ow.cellAt k (by omega),fT,ct (by omega)]
 rfl
def gD (C:Nat) (w:World) (E M first:Nat) (Ps:Nat->Prop) (res:List Z×List Int) (e:Ending) (B:World):Prop :=
 (res.1.length<=1048576∧∃v an,e = .returned v∧(∀b,Ps b->an b)∧bZ C B E M first res.1 an∧f3 C Ps w B∧cv an B v res.2)∨(1048576<res.1.length∧(∃p,e=fI p∧qG B p 11 0)∧Below C w B)
theorem hA.done {C:Nat} {az w:World} {E M first:Nat} {Ps:Nat->Prop} {g n:Nat} {res:List Z×List Int} (h:hA C az w E M first res.1 Ps g n res.2):gD C az E M first Ps res (.returned (.slice (some ⟨g,0,none⟩) n n)) w :=
 .inl ⟨h.gt.len.1,_,_,rfl,lK,h.gt,h.kp,h.word⟩
theorem Sl (a:List Int) (n k:Nat) (y:Int) (ad:a.length=k) (X:k<n):(a++List.replicate (n - k) 0).set k y=(a++[y])++List.replicate (n - (k+1)) 0:=by
 have:=Lv a 0 y (List.replicate (n - (k+1)) 0)
 rw[ad] at this;rw[show n - k=(n - (k+1))+1 by omega,List.replicate_succ,this];simp
def ix {α:Type} (f:List Z->α->List Z×Int):List Z->List α->List Z×List Int
 | hs,[]=>(hs,[])
 | hs,a::l=>((ix f (f hs a).1 l).1,(f hs a).2::(ix f (f hs a).1 l).2)
theorem agq {α:Type} (f:List Z->α->List Z×Int) (l r:List α) (hs:List Z):ix f hs (l++r)=((ix f (ix f hs l).1 r).1,(ix f hs l).2++(ix f (ix f hs l).1 r).2):=by
 induction l generalizing hs with
 | nil=>simp[ix]
 | cons a l aA=>simp only[List.cons_append,ix,aA]
theorem Yf {α:Type} (f:List Z->α->List Z×Int) (l:List α) (hs:List Z):(ix f hs l).2.length=l.length:=by
 induction l generalizing hs with
 | nil=>rfl
 | cons a l aA=>simp[ix,aA]
theorem auT {α:Type} (f:List Z->α->List Z×Int) {l:List α} {k:Nat} {a:α} (h:l[k]?=some a) (hs:List Z):ix f hs (l.take (k+1))=((f (ix f hs (l.take k)).1 a).1,(ix f hs (l.take k)).2++[(f (ix f hs (l.take k)).1 a).2]):=by
 rw[gM l k a h,agq]
 rfl
def LP {α:Type} (first:Nat) (f:List Z->α->List Z×Int) (P:List Z->α->Prop):Prop:=∀hs a,bI first hs->P hs a->(∃n,fU first hs (f hs a).1 n)∧bN first (f hs a).1 (f hs a).2
theorem Ye {α:Type} {first:Nat} {f:List Z->α->List Z×Int} {P:List Z->α->Prop} (ah:LP first f P) (tj:∀hs bA n a,fU first hs bA n->P hs a->P bA a) (l:List α) (hs:List Z) (h:bI first hs) (hl:∀a,a∈l->P hs a):∃n,fU first hs (ix f hs l).1 n:=by
 induction l generalizing hs with
 | nil=>exact⟨0,fU.refl h 0⟩
 | cons a l aA =>
  obtain⟨n,ag⟩:=(ah hs a h (hl a qe)).1;obtain⟨m,ae⟩:=aA (f hs a).1 ag.ok (fun b D=>tj _ _ _ _ ag (hl b (qd _ D)));exact⟨n+m,ag.trans ae⟩
theorem auS {α:Type} {first:Nat} {f:List Z->α->List Z×Int} {P:List Z->α->Prop} (ah:LP first f P) (tj:∀hs bA n a,fU first hs bA n->P hs a->P bA a) (l:List α) (hs:List Z) (h:bI first hs) (hl:∀a,a∈l->P hs a) {k:Nat} {a:α} (X:l[k]?=some a) :
  (∃n,fU first hs (ix f hs (l.take k)).1 n)∧P (ix f hs (l.take k)).1 a∧(f (ix f hs (l.take k)).1 a).1.length<=(ix f hs l).1.length∧(ix f hs (l.take k)).1.length<=(f (ix f hs (l.take k)).1 a).1.length:=by
 obtain⟨n,ag⟩:=Ye ah tj (l.take k) hs h (fun b D=>hl b (su D));have Ku:=tj _ _ _ _ ag (hl a (bn X));refine⟨⟨n,ag⟩,Ku,?_,?_⟩
 ·obtain⟨m,ae⟩:=(ah _ a ag.ok Ku).1;have e:l=l.take k++(a::l.drop (k+1)):=by
   have mr:=(cr.1 X).1
   conv=>lhs;rw[<-List.take_append_drop k l]
   rw[List.drop_eq_getElem_cons mr];rw[ct mr] at X;rw[Option.some.inj X]
  conv=>rhs;rw[e]
  rw[agq];simp only[ix];obtain⟨xJ,DD⟩:=Ye ah tj (l.drop (k+1)) _ ae.ok (fun b D=>tj _ _ _ _ (ag.trans ae) (hl b (List.mem_of_mem_drop D)));exact DD.len.1
 ·obtain⟨m,ae⟩:=(ah _ a ag.ok Ku).1;exact ae.len.1
theorem aq0 (first:Nat) (b:Int) (l:List Int) (hs:List Z):xK first hs l b=ix (fun hs a=>bE first hs a b) hs l:=by
 induction l generalizing hs with
 | nil=>rfl
 | cons a l aA=>simp only[xK,ix,aA]
theorem UF (join:List Z->Int->Int->List Z×Int) (l r:List Int) (hs:List Z):jb join hs l r=ix (fun hs p=>join hs p.1 p.2) hs (l.zip r):=by
 induction l generalizing r hs with
 | nil=>rfl
 | cons a l aA =>
  cases r with
  | nil=>rfl
  | cons b r=>simp only[jb,List.zip_cons_cons,ix,aA]
theorem aqZ {first:Nat} (ah:1<=first) (b:Int):LP first (fun hs a=>bE first hs a b) (fun hs a=>bN first hs a∧bN first hs b):=fun _ _ h aE=>⟨⟨1,(j2 ah h aE.1 aE.2).gd⟩,(j2 ah h aE.1 aE.2).inl⟩
def eG {α:Type} (f:List Z->α->List Z×Int) (hs:List Z) (l:List α) (k:Nat):List Z×List Int:=ix f hs (l.take k)
theorem Sm {α:Type} (f:List Z->α->List Z×Int) (hs:List Z) (l:List α):eG f hs l l.length=ix f hs l:=by unfold eG;rw[List.take_length]
theorem Yb {α:Type} (f:List Z->α->List Z×Int) {l:List α} {k:Nat} {a:α} (h:l[k]?=some a) (hs:List Z):eG f hs l (k+1)=((f (eG f hs l k).1 a).1,(eG f hs l k).2++[(f (eG f hs l k).1 a).2]):=auT f h hs
theorem CB {α:Type} (f:List Z->α->List Z×Int) {l:List α} {k:Nat} (h:k<=l.length) (hs:List Z):(eG f hs l k).2.length=k:=by unfold eG;rw[Yf,jx];omega
theorem Lx {α:Type} {first:Nat} {f:List Z->α->List Z×Int} {P:List Z->α->Prop} (ah:LP first f P) (tj:∀hs bA n a,fU first hs bA n->P hs a->P bA a) (l:List α) (hs:List Z) (h:bI first hs) (hl:∀a,a∈l->P hs a) {k:Nat} {a:α} (X:l[k]?=some a) :
  (∃n,fU first hs (eG f hs l k).1 n)∧P (eG f hs l k).1 a∧(f (eG f hs l k).1 a).1.length<=(ix f hs l).1.length:=by
 obtain⟨F,O,aW,_⟩:=auS ah tj l hs h hl X;exact⟨F,O,aW⟩
theorem hA.first_ {α:Type} {C:Nat} {w w1:World} {E M first:Nat} {f:List Z->α->List Z×Int} {hs:List Z} {l:List α} {Ps:Nat->Prop} {g n:Nat} (h:hA C w w1 E M first hs Ps g n (List.replicate n 0)):hA C w w1 E M first (eG f hs l 0).1 Ps g n ((eG f hs l 0).2++List.replicate (n - 0) 0):=h
theorem hA.next {α:Type} {C:Nat} {az w w2 w3:World} {E M first:Nat} {f:List Z->α->List Z×Int} {hs:List Z} {l:List α} {Ps:Nat->Prop} {g n k:Nat} {a:α} (h:hA C az w E M first (eG f hs l k).1 Ps g n ((eG f hs l k).2++List.replicate (n - k) 0)) (ad:l[k]?=some a) (ag:n=l.length)
  (af:bZ C w2 E M first (f (eG f hs l k).1 a).1 (cK Ps g)) (X:f3 C (cK Ps g) w w2) (aw:w2.setCell ⟨g,k,none⟩ (.int .i64 (f (eG f hs l k).1 a).2)=w3) :
  hA C az w3 E M first (eG f hs l (k+1)).1 Ps g n ((eG f hs l (k+1)).2++List.replicate (n - (k+1)) 0):=by
 have mr:=(cr.1 ad).1
 have:=(h.call af X).store k _ aw
 rw[Sl _ n k _ (CB f (by omega) hs) (by omega)] at this;rw[Yb f ad];exact this
theorem hA.last {α:Type} {C:Nat} {az w:World} {E M first:Nat} {f:List Z->α->List Z×Int} {hs:List Z} {l:List α} {Ps:Nat->Prop} {g n k:Nat} (h:hA C az w E M first (eG f hs l k).1 Ps g n ((eG f hs l k).2++List.replicate (n - k) 0)) (ag:n=l.length) (X:k=n):gD C az E M first Ps (ix f hs l) (.returned (.slice (some ⟨g,0,none⟩) n n)) w:=by
 subst X ag;rw[Sm,Nat.sub_self,List.replicate_zero,List.append_nil] at h;exact h.done
theorem Kc {C:Nat} {w w1:World} {E M first:Nat} {hs:List Z} {Ps:Nat->Prop} {n:Nat} (h:bZ C w E M first hs Ps) (af:w.grownBy w1 none) (aY:w1.ownsRow w.heap.size 3 1 (.slice (some ⟨w.heap.size,0,none⟩) n n) n (madeCells (Value.int .i64 0).cells (n*1)).toList):hA C w w1 E M first hs Ps w.heap.size n (List.replicate n 0):=by
 rw[ae5] at aY;exact hA.start h (tw af) (aL _) aY
theorem ae7 (C:Nat) (w:World) (E M first:Nat) (hs:List Z) (Ps:Nat->Prop) (h:bZ C w E M first hs Ps) (v:Value) (l:List Int) (b:Int) (L:cv Ps w v l) (hl:bt first hs l) (D:bN first hs b) (ag:l.length<=65536) :
  Calls Tryz.prog 104 #[.pointer (some ⟨E,0,none⟩),v,.int .i64 b] w (gD C w E M first Ps (xK first hs l b)):=by
 rw[aq0];have eC:Hid (∀(k:Nat) (a:Int),l[k]?=some a->(∃n,fU first hs (eG (fun hs a=>bE first hs a b) hs l k).1 n)∧(bN first (eG (fun hs a=>bE first hs a b) hs l k).1 a∧bN first (eG (fun hs a=>bE first hs a b) hs l k).1 b)∧(bE first (eG (fun hs a=>bE first hs a b) hs l k).1 a b).1.length<=(ix (fun hs a=>bE first hs a b) hs l).1.length):=fun k a ad=>Lx (aqZ h.len.2.1 b) (fun _ _ _ _ g p=>⟨g.inL p.1,g.inL p.2⟩) l hs h.ok (fun a ad=>⟨hl a ad,D⟩) ad
 have jq:=K L;obtain⟨gs,iW,Jj,rfl,KR,-,-⟩:=L;obtain⟨n,bP⟩:∃n,Hid (n=l.length):=⟨_,rfl⟩
 rw[<-bP.out] at ag KR ⊢;obtain⟨eE,hi,ao,bA,jJ⟩:=sW;have ke:eE.bytes*n<=281474976710656:=by rw[jJ];omega
 have jc:n<=maxLen:=by simp only[maxLen];omega
 have tok:True:=trivial
 change Hid _ at h hi ao bA
 clear hl D jJ;go_enter Tryz.func104,Tryz.ntmps104
 go_wp2_with (have _t:=tok;at_make;(refine wpList_make_full _ rfl (.tmp 10) (.tmp 10) 22 rfl w.heap.size 3 eE _ 1 Tryz.underlying22 hi ao bA .i64 .i64 (n:Int) (n:Int) n rfl rfl rfl rfl ke jc (aL _) ?_;intro w1 gX ij;have ch:=K (Kc h ij gX);clear tok gX ij))
 generalize w.heap.size=g at *;go_loopw [14] (fun aq B=>∃(k:Nat),k<=n∧aq = .int .i64 k∧Hid (hA C w B E M first (eG (fun hs a=>bE first hs a b) hs l k).1 Ps g n ((eG (fun hs a=>bE first hs a b) hs l k).2++List.replicate (n - k) 0))) (fun aq _=>n - (intOf aq).toNat)
 case atStart=>exact⟨0,cE _,rfl,hA.first_ ch⟩
 case round =>
  obtain⟨k,X,rfl,bB⟩:=hrel;by_cases aB:k<n
  ·obtain⟨a,ad⟩:=bS (l:=l) (k:=k) (by have:=bP.out;omega);obtain⟨avR,avU,aAt,ay,-,-,ar⟩:=jq.to bB.kp;obtain⟨QW,zh⟩:gs=avR∧iW=avU:=by simp at ay;exact⟨ay.1.1,ay.1.2⟩
   subst QW zh;have c0:=ar k a ad;obtain⟨-,⟨nr,ek⟩,fG⟩:=eC k a ad;have nE:=K (sF C wr E M first _ (cK Ps g) bB.gt a b nr ek);have fa:(k:Int)<(n:Int):=by omega
   have bM:=bF ((k:Int)+1)
   change Hid _ at fG ad
   clear ay ar nr ek;go_wp2_with fail
   go_at_call 90;refine nE.mono ?_;rintro e w2 (⟨ae,rfl,af,bz⟩ | ⟨ae,⟨z,rfl,bq⟩,D⟩)
   ·have iX:=K (bB.call af bz);have cl:=K (show _∧_ from ⟨af,bz⟩);obtain⟨⟨i4,-,hold⟩,h1⟩:=iX.cell aB;clear ae af bz c0;unfold hz;go_wp2_with fail
    generalize av:World.setCell w2 _ _=w3;have jn:=K (bB.next ad bP cl.1 cl.2 av);clear av hold h1 iX cl bB nE;go_wp2;go_roundw
    case measure=>simp[intOf];omega
    exact⟨k+1,by omega,by simp,jn⟩
   ·have bd:=K (show _∧_∧_ from ⟨bk ae fG,bq,bB.kp.below.trans D⟩);clear ae bq D;unfold fI;go_wp2;exact⟨rfl,.inr ⟨bd.1,⟨z,rfl,bd.2.1⟩,bd.2.2⟩⟩
  ·have cQ:¬((k:Int)<(n:Int)):=by omega
   have jg:=K (bB.last bP (by omega));go_wp2;go_ret
   exact jg
def gN (Q:Exit->Act->World->Prop):Exit->Act->World->Prop
 | .panic c,a,w=>∀eP,eP.defers=a.defers->Q (.panic c) eP w
 | e,a,w=>Q e a w
theorem gN.normal {Q:Exit->Act->World->Prop} {a:Act} {w:World} (h:Q .normal a w):gN Q .normal a w:=h
theorem gN.panic {Q:Exit->Act->World->Prop} {c:List PanicEntry} {a:Act} {w:World} (h:∀eP,eP.defers=a.defers->Q (.panic c) eP w):gN Q (.panic c) a w:=h
theorem gN.imp {Q:Exit->Act->World->Prop}:∀(e:Exit) (a:Act) (w:World),gN Q e a w->Q e a w:=fun e a w h=>by
 cases e <;> first | exact h | exact h a rfl
theorem nW {P:Program} {id:Nat} {jL:Array Oper} {b:Bool} {Q:Exit->Act->World->Prop} {a:Act} {w:World} (h:(Code.region id jL b).wp P (gN Q) a w):(Code.region id jL b).wp P Q a w :=
 Code.wp_mono gN.imp h
theorem ab5 (args:Array Value) (w:World):(callFunc 90 args).run Tryz.prog w = .ok (.enter 90 args) w:=by go_simp
theorem ab6 (args:Array Value) (w:World):(callFunc 95 args).run Tryz.prog w = .ok (.enter 95 args) w:=by go_simp
theorem Uw (args:Array Value) (w:World):(callFunc 96 args).run Tryz.prog w = .ok (.enter 96 args) w:=by go_simp
theorem Qk (Aj:Nat) (sC:Nat->List Z->Int->Int->List Z×Int) {Xm:Nat} {SY:Bool->Bool->Bool} (Ia:∀(args:Array Value) (w:World),(callFunc Aj args).run Tryz.prog w = .ok (.enter Aj args) w) (aT:∀first,1<=first->E8 first (sC first) Xm SY) (tj:∀(C:Nat) (w:World) (E M first:Nat) (hs:List Z) (Ps:Nat->Prop),bZ C w E M first hs Ps->∀a b,bN first hs a->bN first hs b->Calls Tryz.prog Aj #[.pointer (some ⟨E,0,none⟩),.int .i64 a,.int .i64 b] w (pi C w E M first Ps (sC first hs a b) hz)) (C:Nat) (w:World) (E M first:Nat) (hs:List Z) (Ps:Nat->Prop) (h:bZ C w E M first hs Ps) (hJ gZ:Value) (l r:List Int) (hS:cv Ps w hJ l) (il:cv Ps w gZ r) (hl:bt first hs l) (ak:bt first hs r) (aU:l.length=r.length) (ag:l.length<=65536) :
  Calls Tryz.prog 91 #[hJ,gZ,.func (.func Aj) #[.pointer (some ⟨E,0,none⟩)] #[]] w (gD C w E M first Ps (jb (sC first) hs l r)):=by
 rw[UF];have ef:=h.len.2.1;obtain⟨f,ah⟩:=cf ((fun hs (p:Int×Int)=>sC first hs p.1 p.2));have eC:Hid (∀(k:Nat) (x y:Int),(l.zip r)[k]?=some (x,y)->(∃n,fU first hs (eG f hs (l.zip r) k).1 n)∧(bN first (eG f hs (l.zip r) k).1 x∧bN first (eG f hs (l.zip r) k).1 y)∧(f (eG f hs (l.zip r) k).1 (x,y)).1.length<=(ix f hs (l.zip r)).1.length):=fun k x y ad=>by
  rw[ah];exact Lx (P:=fun hs (p:Int×Int)=>bN first hs p.1∧bN first hs p.2) (fun _ _ h aE=>⟨⟨_,(aT first ef _ _ _ h aE.1 aE.2).gd⟩,(aT first ef _ _ _ h aE.1 aE.2).inl⟩) (fun _ _ _ _ g p=>⟨g.inL p.1,g.inL p.2⟩) (l.zip r) hs h.ok (fun a ad=>⟨hl _ (List.of_mem_zip ad).1,ak _ (List.of_mem_zip ad).2⟩) ad
 have EN:Hid (∀(u:World) (bA:List Z) (x y:Int) (an:Nat->Prop),(∃n,fU first hs bA n)->(∀b,Ps b->an b)->f3 C Ps w u->bZ C u E M first bA an->bN first bA x->bN first bA y->Calls Tryz.prog Aj #[.pointer (some ⟨E,0,none⟩),.int .i64 x,.int .i64 y] u (pi C u E M first an (f bA (x,y)) hz)):=fun u bA x y an gF aJ X rE J aF=>by rw[ah];exact tj C u E M first bA an rE x y J aF
 rw[<-ah];clear ah;have y4:=K hS;have pf:=K il;have cc:=K h;have G2:Hid (∀b,Ps b->b<w.heap.size):=fun b D=>(h.ps b D).1
 obtain⟨b1,iG,c1,rfl,lF,DG,-⟩:=hS;obtain⟨b2,hT,c2,rfl,lU,DH,-⟩:=il;rw[<-aU] at lU ⊢;obtain⟨n,mT⟩:∃n,Hid (n=l.length):=⟨_,rfl⟩
 have bP:Hid (n=(l.zip r).length):=by show n=_;rw[List.length_zip,<-aU,mT.out];omega
 rw[<-mT.out] at ag lF lU ⊢;have Ie:w.heap.size≠b1:=fun e=>by have:=G2 b1 DG;omega
 have uz:w.heap.size≠b2:=fun e=>by have:=G2 b2 DH;omega
 obtain⟨eE,hi,ao,bA,jJ⟩:=sW;have ke:eE.bytes*n<=281474976710656:=by rw[jJ];omega
 have jc:n<=maxLen:=by simp only[maxLen];omega
 have tok:True:=trivial
 change Hid _ at aU hi ao bA
 clear h hl ak jJ;go_enter Tryz.func91,Tryz.ntmps91
 go_wp2_with (have _t:=tok;at_make;(refine wpList_make_full _ rfl (.tmp 10) (.tmp 10) 22 rfl w.heap.size 3 eE _ 1 Tryz.underlying22 hi ao bA .i64 .i64 (n:Int) (n:Int) n rfl rfl rfl rfl ke jc (aL _) ?_;intro w1 gX ij;have ch:=K (Kc cc ij gX);clear tok gX ij))
 generalize w.heap.size=g at *;go_loopw [14] (fun aq B=>∃(k:Nat),k<=n∧aq = .int .i64 k∧Hid (hA C w B E M first (eG f hs (l.zip r) k).1 Ps g n ((eG f hs (l.zip r) k).2++List.replicate (n - k) 0))) (fun aq _=>n - (intOf aq).toNat)
 case atStart=>exact⟨0,cE _,rfl,hA.first_ ch⟩
 case round =>
  obtain⟨k,X,rfl,bB⟩:=hrel;by_cases aB:k<n
  ·obtain⟨x,J⟩:=bS (l:=l) (k:=k) (by have:=mT.out;omega);obtain⟨y,aF⟩:=bS (l:=r) (k:=k) (by have:=mT.out;have:=aU.out;omega);have ad:(l.zip r)[k]?=some (x,y):=List.getElem?_zip_eq_some.2 ⟨J,aF⟩;have l1:Hid (∀B,f3 C Ps w B->B.cell? ⟨b1,iG+k,none⟩=some (.int .i64 x)∧B.cell? ⟨b2,hT+k,none⟩=some (.int .i64 y)):=fun B ma=>by
    obtain⟨xk,Xv,yp,ay,-,-,ar⟩:=y4.to ma;obtain⟨HI,Xw,BO,zh,-,-,yA⟩:=pf.to ma;obtain⟨rfl,rfl⟩:b1=xk∧iG=Xv:=by simp at ay;exact⟨ay.1.1,ay.1.2⟩
    obtain⟨rfl,rfl⟩:b2=HI∧hT=Xw:=by simp at zh;exact⟨zh.1.1,zh.1.2⟩
    exact⟨ar k x J,yA k y aF⟩
   have hx:wr.cell? ⟨b1,iG+k,none⟩=some (.int .i64 x)∧wr.cell? ⟨b2,hT+k,none⟩=some (.int .i64 y):=l1 wr bB.kp;have Mv:Hid (∀B,f3 C (cK Ps g) wr B->B.cell? ⟨b1,iG+k,none⟩=some (.int .i64 x)∧B.cell? ⟨b2,hT+k,none⟩=some (.int .i64 y)):=fun B ma=>l1 B (bB.kp.trans (ma.less lK))
   obtain⟨gF,⟨nr,ek⟩,fG⟩:=eC k x y ad;have nE:=K fun u (bb:V wr u)=>EN u _ x y (cK Ps g) gF lK (bB.kp.trans ((bB.gt.less lK).kp bb)) (bB.gt.to bb) nr ek
   have fa:(k:Int)<(n:Int):=by omega
   have bM:=bF ((k:Int)+1)
   change Hid _ at fG ad
   clear gF nr ek J aF l1;go_upto_region 5 with fail
   refine nW ?_;refine ih (S:=(fun B=>B.cell? ⟨b1,iG+k,none⟩=some (.int .i64 x)∧B.cell? ⟨b2,hT+k,none⟩=some (.int .i64 y))) (by kernel_rfl) (by exact hx) (fun ii=>?_);refine R 0 ?_;refine R 1 ?_;refine R 2 ?_;refine R 3 ?_;refine R 4 ?_;refine R 5 ?_;refine R 6 ?_;refine R 7 ?_;refine R 8 ?_;refine R 9 ?_;refine R 10 ?_;refine rd 11 fun aj W=>?_
   (try simp only[bf,bg,bh]);go_simp;refine(nE _ b7).mono ?_;rintro e w2 (⟨ae,rfl,af,bz⟩ | ⟨ae,⟨z,rfl,bq⟩,D⟩);rotate_left
   ·have bd:=K (show _∧_∧_ from ⟨bk ae fG,bq,bB.kp.below.trans (((Below.drew (ax _ _)).mono bB.gt.lo.2.2).trans D)⟩);clear ae bq D;unfold fI;go_wp2_with fail
    refine gN.panic (fun eP f7=>?_);have iO:Hid (eP.defers=[]):=f7;clear f7;go_wp2;exact⟨iO,.inr ⟨bd.1,⟨z,rfl,bd.2.1⟩,bd.2.2⟩⟩
   have lV:=(bB.gt.kp (Below.drew (ax _ _))).trans bz;have cl:=K (show _∧_ from ⟨af,lV⟩);have iX:=K (bB.call af lV);have n9:w2.cell? ⟨b1,iG+k,none⟩=some (.int .i64 x)∧w2.cell? ⟨b2,hT+k,none⟩=some (.int .i64 y):=Mv w2 lV;obtain⟨⟨i4,-,hold⟩,h1⟩:=iX.cell aB;clear ae af bz lV;unfold hz;go_wp2_with fail
   refine aQ W (by exact n9) fun kz=>?_
   clear W aj;refine R 12 ?_;refine rd 13 fun aj W=>?_
   (try simp only[bf,bg,bh]);go_simp;refine aQ W (by exact⟨(ce _ _ _ _ Ie).trans n9.1,(ce _ _ _ _ uz).trans n9.2⟩) fun Dr=>?_
   clear W aj;refine gn (by kernel_rfl) ?_ _;refine gN.normal ?_;generalize av:World.setCell w2 _ _=w3;have jn:=K (bB.next ad bP cl.1 cl.2 av);clear av hold h1 iX cl bB nE n9 Mv;go_wp2;go_roundw
   case measure=>simp[intOf];omega
   exact⟨k+1,by omega,by simp,jn⟩
  ·have cQ:¬((k:Int)<(n:Int)):=by omega
   have jg:=K (bB.last bP (by omega));go_wp2;go_ret
   exact jg
theorem alx (C:Nat) (w:World) (E M first:Nat) (hs:List Z) (Ps:Nat->Prop) (h:bZ C w E M first hs Ps) (co hI:Nat) (q:Int) (lF:w.cell? ⟨co,0,none⟩=some (.pointer (some ⟨E,0,none⟩))) (lU:w.cell? ⟨hI,0,none⟩=some (.int .i64 q)) (aJ:bN first hs q) (t o:Int) (eg:bN first hs t) (aY:bN first hs o) :
  Calls Tryz.prog 92 #[.int .i64 t,.int .i64 o,.pointer (some ⟨co,0,none⟩),.pointer (some ⟨hI,0,none⟩)] w (pi C w E M first Ps (BP first hs q t o) hz):=by
 have CK:=K (alw C w E M first hs Ps h q t o aJ eg aY);generalize BP first hs q t o=res at *;clear h aJ eg aY;go_enter Tryz.func92,Tryz.ntmps92
 go_wp2_with fail
 go_at_call 93;refine CK.mono ?_;rintro e hJ (⟨ag,rfl,af,X⟩ | ⟨ag,⟨z,rfl,bq⟩,D⟩)
 ·have cl:=K (show _∧_∧_ from ⟨ag,af,X⟩);clear ag af X;unfold hz;go_wp2;go_ret
  exact .inl ⟨cl.1,rfl,cl.2.1,cl.2.2⟩
 ·have cl:=K (show _∧_∧_ from ⟨ag,bq,D⟩);clear ag bq D;unfold fI;go_wp2;exact⟨rfl,.inr ⟨cl.1,⟨z,rfl,cl.2.1⟩,cl.2.2⟩⟩
def GQ (Ps:Nat->Prop) (e:Ending):Prop:=∀b o n c,e = .returned (.slice (some ⟨b,o,none⟩) n c)->¬Ps b
theorem GQ.less {Ps an:Nat->Prop} {e:Ending} (h:GQ an e) (aE:∀b,Ps b->an b):GQ Ps e:=fun b o n c ay D=>h b o n c ay (aE b D)
theorem amU {Ps:Nat->Prop} {g n c:Nat} (h:¬Ps g):GQ Ps (.returned (.slice (some ⟨g,0,none⟩) n c)):=fun b o RU mJ ay D=>by
 simp only[Ending.returned.injEq,Value.slice.injEq,Option.some.injEq,Addr.mk.injEq] at ay;exact h (by rw[ay.1.1];exact D)
theorem amT (Ps:Nat->Prop) (l:List PanicEntry):GQ Ps (.panicked l):=fun b o n c ay=>by cases ay
def Fa (C:Nat) (w:World) (E M first:Nat) (Ps:Nat->Prop) (res:List Z×List Int) (e:Ending) (B:World):Prop:=gD C w E M first Ps res e B∧GQ Ps e
theorem Fa.of {C:Nat} {w:World} {E M first:Nat} {Ps:Nat->Prop} {res:List Z×List Int} {e:Ending} {B:World} (h:gD C w E M first Ps res e B) (O:GQ Ps e):Fa C w E M first Ps res e B:=⟨h,O⟩
theorem amf (C:Nat) (w:World) (E M first:Nat) (hs:List Z) (Ps:Nat->Prop) (h:bZ C w E M first hs Ps) (co hI:Nat) (q:Int) (FW:Ps co∧Ps hI) (Wh:w.cell? ⟨co,0,none⟩=some (.pointer (some ⟨E,0,none⟩))∧w.cell? ⟨hI,0,none⟩=some (.int .i64 q)) (Wm:bN first hs q) (hJ gZ:Value) (l r:List Int) (hS:cv Ps w hJ l) (il:cv Ps w gZ r) (hl:bt first hs l) (ak:bt first hs r) (aU:l.length=r.length) (ag:l.length<=65536) :
  Calls Tryz.prog 91 #[hJ,gZ,.func (.func 92) #[] #[.pointer (some ⟨co,0,none⟩),.pointer (some ⟨hI,0,none⟩)]] w (Fa C w E M first Ps (jb ((fun hs t o=>BP first hs q t o)) hs l r)):=by
 rw[UF];have ef:=h.len.2.1;obtain⟨f,ah⟩:=cf ((fun hs (p:Int×Int)=>(fun hs t o=>BP first hs q t o) hs p.1 p.2));have eC:Hid (∀(k:Nat) (x y:Int),(l.zip r)[k]?=some (x,y)->(∃n,fU first hs (eG f hs (l.zip r) k).1 n)∧(bN first (eG f hs (l.zip r) k).1 x∧bN first (eG f hs (l.zip r) k).1 y)∧(f (eG f hs (l.zip r) k).1 (x,y)).1.length<=(ix f hs (l.zip r)).1.length):=fun k x y ad=>by
  rw[ah];exact(by
   obtain⟨iA,jW,l0⟩:=Lx (P:=fun hs (p:Int×Int)=>bN first hs q∧bN first hs p.1∧bN first hs p.2) (fun _ _ h aE=>⟨⟨_,(Ux ef h aE.1 aE.2.1 aE.2.2).gd⟩,(Ux ef h aE.1 aE.2.1 aE.2.2).inl⟩) (fun _ _ _ _ g p=>⟨g.inL p.1,g.inL p.2.1,g.inL p.2.2⟩) (l.zip r) hs h.ok (fun a ad=>⟨Wm,hl _ (List.of_mem_zip ad).1,ak _ (List.of_mem_zip ad).2⟩) ad;exact⟨iA,jW.2,l0⟩)
 have EN:Hid (∀(u:World) (bA:List Z) (x y:Int) (an:Nat->Prop),(∃n,fU first hs bA n)->(∀b,Ps b->an b)->f3 C Ps w u->bZ C u E M first bA an->bN first bA x->bN first bA y->Calls Tryz.prog 92 #[.int .i64 x,.int .i64 y,.pointer (some ⟨co,0,none⟩),.pointer (some ⟨hI,0,none⟩)] u (pi C u E M first an (f bA (x,y)) hz)):=fun u bA x y an gF aJ X rE J aF=>by rw[ah];exact alx C u E M first bA an rE co hI q ((dA (a:=⟨co,0,none⟩) (X.block co FW.1)).trans Wh.1) ((dA (a:=⟨hI,0,none⟩) (X.block hI FW.2)).trans Wh.2) (by obtain⟨n,aoG⟩:=gF;exact aoG.inL Wm) x y J aF
 rw[<-ah];clear ah;have y4:=K hS;have pf:=K il;have cc:=K h;have G2:Hid (∀b,Ps b->b<w.heap.size):=fun b D=>(h.ps b D).1
 obtain⟨b1,iG,c1,rfl,lF,DG,-⟩:=hS;obtain⟨b2,hT,c2,rfl,lU,DH,-⟩:=il;rw[<-aU] at lU ⊢;obtain⟨n,mT⟩:∃n,Hid (n=l.length):=⟨_,rfl⟩
 have bP:Hid (n=(l.zip r).length):=by show n=_;rw[List.length_zip,<-aU,mT.out];omega
 rw[<-mT.out] at ag lF lU ⊢;have Ie:w.heap.size≠b1:=fun e=>by have:=G2 b1 DG;omega
 have uz:w.heap.size≠b2:=fun e=>by have:=G2 b2 DH;omega
 obtain⟨eE,hi,ao,bA,jJ⟩:=sW;have ke:eE.bytes*n<=281474976710656:=by rw[jJ];omega
 have jc:n<=maxLen:=by simp only[maxLen];omega
 have tok:True:=trivial
 change Hid _ at aU hi ao bA
 clear h hl ak jJ FW Wh Wm;go_enter Tryz.func91,Tryz.ntmps91
 go_wp2_with (have _t:=tok;at_make;(refine wpList_make_full _ rfl (.tmp 10) (.tmp 10) 22 rfl w.heap.size 3 eE _ 1 Tryz.underlying22 hi ao bA .i64 .i64 (n:Int) (n:Int) n rfl rfl rfl rfl ke jc (aL _) ?_;intro w1 gX ij;have ch:=K (Kc cc ij gX);clear tok gX ij))
 generalize w.heap.size=g at *;go_loopw [14] (fun aq B=>∃(k:Nat),k<=n∧aq = .int .i64 k∧Hid (hA C w B E M first (eG f hs (l.zip r) k).1 Ps g n ((eG f hs (l.zip r) k).2++List.replicate (n - k) 0))) (fun aq _=>n - (intOf aq).toNat)
 case atStart=>exact⟨0,cE _,rfl,hA.first_ ch⟩
 case round =>
  obtain⟨k,X,rfl,bB⟩:=hrel;by_cases aB:k<n
  ·obtain⟨x,J⟩:=bS (l:=l) (k:=k) (by have:=mT.out;omega);obtain⟨y,aF⟩:=bS (l:=r) (k:=k) (by have:=mT.out;have:=aU.out;omega);have ad:(l.zip r)[k]?=some (x,y):=List.getElem?_zip_eq_some.2 ⟨J,aF⟩;have l1:Hid (∀B,f3 C Ps w B->B.cell? ⟨b1,iG+k,none⟩=some (.int .i64 x)∧B.cell? ⟨b2,hT+k,none⟩=some (.int .i64 y)):=fun B ma=>by
    obtain⟨xk,Xv,yp,ay,-,-,ar⟩:=y4.to ma;obtain⟨HI,Xw,BO,zh,-,-,yA⟩:=pf.to ma;obtain⟨rfl,rfl⟩:b1=xk∧iG=Xv:=by simp at ay;exact⟨ay.1.1,ay.1.2⟩
    obtain⟨rfl,rfl⟩:b2=HI∧hT=Xw:=by simp at zh;exact⟨zh.1.1,zh.1.2⟩
    exact⟨ar k x J,yA k y aF⟩
   have hx:wr.cell? ⟨b1,iG+k,none⟩=some (.int .i64 x)∧wr.cell? ⟨b2,hT+k,none⟩=some (.int .i64 y):=l1 wr bB.kp;have Mv:Hid (∀B,f3 C (cK Ps g) wr B->B.cell? ⟨b1,iG+k,none⟩=some (.int .i64 x)∧B.cell? ⟨b2,hT+k,none⟩=some (.int .i64 y)):=fun B ma=>l1 B (bB.kp.trans (ma.less lK))
   obtain⟨gF,⟨nr,ek⟩,fG⟩:=eC k x y ad;have nE:=K fun u (bb:V wr u)=>EN u _ x y (cK Ps g) gF lK (bB.kp.trans ((bB.gt.less lK).kp bb)) (bB.gt.to bb) nr ek
   have fa:(k:Int)<(n:Int):=by omega
   have bM:=bF ((k:Int)+1)
   change Hid _ at fG ad
   clear gF nr ek J aF l1;go_upto_region 5 with fail
   refine nW ?_;refine ih (S:=(fun B=>B.cell? ⟨b1,iG+k,none⟩=some (.int .i64 x)∧B.cell? ⟨b2,hT+k,none⟩=some (.int .i64 y))) (by kernel_rfl) (by exact hx) (fun ii=>?_);refine R 0 ?_;refine R 1 ?_;refine R 2 ?_;refine R 3 ?_;refine R 4 ?_;refine R 5 ?_;refine R 6 ?_;refine R 7 ?_;refine R 8 ?_;refine R 9 ?_;refine R 10 ?_;refine rd 11 fun aj W=>?_
   (try simp only[bf,bg,bh]);go_simp;go_at_call 92;refine(nE _ b7).mono ?_;rintro e w2 (⟨ae,rfl,af,bz⟩ | ⟨ae,⟨z,rfl,bq⟩,D⟩);rotate_left
   ·have bd:=K (show _∧_∧_ from ⟨bk ae fG,bq,bB.kp.below.trans (((Below.drew (ax _ _)).mono bB.gt.lo.2.2).trans D)⟩);clear ae bq D;unfold fI;go_wp2_with fail
    refine gN.panic (fun eP f7=>?_);have iO:Hid (eP.defers=[]):=f7;clear f7;go_wp2;exact⟨iO,Fa.of (.inr ⟨bd.1,⟨z,rfl,bd.2.1⟩,bd.2.2⟩) (amT _ _)⟩
   have lV:=(bB.gt.kp (Below.drew (ax _ _))).trans bz;have cl:=K (show _∧_ from ⟨af,lV⟩);have iX:=K (bB.call af lV);have n9:w2.cell? ⟨b1,iG+k,none⟩=some (.int .i64 x)∧w2.cell? ⟨b2,hT+k,none⟩=some (.int .i64 y):=Mv w2 lV;obtain⟨⟨i4,-,hold⟩,h1⟩:=iX.cell aB;clear ae af bz lV;unfold hz;go_wp2_with fail
   refine aQ W (by exact n9) fun kz=>?_
   clear W aj;refine R 12 ?_;refine rd 13 fun aj W=>?_
   (try simp only[bf,bg,bh]);go_simp;refine aQ W (by exact⟨(ce _ _ _ _ Ie).trans n9.1,(ce _ _ _ _ uz).trans n9.2⟩) fun Dr=>?_
   clear W aj;refine gn (by kernel_rfl) ?_ _;refine gN.normal ?_;generalize av:World.setCell w2 _ _=w3;have jn:=K (bB.next ad bP cl.1 cl.2 av);clear av hold h1 iX cl bB nE n9 Mv;go_wp2;go_roundw
   case measure=>simp[intOf];omega
   exact⟨k+1,by omega,by simp,jn⟩
  ·have cQ:¬((k:Int)<(n:Int)):=by omega
   have jg:=K (bB.last bP (by omega));have oQ:=K bB.new.1;go_wp2;go_ret
   exact Fa.of jg (amU oQ)
theorem R0 {w:World} {b o:Nat} {ls:List Int} (h:∀(i:Nat) (x:Int),ls[i]?=some x->w.cell? ⟨b,o+i,none⟩=some (.int .i64 x)):∀(j:Nat) (u:Value),(ls.map ip)[j]?=some u->w.cell? ((⟨b,o,none⟩:Addr).add j)=some u:=by
 intro j u bb;rw[fT] at bb;cases J:ls[j]? with
 | none=>rw[J] at bb;cases bb
 | some x =>
  rw[J] at bb;cases bb
  have:(⟨b,o,none⟩:Addr).add j=⟨b,o+j,none⟩:=by unfold Addr.add;split <;> simp_all
  rw[this];exact h j x J
theorem alF (w:World) (b o c:Nat) (ls:List Int) (cb:0<ls.length) (ag:ls.length<=1048576) (ar:∀(i:Nat) (x:Int),ls[i]?=some x->w.cell? ⟨b,o+i,none⟩=some (.int .i64 x)) :
  Calls Tryz.prog 103 #[.slice (some ⟨b,o,none⟩) ls.length c] w fun e B=>∃g cap,e = .returned (.slice (some ⟨g,0,none⟩) ls.length cap)∧B.ownsRow w.heap.size 3 1 (.slice (some ⟨g,0,none⟩) ls.length cap) ls.length (ls.map ip)∧V w B:=by
 obtain⟨ev,eB,fb,em,b8⟩:=sW;have D:b<w.heap.size:=by
  obtain⟨x,J⟩:=bS cb;exact World.block_lt_of_cell? w ⟨b,o+0,none⟩ (ar 0 x J)
 have oQ:Hid (∀(j:Nat) (u:Value),(ls.map ip)[j]?=some u->(w.alloc (.cells #[] 3)).cell? ((⟨b,o,none⟩:Addr).add j)=some u):=R0 (fun i x J=>by rw[nb _ _ _ D];exact ar i x J);have lA:Hid (∀u,u∈ls.map ip->u.oneCell'=true):=fun u bb=>by obtain⟨x,-,rfl⟩:=i6.1 bb;rfl
 have rF:(ls.map ip).length=ls.length*1:=by simp
 have y2:=K rF;have ue:Hid ((w.alloc (.cells #[] 3)).ownsRow w.heap.size 3 1 (.slice (some ⟨w.heap.size,0,none⟩) 0 0) 0 []):=World.ownsRow_lit w #[] 0 (aL _) (cE _) rfl;have cn:0+ls.length<=maxLen:=by simp only[maxLen];omega
 have cq:(0+ls.length)*8<=140737488355328:=by omega
 have cJ:w.heap.size<=(w.alloc (.cells #[] 3)).heap.size:=by simp
 have bP:=K cb;have KK:¬((ls.length:Int)=0):=by omega
 obtain⟨n,pt⟩:=cf (ls.length);rw[<-pt] at y2 bP cn cq KK ⊢
 change Hid _ at eB fb em b8
 clear rF ar cb pt ag;have tok:True:=trivial;have aj3:∀w,(binOp .eql 22 (.slice (some ⟨b,o,none⟩) n c) (.slice none 0 0)).run Tryz.prog w = .ok (.bool false) w:=fun w=>Lib.run_eql_slice_nil w 22 3 (some ⟨b,o,none⟩) n c 0 0 Tryz.underlying22
 go_enter Tryz.func103,Tryz.ntmps103
 go_wp2_with (have _t:=tok;at_builtin;(refine wpList_append_lies _ rfl (.tmp 5) (.tmp 6) 22 rfl w.heap.size 3 ev _ 1 8 Tryz.underlying22 eB fb em b8 rfl (by decide) (.slice (some ⟨w.heap.size,0,none⟩) 0 0) 0 [] rfl ue ⟨b,o,none⟩ n c (ls.map ip) rfl y2 oQ lA bP cn cq cJ _ rfl ?_;intro g cap al bc br aO cj;have jr:=K bc;have cc:=K br;clear tok bc br aO cj))
 go_wp2;go_ret
 have F:=jr.out;rw[Nat.zero_add,List.nil_append] at F;refine⟨g,cap,rfl,F,?_⟩;exact((ax _ _).alloc (aL _) _).trans (jB cc cJ (fun k X=>by cases X;exact aL _))
def iN:List Int->List (Int×Int)
 | a::b::r=>(a,b)::iN r
 | _=>[]
theorem afL (l:List Int):(iN l).length=l.length / 2:=by
 induction l using iN.induct with
 | case1 a b r aA=>simp only[iN,List.length_cons,aA];omega
 | case2 l h =>
  match l,h with
  | [],_=>rfl
  | [a],_=>simp[iN]
  | a::b::r,h=>exact absurd rfl (h a b r)
theorem afK {l:List Int} {i:Nat} {x y:Int} (J:l[2*i]?=some x) (aF:l[2*i+1]?=some y):(iN l)[i]?=some (x,y):=by
 induction l using iN.induct generalizing i with
 | case1 a b r aA =>
  cases i with
  | zero=>simp at J aF;subst J aF;rfl
  | succ i =>
   rw[show 2*(i+1)=2*i+1+1 by omega] at J aF;simp only[List.getElem?_cons_succ] at J aF;simp only[iN,List.getElem?_cons_succ];exact aA J aF
 | case2 l h =>
  match l,h with
  | [],_=>simp at aF
  | [a],_=>simp at aF
  | a::b::r,h=>exact absurd rfl (h a b r)
theorem afM {l:List Int} {p:Int×Int} (h:p∈iN l):p.1∈l∧p.2∈l:=by
 induction l using iN.induct with
 | case1 a b r aA =>
  rcases List.mem_cons.1 h with rfl | h
  ·simp
  ·have:=aA h
   exact⟨qd _ (qd _ this.1),qd _ (qd _ this.2)⟩
 | case2 l kZ =>
  match l,kZ with
  | [],_=>cases h
  | [a],_=>cases h
  | a::b::r,kZ=>exact absurd rfl (kZ a b r)
theorem atF (join:List Z->Int->Int->List Z×Int) (hs:List Z) (l:List Int):o4 join hs l=((ix (fun hs p=>join hs p.1 p.2) hs (iN l)).1,(ix (fun hs p=>join hs p.1 p.2) hs (iN l)).2++(if l.length%2=1 then [l.getLastD 0] else [])):=by
 induction hs,l using o4.induct (join:=join) with
 | case1 hs a b r p aA =>
  simp only[o4,iN,ix,List.cons_append,List.length_cons];rw[aA];by_cases h:r.length%2=1
  ·have ak:r≠[]:=by intro e;subst e;simp at h
   have d9:(r.length+1+1)%2=1:=by omega
   rw[if_pos h,if_pos d9]
   have:(a::b::r).getLastD 0=r.getLastD 0:=by
    cases r with
    | nil=>exact absurd rfl ak
    | cons c r=>simp[List.getLastD]
   rw[this]
  ·have d9:¬(r.length+1+1)%2=1:=by omega
   rw[if_neg h,if_neg d9]
 | case2 hs a=>rfl
 | case3 hs=>rfl
structure nG (C:Nat) (az w:World) (E M first:Nat) (hs:List Z) (Ps:Nat->Prop) (g m c:Nat) (ls:List Int):Prop where
 gt:bZ C w E M first hs (cK Ps g)
 kp:f3 C Ps az w
 ow:w.ownsRow C 3 1 (.slice (some ⟨g,0,none⟩) m c) m (ls.map ip)
 new:¬Ps g∧C<=g
section
variable {C:Nat} {az w B:World} {E M first:Nat} {hs bA:List Z} {Ps:Nat->Prop} {g m c:Nat} {ls:List Int}
theorem nG.start (h:bZ C w E M first hs Ps) (D:V w B) (aY:B.ownsRow w.heap.size 3 1 (.slice (some ⟨g,0,none⟩) m c) m (ls.map ip)):nG C w B E M first hs Ps g m c ls :=
 ⟨h.add D (aY.lt g rfl).1 (aY.lt g rfl).2,h.kp D,xN aY h.lo.2.2,fun aE=>by have:=(h.ps _ aE).1;have:=(aY.lt g rfl).1;omega,by have:=h.lo.2.2;have:=(aY.lt g rfl).1;omega⟩
theorem nG.call (h:nG C az w E M first hs Ps g m c ls) (af:bZ C B E M first bA (cK Ps g)) (X:f3 C (cK Ps g) w B):nG C az B E M first bA Ps g m c ls :=
 ⟨af,h.kp.trans (X.less lK),zD h.ow (X.block g (.inr rfl)),h.new⟩
theorem nG.store (h:nG C az w E M first hs Ps g m c ls) (k:Nat) (x:Int) (aw:w.setCell ⟨g,k,none⟩ (.int .i64 x)=B):nG C az B E M first hs Ps g m c (ls.set k x):=by
 obtain⟨F,O⟩:=h.ow.stored k (ip x);have e:w.setCell ⟨g,k,none⟩ (ip x)=B:=aw;rw[e] at F O;rw[<-List.map_set] at F;exact⟨h.gt.far O (.inr rfl),⟨h.kp.below.trans (jB O h.gt.lo.2.2 (fun k X=>by cases X;exact h.new.2)),fun b aE=>(O.block b (h.gt.ps b (.inl aE)).1 (fun e=>h.new.1 (by cases e;exact aE))).trans (h.kp.block b aE)⟩,F,h.new⟩
theorem nG.len (h:nG C az w E M first hs Ps g m c ls):ls.length=m:=by have:=h.ow.1;simp at this;exact this
theorem nG.cut (h:nG C az w E M first hs Ps g m c ls) (k:Nat) (X:k<=m):nG C az w E M first hs Ps g k c (ls.take k):=by
 refine⟨h.gt,h.kp,?_,h.new⟩;have hl:=h.len;refine⟨by simp;omega,?_⟩;rcases h.ow.2 with ⟨d9,_⟩ | ⟨oB,zb,hV,d9,D,af,mc,sP,jD,sS⟩
 ·simp at d9
 ·simp only[Value.slice.injEq,Option.some.injEq,Addr.mk.injEq,and_true,true_and] at d9;obtain⟨rfl,rfl⟩:=d9;refine .inr ⟨g,c,hV,rfl,D,af,by omega,sP,jD,?_⟩;rw[List.map_take,<-sS,List.take_take]
  congr 1
  omega
theorem nG.cap (h:nG C az w E M first hs Ps g m c ls):m<=c:=by
 rcases h.ow.2 with ⟨d9,_⟩ | ⟨oB,zb,hV,d9,D,af,mc,sP,jD,sS⟩
 ·simp at d9
 ·simp only[Value.slice.injEq,Option.some.injEq,Addr.mk.injEq,and_true,true_and] at d9;obtain⟨rfl,rfl⟩:=d9;exact mc
theorem nG.cell (h:nG C az w E M first hs Ps g m c ls) {k:Nat} {x:Int} (J:ls[k]?=some x):w.cell? ⟨g,k,none⟩=some (.int .i64 x):=by
 have hl:=h.len
 have:=(cr.1 J).1
 rw[h.ow.cellAt k (by omega),fT,J]
 rfl
theorem nG.fz (h:nG C az w E M first hs Ps g m c ls) (k:Nat):w.frozen? ⟨g,k,none⟩=false:=h.ow.frozenAt k
end
theorem aci (a row:List Int) (i:Nat) (y:Int) (ad:a.length=i) (hi:i<row.length):(a++row.drop i).set i y=(a++[y])++row.drop (i+1):=by
 have:=Lv a (row[i]) y (row.drop (i+1))
 rw[ad] at this;rw[List.drop_eq_getElem_cons hi,this];simp
theorem amQ {join:List Z->Int->Int->List Z×Int} {no_:Int} {fuel:Nat} {hs:List Z} {row:List Int} (F:1<row.length) (ah:row.length<=fuel+1):∃Ak,fuel=Ak+1∧sN join no_ fuel hs row=sN join no_ Ak (o4 join hs row).1 (o4 join hs row).2∧(o4 join hs row).2.length<=Ak+1∧(o4 join hs row).2.length<row.length∧0<(o4 join hs row).2.length:=by
 obtain⟨Ak,rfl⟩:∃Ak,fuel=Ak+1:=⟨fuel - 1,by omega⟩
 refine⟨Ak,rfl,?_,?_,?_,?_⟩
 ·rw[sN,if_neg (by omega)]
 ·rw[R9];omega
 ·rw[R9];omega
 ·rw[R9];omega
theorem amO {join:List Z->Int->Int->List Z×Int} {no_:Int} {fuel:Nat} {hs:List Z} {a:Int}:sN join no_ fuel hs [a]=(hs,a):=by
 cases fuel with
 | zero=>rfl
 | succ n=>rw[sN,if_pos (by simp)];rfl
end Go.Proofs.YtcbcenfjigcfkaaGreatDoor
