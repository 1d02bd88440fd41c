import Derived.Test.YtcbcenfjigcfkaaGreatDoorK26
import Derived.Deep.AppendSrc
set_option maxRecDepth 100000
set_option maxHeartbeats 40000000
namespace Go.Proofs.YtcbcenfjigcfkaaGreatDoor
open Go.RowKit
structure n4 (C:Nat) (az w:World) (E M ai hW first:Nat) (Ps an:Nat->Prop) (u:Value) (ws:List (List (List Int))) (am:List Value):Prop where
 sub:∀b,Ps b->an b
 gt:bZ C w E M first [] (fun b=>an b∨b=ai∨u.ownBlock=some b)
 kp:f3 C Ps az w
 ow:w.ownsRow az.heap.size 99 1 u am.length am
 el:am.length=ws.length∧∀(i:Nat) (l:List (List Int)),ws[i]?=some l->∃x,am[i]?=some x∧ql an w x l
 ap:∀b,an b->b≠ai∧u.ownBlock≠some b
 fld:w.cell? ⟨ai,hW,none⟩=some u
 oth:∀j,j≠hW->w.cell? ⟨ai,j,none⟩=az.cell? ⟨ai,j,none⟩
 fz:∀j,w.frozen? ⟨ai,j,none⟩=false
 lt:(∀b,Ps b->b<az.heap.size)∧ai<az.heap.size∧az.heap.size<=w.heap.size∧C<=az.heap.size∧C<=ai∧ai≠E
section
variable {C:Nat} {az w v w1 al:World} {E M ai hW first:Nat} {Ps an:Nat->Prop} {u:Value} {ws:List (List (List Int))} {am:List Value}
theorem n4.sz (h:n4 C az w E M ai hW first Ps an u ws am) (o:Obj):az.heap.size<=(w.alloc o).heap.size:=by have:=h.lt.2.2.1;simp;omega
theorem n4.lay (h:n4 C az w E M ai hW first Ps an u ws am) (L:V w v) {g n:Nat}
  (aE:v.heap.size<=g∧bZ C w1 E M (first+n) [] (cK (fun b=>an b∨b=ai∨u.ownBlock=some b) g)∧f3 C (fun b=>an b∨b=ai∨u.ownBlock=some b) v w1∧cv (cK (fun b=>an b∨b=ai∨u.ownBlock=some b) g) w1 (.slice (some ⟨g,0,none⟩) n n) (kt first n)∧∀k,k<v.heap.size->k≠E->w1.heap[k]?=v.heap[k]?) :
  n4 C az w1 E M ai hW (first+n) Ps (cK an g) u ws am∧cv (cK an g) w1 (.slice (some ⟨g,0,none⟩) n n) (kt first n):=by
 obtain⟨KC,rE,yD,dg,rz⟩:=aE;have qY:=L.size;have VQ:=h.gt;have vy:f3 C (fun b=>an b∨b=ai∨u.ownBlock=some b) w w1:=(VQ.kp L).trans yD;have DN:∀z,u.ownBlock=some z->z<w.heap.size:=fun z ao=>(h.ow.lt z ao).2
 refine⟨⟨fun b D=> .inl (h.sub b D),rE.less (fun b D=>?_),h.kp.trans (vy.less (fun b D=> .inl (h.sub b D))),R6 h.ow (fun b D=>vy.block b (.inr (.inr D))),⟨h.el.1,fun i l hl=>?_⟩,fun b D=>?_,?_,fun j aT=>?_,fun j=>?_,h.lt.1,h.lt.2.1,?_,h.lt.2.2.2⟩,?_⟩
 ·rcases D with (D | rfl) | D
  ·exact .inl (.inl D)
  ·exact .inr rfl
  ·exact .inl (.inr D)
 ·obtain⟨x,J,aw⟩:=h.el.2 i l hl;exact⟨x,J,(aw.keep (fun b D=>vy.block b (.inl D))).more lK⟩
 ·rcases D with D | rfl
  ·exact h.ap b D
  ·refine⟨by have:=h.lt.2.1;have:=h.lt.2.2.1;omega,fun e=>by have:=DN _ e;omega⟩
 ·exact(dA (a:=⟨ai,hW,none⟩) (vy.block ai (.inr (.inl rfl)))).trans h.fld
 ·exact(dA (a:=⟨ai,j,none⟩) (vy.block ai (.inr (.inl rfl)))).trans (h.oth j aT)
 ·exact(World.frozen?_of_block (a:=⟨ai,j,none⟩) (vy.block ai (.inr (.inl rfl)))).trans (h.fz j)
 ·have:=vy.below.size;have:=h.lt.2.2.1;omega
 ·obtain⟨bw,kG,mJ,ay,ar,FW,J⟩:=dg;simp only[Value.slice.injEq,Option.some.injEq,Addr.mk.injEq,and_true] at ay;obtain⟨⟨rfl,rfl⟩,-,-⟩:=ay;exact⟨g,0,n,by rw[F8],by rw[F8];exact aL _,.inr rfl,J⟩
theorem n4.alloc (h:n4 C az w E M ai hW first Ps an u ws am) (o:Obj):n4 C az (w.alloc o) E M ai hW first Ps an u ws am:=by
 have D:V w (w.alloc o):=(ax _ _).alloc (aL _) _;have X:=h.gt.kp D;have f0:ai<w.heap.size:=bk h.lt.2.1 h.lt.2.2.1;refine⟨h.sub,h.gt.to D,h.kp.trans (X.less (fun b D=> .inl (h.sub b D))),h.ow.alloc o,⟨h.el.1,fun i l hl=>?_⟩,h.ap,?_,fun j aT=>?_,fun j=>?_,h.lt.1,h.lt.2.1,?_,h.lt.2.2.2⟩
 ·obtain⟨x,J,aw⟩:=h.el.2 i l hl;exact⟨x,J,aw.keep (fun b D=>X.block b (.inl D))⟩
 ·exact(D.cell (p:=⟨ai,hW,none⟩) f0).trans h.fld
 ·exact(D.cell (p:=⟨ai,j,none⟩) f0).trans (h.oth j aT)
 ·exact(D.frozen (p:=⟨ai,j,none⟩) f0).trans (h.fz j)
 ·have:=h.lt.2.2.1;simp;omega
theorem n4.push5 (aI:n4 C az w E M ai hW first Ps an u ws am) {o:Obj} {g cap:Nat} {x:Value} (aY:al.ownsRow az.heap.size 99 1 (.slice (some ⟨g,0,none⟩) (am.length+1) cap) (am.length+1) (am++[x])) (af:(w.alloc o).grownBy al u.ownBlock) (aO:u.ownBlock=some g∨g=(w.alloc o).heap.size) (aB:g<al.heap.size) :
  al.cell? ⟨ai,hW,none⟩=some u∧(∀j,al.frozen? ⟨ai,j,none⟩=false)∧∀(l:List (List Int)) (aH:World),ql an w x l->al.setCell ⟨ai,hW,none⟩ (.slice (some ⟨g,0,none⟩) (am.length+1) cap)=aH->n4 C az aH E M ai hW first Ps an (.slice (some ⟨g,0,none⟩) (am.length+1) cap) (ws++[l]) (am++[x]):=by
 have h:=aI.alloc o;have kB:∀b,an b->(w.alloc o).heap[b]?=w.heap[b]?:=fun b D=>Below.heap_alloc _ _ _ (aI.gt.ps b (.inl D)).1
 generalize DP:w.alloc o=mA at *;have f0:ai<mA.heap.size:=bk h.lt.2.1 h.lt.2.2.1;have N1:u.ownBlock≠some ai:=fun e=>by have:=(h.ow.lt ai e).1;have:=h.lt.2.1;omega
 have FX:∀b,an b->al.heap[b]?=mA.heap[b]?:=fun b D=>af.block b (h.gt.ps b (.inl D)).1 (fun e=>(h.ap b D).2 e.symm)
 have nM:al.heap[ai]?=mA.heap[ai]?:=af.block ai f0 (fun e=>N1 e.symm);have f6:∀j,al.cell? ⟨ai,j,none⟩=mA.cell? ⟨ai,j,none⟩:=fun j=>dA (a:=⟨ai,j,none⟩) nM
 have lh:g≠ai:=by
  rcases aO with e | e
  ·exact fun aS=>N1 (by rw[<-aS];exact e)
  ·omega
 refine⟨(f6 hW).trans h.fld,fun j=>(World.frozen?_of_block (a:=⟨ai,j,none⟩) nM).trans (h.fz j),fun l aH mM aw=>?_⟩;have rC:al.grownBy aH (some ai):=by rw[<-aw];exact⟨rfl,rfl,rfl,by simp[World.setCell],fun k _ X=>Below.heap_setCell _ _ _ _ (fun e=>X (by rw[e]))⟩
 have nN:bZ C al E M first [] (fun b=>an b∨b=ai∨u.ownBlock=some b):=by
  cases bb:u.ownBlock with
  | none =>
   rw[bb] at af
   have:=h.gt.to (tw af)
   rw[bb] at this;exact this
  | some z =>
   have F:=h.gt;rw[bb] at af F;exact F.far af (.inr (.inr rfl))
 obtain⟨u1,iv,WC⟩:=h.gt.gt;obtain⟨u0,rI,AC⟩:=nN.gt;have Nt:u.ownBlock≠some E:=fun aS=>(h.gt.ps E (.inr (.inr aS))).2.1 rfl
 have H9:u0=u1:=by
  have bp:=rI.c1;rw[dA (a:=⟨E,1,none⟩) (af.block E iv.lt (fun aS=>Nt aS.symm)),iv.c1] at bp;exact(Option.some.inj bp).symm
 have FL:bZ C al E M first [] (fun b=>an b∨b=ai∨(Value.slice (some ⟨g,0,none⟩) (am.length+1) cap).ownBlock=some b):=by
  refine⟨⟨u0,rI,fun b D e=>?_⟩,nN.ok,nN.lo,nN.len,fun b D=>?_⟩
  ·rcases D with D | D | D
   ·exact AC b (.inl D) e
   ·exact AC b (.inr (.inl D)) e
   ·cases D;rcases aO with bM | bM
    ·exact AC g (.inr (.inr bM)) e
    ·rw[H9] at e
     have:=(iv.ow.lt g e).2
     omega
  ·rcases D with D | D | D
   ·exact nN.ps b (.inl D)
   ·exact nN.ps b (.inr (.inl D))
   ·cases D;refine⟨aB,?_,?_⟩
    ·show g≠E;rcases aO with bM | bM
     ·exact(nN.ps g (.inr (.inr bM))).2.1
     ·have:=iv.lt;omega
    ·show g≠M;rcases aO with bM | bM
     ·exact(nN.ps g (.inr (.inr bM))).2.2
     ·have:=iv.lm;omega
 have H3:∀b,b≠ai->aH.heap[b]?=al.heap[b]?:=fun b D=>by rw[<-aw];exact Below.heap_setCell _ _ _ _ D
 have sR:∀b,Ps b->aH.heap[b]?=mA.heap[b]?:=fun b D=>(H3 b (h.ap b (h.sub b D)).1).trans (FX b (h.sub b D))
 have apm:al.heap.size<=aH.heap.size:=rC.size;refine⟨h.sub,FL.far rC (.inr (.inl rfl)),⟨h.kp.below.trans ((jB af h.gt.lo.2.2 (fun z ao=>by have:=(h.ow.lt z ao).1;have:=h.lt.2.2.2.1;omega)).trans (jB rC FL.lo.2.2 (fun z ao=>by cases ao;exact h.lt.2.2.2.2.1))),fun b D=>(sR b D).trans (h.kp.block b D)⟩,?_,⟨by simp[h.el.1],fun i pw hC=>?_⟩,fun b D=>⟨(h.ap b D).1,fun e=>?_⟩,?_,fun j aT=>?_,fun j=>?_,h.lt.1,h.lt.2.1,?_,h.lt.2.2.2⟩
 ·have:=aY.kept rC (.inr (fun e=>lh (by cases e;rfl)))
  rw[jw];exact this
 ·have NC:∀b,an b->aH.heap[b]?=mA.heap[b]?:=fun b D=>(H3 b (h.ap b D).1).trans (FX b D)
  by_cases hi:i<ws.length
  ·rw[mS hi] at hC;obtain⟨y,aF,vC⟩:=h.el.2 i pw hC;exact⟨y,by rw[mS (cr.1 aF).1];exact aF,vC.keep NC⟩
  ·rw[lu (by omega)] at hC;have ko:i - ws.length=0:=by
    have:=(cr.1 hC).1
    simp at this;omega
   rw[ko] at hC;cases hC;refine⟨x,by rw[lu (by rw[h.el.1];omega),show i - am.length=0 by rw[h.el.1];exact ko];rfl,?_⟩;exact mM.keep (fun b D=>(NC b D).trans (kB b D))
 ·cases e;rcases aO with bM | bM
  ·exact(h.ap g D).2 bM
  ·have:=(h.gt.ps g (.inl D)).1;omega
 ·rw[<-aw];exact on (h:=(f6 hW).trans h.fld) ..
 ·rw[<-aw];exact((oL (h:=fun e=>aT (by injection e with _ aS;exact aS.symm)) ..).trans (f6 j)).trans (h.oth j aT)
 ·rw[<-aw];exact(s6 _ _ _ _).trans ((World.frozen?_of_block (a:=⟨ai,j,none⟩) nM).trans (h.fz j))
 ·have:=af.size;have:=h.lt.2.2.1;omega
end
section
variable {C:Nat} {az w v w1 w2 al:World} {E M ai first:Nat} {Ps an:Nat->Prop} {u:Value} {ms:List (List (List Int))} {am:List Value} {h n:Nat} {ws:List (List Int)} {xs:List Value}
theorem n4.be {hW:Nat} (ba:n4 C az w E M ai hW first Ps an u ms am) (D:V w w1):n4 C az w1 E M ai hW first Ps an u ms am:=by
 have X:=ba.gt.kp D;have f0:ai<w.heap.size:=bk ba.lt.2.1 ba.lt.2.2.1;refine⟨ba.sub,ba.gt.to D,ba.kp.trans (X.less (fun b D=> .inl (ba.sub b D))),mx ba.ow D,⟨ba.el.1,fun i l hl=>?_⟩,ba.ap,?_,fun j aT=>?_,fun j=>?_,ba.lt.1,ba.lt.2.1,?_,ba.lt.2.2.2⟩
 ·obtain⟨x,J,aw⟩:=ba.el.2 i l hl;exact⟨x,J,aw.keep (fun b D=>X.block b (.inl D))⟩
 ·exact(D.cell (p:=⟨ai,hW,none⟩) f0).trans ba.fld
 ·exact(D.cell (p:=⟨ai,j,none⟩) f0).trans (ba.oth j aT)
 ·exact(D.frozen (p:=⟨ai,j,none⟩) f0).trans (ba.fz j)
 ·have:=ba.lt.2.2.1;have:=D.size;omega
structure tf (C:Nat) (az w:World) (E M ai first:Nat) (Ps an:Nat->Prop) (u:Value) (ms:List (List (List Int))) (am:List Value) (h n:Nat) (ws:List (List Int)) (xs:List Value):Prop where
 lm:n4 C az w E M ai 4 first Ps an u ms am
 gh:bZ C w E M first [] (fun b=>(an b∨b=ai∨u.ownBlock=some b)∨b=h)
 ow:w.ownsRow az.heap.size 22 1 (.slice (some ⟨h,0,none⟩) n n) n xs
 el:∀(i:Nat) (l:List Int),ws[i]?=some l->∃x,xs[i]?=some x∧cv an w x l
 ne:¬an h∧h≠ai∧u.ownBlock≠some h
theorem tf.start (ba:n4 C az w E M ai 4 first Ps an u ms am) (D:V w w1) (aY:w1.ownsRow w.heap.size 22 1 (.slice (some ⟨h,0,none⟩) n n) n xs):tf C az w1 E M ai first Ps an u ms am h n [] xs:=by
 have F:=(aY.lt h rfl).1;have O:=(aY.lt h rfl).2;refine⟨ba.be D,ba.gt.add D F O,xN aY ba.lt.2.2.1,fun i l hl=>by simp at hl,fun e=>?_,?_,fun e=>?_⟩
 ·have:=(ba.gt.ps h (.inl e)).1;omega
 ·have:=ba.lt.2.1;have:=ba.lt.2.2.1;omega
 ·have:=(ba.ow.lt h e).2;omega
theorem tf.lay (ba:tf C az w E M ai first Ps an u ms am h n ws xs) (L:V w v) {g m:Nat}
  (aE:v.heap.size<=g∧bZ C w1 E M (first+m) [] (cK (fun b=>(an b∨b=ai∨u.ownBlock=some b)∨b=h) g)∧f3 C (fun b=>(an b∨b=ai∨u.ownBlock=some b)∨b=h) v w1∧cv (cK (fun b=>(an b∨b=ai∨u.ownBlock=some b)∨b=h) g) w1 (.slice (some ⟨g,0,none⟩) m m) (kt first m)∧∀k,k<v.heap.size->k≠E->w1.heap[k]?=v.heap[k]?) :
  tf C az w1 E M ai (first+m) Ps (cK an g) u ms am h n ws xs∧cv (cK an g) w1 (.slice (some ⟨g,0,none⟩) m m) (kt first m):=by
 obtain⟨KC,rE,yD,dg,rz⟩:=aE;have apA:cv (cK (fun b=>an b∨b=ai∨u.ownBlock=some b) g) w1 (.slice (some ⟨g,0,none⟩) m m) (kt first m):=by
  obtain⟨bw,kG,mJ,ay,ar,FW,J⟩:=dg;simp only[Value.slice.injEq,Option.some.injEq,Addr.mk.injEq,and_true] at ay;obtain⟨⟨rfl,rfl⟩,-,-⟩:=ay;exact⟨g,0,m,by rw[F8],by rw[F8];exact aL _,.inr rfl,J⟩
 obtain⟨kD,lI⟩:=ba.lm.lay L (n:=m) ⟨KC,rE.less (fun b D=>D.elim (fun h=> .inl (.inl h)) .inr),yD.less (fun b D=> .inl D),apA,rz⟩;have NE:f3 C (fun b=>(an b∨b=ai∨u.ownBlock=some b)∨b=h) w w1:=(ba.gh.kp L).trans yD;have qY:=L.size;have FM:=(ba.ow.lt h rfl).2;refine⟨⟨kD,rE.less (fun b D=>?_),zD ba.ow (NE.block h (.inr rfl)),fun i l hl=>?_,fun e=>?_,ba.ne.2.1,ba.ne.2.2⟩,lI⟩
 ·rcases D with ((D | rfl) | D) | rfl
  ·exact .inl (.inl (.inl D))
  ·exact .inr rfl
  ·exact .inl (.inl (.inr D))
  ·exact .inl (.inr rfl)
 ·obtain⟨x,J,aw⟩:=ba.el i l hl;exact⟨x,J,(aw.keep (fun b D=>NE.block b (.inl (.inl D)))).more lK⟩
 ·rcases e with e | e
  ·exact ba.ne.1 e
  ·omega
theorem tf.store (ba:tf C az w E M ai first Ps an u ms am h n ws xs) {l:List Int} {x:Value} (J:cv an w x l) (aT:ws.length<n) (aw:w.setCell ⟨h,ws.length,none⟩ x=w2):tf C az w2 E M ai first Ps an u ms am h n (ws++[l]) (xs.set ws.length x):=by
 obtain⟨F,O⟩:=ba.ow.stored ws.length x;rw[aw] at F O;have kZ:=ba.ow.lt h rfl;have zr:xs.length=n:=by have:=ba.ow.1;simpa using this
 have cb:∀b,b≠h->w2.heap[b]?=w.heap[b]?:=fun b D=>by rw[<-aw];exact Below.heap_setCell _ _ _ _ D
 have aJ:∀b,an b->w2.heap[b]?=w.heap[b]?:=fun b D=>cb b (fun e=>ba.ne.1 (by rw[<-e];exact D))
 have jK:=ba.gh.far O (.inr rfl);have Nq:∀j,w2.cell? ⟨ai,j,none⟩=w.cell? ⟨ai,j,none⟩:=fun j=>dA (a:=⟨ai,j,none⟩) (cb ai (Ne.symm ba.ne.2.1))
 refine⟨⟨ba.lm.sub,jK.less (fun b D=> .inl D),⟨ba.lm.kp.below.trans (jB O ba.gh.lo.2.2 (fun z ao=>by cases ao;have:=ba.lm.lt.2.2.2.1;omega)),fun b D=>(aJ b (ba.lm.sub b D)).trans (ba.lm.kp.block b D)⟩,R6 ba.lm.ow (fun b D=>cb b (fun e=>ba.ne.2.2 (by rw[<-e];exact D))),⟨ba.lm.el.1,fun i pw hC=>?_⟩,ba.lm.ap,(Nq 4).trans ba.lm.fld,fun j VT=>(Nq j).trans (ba.lm.oth j VT),fun j=>(World.frozen?_of_block (a:=⟨ai,j,none⟩) (cb ai (Ne.symm ba.ne.2.1))).trans (ba.lm.fz j),ba.lm.lt.1,ba.lm.lt.2.1,by have:=O.size;have:=ba.lm.lt.2.2.1;omega,ba.lm.lt.2.2.2⟩,jK,F,fun i pw hC=>?_,ba.ne⟩
 ·obtain⟨y,aF,vC⟩:=ba.lm.el.2 i pw hC;exact⟨y,aF,vC.keep aJ⟩
 ·by_cases hi:i<ws.length
  ·rw[mS hi] at hC;obtain⟨y,aF,vC⟩:=ba.el i pw hC;exact⟨y,by rw[ve (by omega)];exact aF,vC.keep aJ⟩
  ·rw[lu (by omega)] at hC;have ko:i - ws.length=0:=by
    have:=(cr.1 hC).1
    simp at this;omega
   rw[ko] at hC;cases hC;have acj:ws.length=i:=by omega
   exact⟨x,by rw[acj,t6 (by omega)],J.keep aJ⟩
theorem tf.cell (ba:tf C az w E M ai first Ps an u ms am h n ws xs) {k:Nat} (X:k<n):(∃x,w.cell? ⟨h,k,none⟩=some x)∧w.frozen? ⟨h,k,none⟩=false:=by
 have zr:xs.length=n:=by have:=ba.ow.1;simpa using this
 exact⟨⟨xs[k],by rw[ba.ow.cellAt k (by omega)];exact ct _⟩,ba.ow.frozenAt k⟩
theorem tf.done (ba:tf C az w E M ai first Ps an u ms am h n ws xs) (hl:ws.length=n):n4 C az w E M ai 4 first Ps (cK an h) u ms am∧ql (cK an h) w (.slice (some ⟨h,0,none⟩) n n) ws:=by
 refine⟨⟨fun b D=> .inl (ba.lm.sub b D),ba.gh.less (fun b D=>?_),ba.lm.kp,ba.lm.ow,⟨ba.lm.el.1,fun i l hl=>?_⟩,fun b D=>?_,ba.lm.fld,ba.lm.oth,ba.lm.fz,ba.lm.lt⟩,h,0,n,by rw[hl],by omega,.inr rfl,fun i l hC=>?_⟩
 ·rcases D with (D | rfl) | D
  ·exact .inl (.inl D)
  ·exact .inr rfl
  ·exact .inl (.inr D)
 ·obtain⟨x,J,aw⟩:=ba.lm.el.2 i l hl;exact⟨x,J,aw.more lK⟩
 ·rcases D with D | rfl
  ·exact ba.lm.ap b D
  ·exact⟨ba.ne.2.1,ba.ne.2.2⟩
 ·obtain⟨x,J,aw⟩:=ba.el i l hC;refine⟨x,?_,aw.more lK⟩;have hi:=(cr.1 hC).1;rw[Nat.zero_add,ba.ow.cellAt i (by omega)];exact J
end
def px:Nat->List hf->List (List (List Int))
 | _,[]=>[]
 | f,m::r=>gL f (List.replicate m.words.toNat m.width.toNat)::px (f+m.width.toNat*m.words.toNat) r
theorem F9 (m:hf) (r:List hf):ha (m::r)=m.width.toNat*m.words.toNat+ha r:=by unfold ha;simp
theorem aqA (f:Nat) (l r:List hf):px f (l++r)=px f l++px (f+ha l) r:=by
 induction l generalizing f with
 | nil=>simp[px,ha]
 | cons n l aA=>simp only[List.cons_append,px,aA,F9,Nat.add_assoc]
theorem Oh (f:Nat) (l:List hf):(px f l).length=l.length:=by
 induction l generalizing f with
 | nil=>rfl
 | cons n l aA=>simp[px,aA]
theorem aqw (f n m:Nat):gL f (List.replicate (n+1) m)=gL f (List.replicate n m)++[kt (f+n*m) m]:=by
 have e:List.replicate (n+1) m=List.replicate n m++[m]:=by rw[List.replicate_succ']
 rw[e,Cl];simp[gL]
theorem ap1:(Tryz.prog.info? 99).map (fun i=>(i.zero,i.size,i.bytes))=some (some (.slice none 0 0),1,24):=by kernel_rfl
theorem aeG:∃i,Tryz.prog.info? 99=some i∧i.zero=some (.slice none 0 0)∧i.size=1∧i.bytes=24:=by
 have h:=ap1;cases hi:Tryz.prog.info? 99 with
 | none=>rw[hi] at h;cases h
 | some i=>rw[hi] at h;simp at h;exact⟨i,rfl,h.1,h.2.1,h.2.2⟩
theorem aqz (C:Nat) (wc:World) (E M ai first n c3:Nat) (a3:Option Addr) (Ps:Nat->Prop) (bo:List hf) (zP:Hid (∀r,r∈bo->(1<=r.width∧r.width<=32)∧1<=r.words∧r.words<=256)) (lz:Hid (n4 C wc wc E M ai 4 first Ps Ps (.slice none 0 0) [] [])) (i0:wc.cell? ⟨ai,0,none⟩=some (.pointer (some ⟨E,0,none⟩))) (bP:Hid (n=bo.length)) (bR:Hid (cm C wc a3 2 (bo.map hf.cells))) (ag:n<=1048576) (ch:Hid (∀k,first+ha (bo.take k)<=90000000)) (b9:Act->World->Prop) (eV:Exit->Act->World->Prop) {dC en e1 fx e2 ea ec dL ep cz gy fS eF ex ey cM cA cB cC cD cS cT cH cW cX cY cN cI eo c7 dD dE dF dh dO dP dr dt di dj c8 c9 db dd de df cZ c6 dw dx dQ dy dz dI dJ dK dk dl dm dn dR dS dT dU dV dW dX dY dZ d0 d3 d4 d5 d6 d7 d8:Value}
  (dM:Hid (∀(B:World) {OE uP rS Lu XU XV XW XX XY XZ OG OH OI I8 I9 Ja Jb Jc vM vN vO vP vQ vR vS vT vU vV vW vX vY vZ v1 v2:Value},(∃an u am,n4 C wc B E M ai 4 (first+ha bo) Ps an u (px first bo) am)->b9 ⟨#[.pointer (some ⟨ai,0,none⟩),dC,en,e1,OE,uP,rS,ec,dL,ep,cz,gy,fS,eF,ex,ey,cM,cA,cB,cC,cD,cS,cT,cH,cW,cX,cY,cN,cI,eo,c7,dD,dE,dF,dh,dO,dP,dr,dt,di,dj,c8,c9,db,dd,de,df,.slice a3 n c3,.int .i64 n,Lu,XU,XV,XW,XX,XY,XZ,OG,OH,OI,I8,I9,Ja,Jb,Jc,vM,vN,vO,vP,vQ,vR,vS,vT,vU,vV,vW,vX,vY,vZ,v1,v2],[]⟩ B)) :
  Code.wp Tryz.prog ((Tryz.f50.body.bind (jh 2)).getD .skip) (Exit.then b9 eV) ⟨#[.pointer (some ⟨ai,0,none⟩),dC,en,e1,fx,e2,ea,ec,dL,ep,cz,gy,fS,eF,ex,ey,cM,cA,cB,cC,cD,cS,cT,cH,cW,cX,cY,cN,cI,eo,c7,dD,dE,dF,dh,dO,dP,dr,dt,di,dj,c8,c9,db,dd,de,df,.slice a3 n c3,.int .i64 n,.int .i64 0,cZ,c6,dw,dx,dQ,dy,dz,dI,dJ,dK,dk,dl,dm,dn,dR,dS,dT,dU,dV,dW,dX,dY,dZ,d0,d3,d4,d5,d6,d7,d8],[]⟩ wc:=by
 conv=>arg 2;whnf
 obtain⟨ev,eB,fb,em,b8⟩:=aeG;obtain⟨aeA,VR,aey,Ir,nL⟩:=KU
 change Hid _ at eB fb em b8 VR aey Ir
 go_wp2_with fail
 go_loopw [49] (fun aq B=>∃(k:Nat) (an:Nat->Prop) (u:Value) (am:List Value),k<=n∧aq = .int .i64 k∧Hid (n4 C wc B E M ai 4 (first+ha (bo.take k)) Ps an u (px first (bo.take k)) am)) (fun aq _=>n - (intOf aq).toNat)
 case atStart=>exact⟨0,Ps,_,[],cE _,rfl,lz⟩
 case round =>
  obtain⟨k,an,u,am,X,rfl,z4⟩:=hrel;by_cases aB:k<n
  ·obtain⟨nk,qS⟩:=bS (l:=bo) (k:=k) (by have:=bP.out;omega);obtain⟨bG,ck,kr,gK,cx⟩:=bR.el qS;have aoe:=zP nk (bn qS);obtain⟨m,ae⟩:∃m:Nat,nk.width=(m:Int):=⟨nk.width.toNat,by omega⟩
   obtain⟨nw,mL⟩:∃m:Nat,nk.words=(m:Int):=⟨nk.words.toNat,by omega⟩
   have c0:wr.cell? ⟨bG,ck+k*2,none⟩=some (.int .i64 (m:Int)):=(z4.kp.below.cell (p:=⟨bG,ck+k*2,none⟩) gK).trans (by have:=cx 0 (.int .i64 nk.width) rfl;rw[ae] at this;simpa using this);have c1:wr.cell? ⟨bG,ck+k*2+1,none⟩=some (.int .i64 (nw:Int)):=(z4.kp.below.cell (p:=⟨bG,ck+k*2+1,none⟩) gK).trans (by have:=cx 1 (.int .i64 nk.words) rfl;rw[mL] at this;exact this);have G6:=K (Xj qS);have VJ:=ch k;have adf:=ch (k+1);have ai3:Hid (px first (bo.take (k+1))=px first (bo.take k)++[gL (first+ha (bo.take k)) (List.replicate nw m)]):=by
    show _=_;rw[gM bo k nk qS,aqA];simp[px,ae,mL]
   have lP:Hid (am.length=k):=by show _=_;rw[z4.el.1,Oh,jx];have:=bP.out;omega
   rw[ae,mL] at aoe G6;simp only[Int.toNat_natCast] at G6;rw[G6.out] at adf;generalize adi:first+ha (bo.take k)=ur at *;have Me:Hid (first+ha (bo.take (k+1))=ur+m*nw):=by show _=_;rw[G6.out,<-adi];omega
   have ayM:ur+m*nw<=90000000:=by omega
   have fa:(k:Int)<(n:Int):=by omega
   have bM:=bF ((k:Int)+1);have cn:k+1<=maxLen:=by simp only[maxLen];omega
   have cq:(k+1)*24<=140737488355328:=by omega
   have ke:aeA.bytes*nw<=281474976710656:=by rw[nL];omega
   have jc:nw<=maxLen:=by simp only[maxLen];omega
   have tok:True:=trivial;subst kr;clear qS cx ae mL G6 adi VJ adf;go_upto_region 8 with fail
   generalize kA:World.alloc wr _=eQ;obtain⟨qb,Ay⟩:=cf (wr.heap.size);have acT:eQ.cell? ⟨qb,0,none⟩=some (.int .i64 (m:Int)):=by rw[<-kA];exact ja Ay
   have hx:eQ.cell? ⟨qb,1,none⟩=some (.int .i64 (nw:Int)):=by rw[<-kA];exact ja Ay
   have Ky:V wr eQ:=by rw[<-kA];exact(ax _ _).alloc (aL _) _
   have J2:=K (z4.be Ky);rw[<-Ay];have ao6:qb<eQ.heap.size:=by rw[<-kA,Ay];simp
   have azv:wr.heap.size<=qb:=by omega
   have iY:Hid (¬an qb∧qb≠ai∧u.ownBlock≠some qb∧qb≠E):=⟨fun e=>by have:=(z4.gt.ps qb (.inl e)).1;omega,by have:=z4.lt.2.1;have:=z4.lt.2.2.1;omega,fun e=>by have:=(z4.ow.lt qb e).2;omega,by obtain⟨g7,WB,-⟩:=z4.gt.gt;have:=WB.lt;omega⟩
   clear Ay kA c0 c1 Ky;go_upto_region 9 with (have _t:=tok;at_make;(refine wpList_make_full _ rfl (.tmp 54) (.tmp 54) 99 rfl eQ.heap.size 22 aeA _ 1 Tryz.underlying99 VR aey Ir .i64 .i64 (nw:Int) (nw:Int) nw rfl rfl rfl rfl ke jc (aL _) ?_;intro w2 gX ij;have te:=K (tf.start J2 (tw ij) gX);have Vo:=(tw ij).cell (p:=⟨qb,0,none⟩) ao6;clear tok gX ij))
   rw[acT] at Vo;have aao:Hid (qb≠eQ.heap.size):=by show _≠_;omega
   obtain⟨h,kZ⟩:=cf (eQ.heap.size);rw[<-kZ] at te aao;rw[<-kZ];clear kZ acT hx;have ajn:=K iY.2.2.2;generalize px first (bo.take k)=afd at *;clear J2 z4 iY;go_wp2_with fail
   go_loopw [58] (fun aq B=>∃(j:Nat) (jO:Nat->Prop) (xs:List Value),j<=nw∧aq = .int .i64 j∧Hid (tf C wc B E M ai (ur+j*m) Ps jO u afd am h nw (gL ur (List.replicate j m)) xs)∧Hid (B.cell? ⟨qb,0,none⟩=some (.int .i64 (m:Int)))) (fun aq _=>nw - (intOf aq).toNat)
   case atStart=>exact⟨0,an,_,cE _,rfl,by show tf _ _ _ _ _ _ _ _ _ _ _ _ _ _ _ _;rw[Nat.zero_mul,Nat.add_zero];exact te,Vo⟩
   case round =>
    clear te Vo;obtain⟨j,jO,xs,aT,rfl,J3,aiH⟩:=hrel;have Qc:=aiH.out;by_cases oZ:j<nw
    ·have DC:j*m+m<=m*nw:=by
      have F:(j+1)*m<=nw*m:=Nat.mul_le_mul_right m oZ;rw[Nat.succ_mul,Nat.mul_comm nw m] at F;exact F
     have Nn:=(J3.lm.oth 0 (by decide)).trans i0;have oy:=K (Xc C wr E M (ur+j*m) _ J3.gh ai m Nn (by omega) (by omega));have z1:Hid ((gL ur (List.replicate j m)).length=j):=by show _=_;rw[K1,List.length_replicate]
     have KH:(j:Int)<(nw:Int):=by omega
     have lg:=bF ((j:Int)+1);have JU:Hid (qb<wr.heap.size∧qb≠E):=⟨World.block_lt_of_cell? wr ⟨qb,0,none⟩ Qc,ajn⟩
     generalize VI:ur+j*m=Qo at *
     change Hid _ at VI
     clear DC;go_wp2_with fail
     go_at_call 71;refine oy.mono ?_;rintro e w3 ⟨g,rfl,oE⟩;have eb:=K (J3.lay (ax _ _) oE);have ES:Hid (w3.cell? ⟨qb,0,none⟩=some (.int .i64 (m:Int))):=(dA (a:=⟨qb,0,none⟩) (oE.2.2.2.2 qb JU.1 JU.2)).trans Qc;obtain⟨⟨i4,hold⟩,h1⟩:=eb.1.cell oZ;clear oE;go_wp2_with fail
     generalize av:World.setCell w3 _ _=f1;have xg:=K (eb.1.store (w2:=f1) eb.2 (by rw[z1.out];exact oZ) (by rw[z1.out];exact av));have aiG:Hid (f1.cell? ⟨qb,0,none⟩=some (.int .i64 (m:Int))):=by rw[<-av];exact(ce _ ⟨h,j,none⟩ ⟨qb,0,none⟩ _ (fun e=>aao e.symm)).trans ES.out
     have kP:Hid (tf C wc f1 E M ai (ur+(j+1)*m) Ps (cK jO g) u afd am h nw (gL ur (List.replicate (j+1) m)) (xs.set (gL ur (List.replicate j m)).length (.slice (some ⟨g,0,none⟩) m m))):=by
      show tf _ _ _ _ _ _ _ _ _ _ _ _ _ _ _ _;rw[aqw,VI.out,show ur+(j+1)*m=Qo+m by rw[<-VI.out,Nat.succ_mul];omega];exact xg
     clear av hold h1 eb xg J3 oy ES;go_wp2;go_roundw
     case measure=>simp[intOf];omega
     exact⟨j+1,_,_,by omega,by simp,kP.out,aiG⟩
    ·have As:¬((j:Int)<(nw:Int)):=by omega
     have Q3:j=nw:=by omega
     subst Q3;have Ho:=K (J3.done (by rw[K1,List.length_replicate]));have VD:=Ho.1.fld;have Da:=K (Ho.1.alloc (.cells #[.slice (some ⟨h,0,none⟩) j j] 99));have an9:=Da.fld;have cJ:=Ho.1.sz (.cells #[.slice (some ⟨h,0,none⟩) j j] 99);have ayN:=Ho.1.fz 4;have tok:True:=trivial;go_upto_region 14 with fail
     go_wp2_with (have _t:=tok;at_builtin;(refine wpList_append_lies _ rfl (.tmp 73) (.tmp 75) 100 rfl wc.heap.size 99 ev _ 1 24 Tryz.underlying100 eB fb em b8 rfl (by decide) u k _ rfl (lP.out▸Da.ow) ⟨wr.heap.size,0,none⟩ 1 1 [.slice (some ⟨h,0,none⟩) j j] rfl rfl (i5 (h8 _ _)) (by simp[Value.oneCell']) (by decide) cn cq cJ _ rfl ?_;intro mW cap al bc br aO cj;have fV:=K (Ho.1.push5 (cap:=cap) (x:= .slice (some ⟨h,0,none⟩) j j) (by rw[lP.out];exact bc) br aO cj);have f6:=fV.1;have h0:=fV.2.1 4;clear tok bc br aO cj))
     generalize av:World.setCell al _ _=aH;have kP:=K (fV.2.2 (gL ur (List.replicate j m)) aH Ho.2 (by rw[lP.out];exact av));have oP:Hid (∃ka g7 kj,n4 C wc aH E M ai 4 (first+ha (bo.take (k+1))) Ps ka g7 (px first (bo.take (k+1))) kj):=by
      rw[Me.out,ai3.out,Nat.mul_comm m j];exact⟨_,_,_,kP⟩
     clear av f6 h0 kP fV Ho Da VD an9 J3;go_wp2;go_roundw
     case measure=>simp[intOf];omega
     case rel =>
      obtain⟨ka,g7,kj,hl⟩:=oP.out;exact⟨k+1,ka,g7,kj,by omega,by simp,hl⟩
  ·have cQ:¬((k:Int)<(n:Int)):=by omega
   have hB:bo.take k=bo:=fQ (by have:=bP.out;omega);have re:=K z4;rw[hB] at re;clear hB;go_wp2;exact dM _ ⟨an,u,am,re⟩
theorem ON (l:List Nat) (k:Nat):(l.take k).sum<=l.sum:=by
 have e:(l.take k++l.drop k).sum=(l.take k).sum+(l.drop k).sum:=List.sum_append;rw[List.take_append_drop] at e;omega
theorem aq4 (l:List hf) (k:Nat):ha (l.take k)<=ha l:=by
 have:=ON (l.map fun m=>m.width.toNat*m.words.toNat) k
 unfold ha;rw[List.map_take];exact this
structure LS (C:Nat) (w:World) (E M ai ab first:Nat) (Ps:Nat->Prop):Prop where
 gt:bZ C w E M first [] (fun b=>Ps b∨b=ai)
 ap:¬Ps ai
 c0:w.cell? ⟨ai,0,none⟩=some (.pointer (some ⟨E,0,none⟩))
 c1:w.cell? ⟨ai,1,none⟩=some (.pointer (some ⟨ab,0,none⟩))
 c3:w.cell? ⟨ai,3,none⟩=some (.slice none 0 0)
 c4:w.cell? ⟨ai,4,none⟩=some (.slice none 0 0)
 fz:∀j,w.frozen? ⟨ai,j,none⟩=false
 lt:C<=ai∧ai≠E
theorem LS.regs {C:Nat} {w:World} {E M ai ab first:Nat} {Ps:Nat->Prop} (h:LS C w E M ai ab first Ps):kR C w w E M ai 3 first Ps Ps (.slice none 0 0) [] []:=by
 refine⟨fun _ D=>D,h.gt.less (fun b D=>?_),f3.refl _ _ _,k8 _ _ _ _,⟨rfl,fun i l hl=>by simp at hl⟩,fun b D=>⟨fun e=>h.ap (by rw[<-e];exact D),fun e=>by cases e⟩,h.c3,fun _ _=>rfl,h.fz,fun b D=>(h.gt.ps b (.inl D)).1,(h.gt.ps ai (.inr rfl)).1,aL _,h.gt.lo.2.2,h.lt.1,h.lt.2⟩;rcases D with D | D | D
 ·exact .inl D
 ·exact .inr D
 ·cases D
theorem kR.mems {C:Nat} {az w:World} {E M ai first:Nat} {Ps an:Nat->Prop} {u:Value} {ws:List (List Int)} {am:List Value} (h:kR C az w E M ai 3 first Ps an u ws am) (cw:az.cell? ⟨ai,4,none⟩=some (.slice none 0 0)):n4 C w w E M ai 4 first (lq an u) (lq an u) (.slice none 0 0) [] []:=by
 have f0:ai<w.heap.size:=bk h.lt.2.1 h.lt.2.2.1;refine⟨fun _ D=>D,h.gt.less (fun b D=>?_),f3.refl _ _ _,k8 _ _ _ _,⟨rfl,fun i l hl=>by simp at hl⟩,fun b D=>⟨?_,fun e=>by cases e⟩,(h.oth 4 (by decide)).trans cw,fun _ _=>rfl,h.fz,fun b D=>?_,f0,aL _,h.gt.lo.2.2,h.lt.2.2.2.2⟩
 ·rcases D with (D | D) | D | D
  ·exact .inl D
  ·exact .inr (.inr D)
  ·exact .inr (.inl D)
  ·cases D
 ·rcases D with D | D
  ·exact(h.ap b D).1
  ·intro e
   have:=(h.ow.lt b D).1
   have:=h.lt.2.1
   omega
 ·rcases D with D | D
  ·exact(h.gt.ps b (.inl D)).1
  ·exact(h.gt.ps b (.inr (.inr D))).1
theorem kR.row {C:Nat} {az w:World} {E M ai hW first:Nat} {Ps an:Nat->Prop} {u:Value} {ws:List (List Int)} {am:List Value} (h:kR C az w E M ai hW first Ps an u ws am):qm (lq an u) w u ws:=by
 have hl:=h.el.1;rcases h.ow.2 with ⟨rfl,aI⟩ | ⟨g,cap,hV,rfl,apc⟩
 ·refine⟨none,0,by rw[<-hl,aI],fun i l hi=>?_⟩
  have:=(cr.1 hi).1
  omega
 ·refine⟨_,cap,by rw[hl],fun i l hi=>?_⟩;obtain⟨x,J,aw⟩:=h.el.2 i l hi;refine⟨g,0,x,rfl,.inr rfl,?_,aw.more qC⟩;rw[Nat.zero_add,h.ow.cellAt i (by have:=(cr.1 J).1;omega)];exact J
theorem n4.row {C:Nat} {az w:World} {E M ai hW first:Nat} {Ps an:Nat->Prop} {u:Value} {ws:List (List (List Int))} {am:List Value} (h:n4 C az w E M ai hW first Ps an u ws am):ro (lq an u) w u ws:=by
 have hl:=h.el.1;rcases h.ow.2 with ⟨rfl,aI⟩ | ⟨g,cap,hV,rfl,apc⟩
 ·refine⟨none,0,by rw[<-hl,aI],fun i l hi=>?_⟩
  have:=(cr.1 hi).1
  omega
 ·refine⟨_,cap,by rw[hl],fun i l hi=>?_⟩;obtain⟨x,J,aw⟩:=h.el.2 i l hi;refine⟨g,0,x,rfl,.inr rfl,?_,aw.more qC⟩;rw[Nat.zero_add,h.ow.cellAt i (by have:=(cr.1 J).1;omega)];exact J
theorem aqy (C:Nat) (w:World) (E M ai ab first:Nat) (Ps:Nat->Prop) (S:dp) (N:aR) (h:LS C w E M ai ab first Ps) (gV:eM C w S N) (aG:er N=true) (cR:th w ab S N) (ts:ab<C) (F:N.regs.length<=1048576) (O:N.mems.length<=1048576) (hF:first+h4 N.regs+ha N.mems<=90000000) :
  Calls Tryz.prog 50 #[.pointer (some ⟨ai,0,none⟩)] w fun e B=>(∃ahV,e = .returned ahV)∧∃an,(∀b,Ps b->an b)∧¬an ai∧bZ C B E M (first+h4 N.regs+ha N.mems) [] (fun b=>an b∨b=ai)∧f3 C Ps w B∧(∀j,j≠3->j≠4->B.cell? ⟨ai,j,none⟩=w.cell? ⟨ai,j,none⟩)∧(∀j,B.frozen? ⟨ai,j,none⟩=false)∧(∃v,B.cell? ⟨ai,3,none⟩=some v∧qm an B v (gL first (N.regs.map fun r=>r.width.toNat)))∧∃v,B.cell? ⟨ai,4,none⟩=some v∧ro an B v (px (first+h4 N.regs) N.mems):=by
 have P:=K (q1 aG);have eX:w.cell? ⟨ab,2,none⟩=some (.slice S.a2 N.regs.length S.c2):=cR 2 _ rfl;have fH:w.cell? ⟨ab,3,none⟩=some (.slice S.a3 N.mems.length S.c3):=cR 3 _ rfl;have b0:=h.c0;have b1:=h.c1;have Py:=K h.regs;have rj:Hid ((N.regs.map fun r=>r.width.toNat)=N.regs.map fun r=>r.width.toNat):=rfl;have yl:Hid (∀r,r∈N.regs->1<=r.width∧r.width<=32):=fun r ak=>(P.reg r ak).1
 have zU:Hid (N.regs.length=N.regs.length):=rfl;have pd:=K gV.r;have zQ:Hid (∀k,first+((N.regs.map fun r=>r.width.toNat).take k).sum<=90000000):=fun k=>by
  have:=ON (N.regs.map fun r=>r.width.toNat) k
  have e:(N.regs.map fun r=>r.width.toNat).sum=h4 N.regs:=rfl;omega
 have ail:=K gV.m;have zP:Hid (∀r,r∈N.mems->(1<=r.width∧r.width<=32)∧1<=r.words∧r.words<=256):=fun r ak=>P.mem r ak
 have iX:Hid (∀k,(first+h4 N.regs)+ha (N.mems.take k)<=90000000):=fun k=>by
  have:=aq4 N.mems k
  omega
 have BC:Hid (N.mems.length=N.mems.length):=rfl;have cw:=h.c4
 change Hid _ at h
 clear gV cR aG;go_enter Tryz.func50,Tryz.ntmps50
 go_upto_block 0 with fail
 refine aqB C w E M ai ab first _ _ _ Ps N.regs _ rj yl Py b0 b1 ts eX zU pd F zQ _ _ (K ?_);intro w1 gZ ww Sz SA SB SC SD SE LB LC LD LF Jg Jh LG LH wx wy wz uT uU uW tG tH tI uX uY hcut;obtain⟨an,u,am,hl⟩:=hcut;have lO:=K hl;have Gj:=(hl.kp.below.cell (p:=⟨ab,3,none⟩) ts).trans fH;have xk:=(hl.oth 1 (by decide)).trans b1;have jA:=(hl.oth 0 (by decide)).trans b0;have w8:Hid (n4 C w1 w1 E M ai 4 (first+h4 N.regs) (lq an u) (lq an u) (.slice none 0 0) [] []):=hl.mems cw;have ajq:=K (ail.to hl.kp.below);clear hl
 go_upto_block 2 with fail
 refine ah1 ?_;refine aqz C w1 E M ai (first+h4 N.regs) _ _ _ (lq an u) N.mems zP w8 jA BC ajq O iX _ _ (K ?_);intro w2 GJ LL aib aAF aAG aAH aAI aAJ aAK aAL aAM aAN aAO aAP aAQ aAR aAS aAT aAU aAV aAW aAX aAY aAZ aA0 aA1 aA2 aA3 aA4 aA5 aA6 aA7 aA8 aA9 hcut;obtain⟨jO,u2,aAw,oD⟩:=hcut;have aiX:=K oD;clear oD
 go_end0
 have hl:=lO.out;have oD:=aiX.out;have azK:u.ownBlock≠some ai:=fun e=>by have:=(hl.ow.lt ai e).1;have:=hl.lt.2.1;omega
 have apq:u2.ownBlock≠some ai:=fun e=>by have:=(oD.ow.lt ai e).1;have:=oD.lt.2.1;omega
 refine⟨⟨_,rfl⟩,lq jO u2,fun b D=> .inl (oD.sub b (.inl (hl.sub b D))),?_,oD.gt.less (fun b D=>?_),hl.kp.trans (oD.kp.less (fun b D=> .inl (hl.sub b D))),fun j aW ane=>(oD.oth j ane).trans (hl.oth j aW),oD.fz,⟨u,(oD.oth 3 (by decide)).trans hl.fld,(hl.row.keep (fun b D=>oD.kp.block b D)).more (fun b D=> .inl (oD.sub b D))⟩,u2,oD.fld,oD.row⟩
 ·rintro(e | e)
  ·exact(oD.ap ai e).1 rfl
  ·exact apq e
 ·rcases D with (D | D) | D
  ·exact .inl D
  ·exact .inr (.inr D)
  ·exact .inr (.inl D)
def z3 (v:Value):Prop:=∃a n c,v = .slice a n c
theorem z3.one {v:Value} (h:z3 v):v.oneCell'=true:=by obtain⟨a,n,c,rfl⟩:=h;rfl
theorem z3.noint {v:Value} (h:z3 v) (x:Int):v≠ .int .i64 x:=by obtain⟨a,n,c,rfl⟩:=h;intro e;cases e
def sv (w:World) (g:Nat):Prop:=∃hV t,w.heap[g]?=some (.cells hV t (0,0))∧∀u,u∈hV.toList->z3 u
theorem sv.keep {w B:World} {g:Nat} (h:sv w g) (D:B.heap[g]?=w.heap[g]?):sv B g:=by
 obtain⟨hV,t,F,O⟩:=h;exact⟨hV,t,D.trans F,O⟩
theorem sv.noint {w:World} {g:Nat} (h:sv w g) (o:Nat) (x:Int):w.cell? ⟨g,o,none⟩≠some (.int .i64 x):=by
 obtain⟨hV,t,F,O⟩:=h;intro J;have ar:hV.toList[o]?=some (.int .i64 x):=by
  rw[Array.getElem?_toList];simpa[World.cell?,F] using J
 exact(O _ (bn ar)).noint x rfl
theorem sv.set {w:World} {g:Nat} (h:sv w g) (j:Nat) {u:Value} (bb:z3 u):sv (w.setCell ⟨g,j,none⟩ u) g:=by
 obtain⟨hV,t,F,O⟩:=h;refine⟨_,t,heap_setCell_same w g j hV t u F,fun v L=>?_⟩;rw[Array.toList_setIfInBounds] at L;rcases List.mem_or_eq_of_mem_set L with L | rfl
 ·exact O v L
 ·exact bb
theorem sv.word {w:World} {g:Nat} {Ps:Nat->Prop} {v:Value} {ls:List Int} (h:sv w g) (aw:cv Ps w v ls) (cb:ls≠[]):cv (fun b=>Ps b∧b≠g) w v ls:=by
 obtain⟨b,o,c,F,O,aW,cw⟩:=aw;refine⟨b,o,c,F,O,⟨aW,?_⟩,cw⟩;rintro rfl;obtain⟨x,r,rfl⟩:=List.exists_cons_of_ne_nil cb;exact h.noint (o+0) x (cw 0 x rfl)
theorem awX (n:Nat):∀u,u∈(Builtin.zeroCells #[.slice none 0 0] n).toList->z3 u:=by
 intro u bb
 have:u = .slice none 0 0:=by
  simp[Builtin.zeroCells] at bb;obtain⟨k,X,e⟩:=bb;rw[Nat.mod_one] at e;exact e.symm
 exact⟨none,0,0,this⟩
theorem arK {w:World} {am:List Value} {n:Nat} {t:TypeId} (h:∀u,u∈am->z3 u):sv (w.alloc (.cells (am.toArray++Builtin.zeroCells (Value.slice none 0 0).cells n) t)) w.heap.size:=by
 refine⟨_,t,h8 _ _,fun u ae=>?_⟩;rw[Array.toList_append] at ae;rcases o7.1 ae with ae | ae
 ·exact h _ ae
 ·exact awX n _ ae
theorem awu {P:Program} (w:World) {jL:Array Oper} {oH:List Oper} {o:Oper} {a:Act} {Q:Exit->Act->World->Prop} (gF:o.guard=none) (s x:Operand) (t:TypeId)
  (Cc:o.op = .call {callee:= .builtin .append,args:=#[s,x],argTypes:=#[t,t]})
  (e:TypeId) (i:TypeInfo) (z:Value) (bytes:Nat) (eg:P.underlying t=some (.slice e)) (hi:P.info? e=some i) (ao:i.zero=some z) (KO:i.size=1) (jJ:i.bytes=bytes)
  (b:Addr) (hs:a.eval s = .slice (some b) 0 0) (e9:Addr) (m c:Nat) (qz:List Value) (J:a.eval x = .slice (some e9) m c) (hl:qz.length=m*1) (FT:∀j u,qz[j]?=some u->w.cell? (e9.add j)=some u) (F:∀u∈qz,u.oneCell'=true)
  (ae:0<m) (Do:m<=maxLen) (Dy:m*bytes<=140737488355328)
  (W:∀cap,m<=cap->cap<=maxLen->wpList P jL Q oH (a.put o.dst (.slice (some ⟨w.heap.size,0,none⟩) m cap)) (w.drew.alloc (.cells (qz.toArray++Builtin.zeroCells z.cells (cap - m)) e))) :
  wpList P jL Q (o::oH) a w:=by
 refine wpList_plain gF fun aj anw=>?_
 subst jJ;have anf:((0+m:Nat):Int)<=9223372036854775807:=by simp only[maxLen] at Do;omega
 have ak:=run_append_grow_src (P:=P) w t t o.type e i z eg hi ao (some b) 0 0 [] (by rw[KO];exact run_firstCells_some w.drew 1 0 b 0 0 [] rfl (by simp)) (.slice (some e9) m c) m qz (by rw[KO];exact Src.ofSlice w eg e9 m c qz hl FT F) (by omega) anf (growslice_fits (by omega) (by rw[Nat.zero_add];exact Dy));unfold Oper.wp;simp only[Nat.zero_add,List.nil_append] at ak;simp[execOp,Cc,resolve,invoke,builtin,hs,J,ak,Result.andThen];exact anw _ _ (W _ (grownCap_ge w m 0 e) (grownCap_le_maxLen w m 0 e Do))
theorem alE (w:World) (b o c:Nat) (am:List Value) (cb:0<am.length) (ag:am.length<=1048576) (ar:∀(i:Nat) (x:Value),am[i]?=some x->w.cell? ⟨b,o+i,none⟩=some x) (pv:∀u,u∈am->z3 u) :
  Calls Tryz.prog 82 #[.slice (some ⟨b,o,none⟩) am.length c] w fun e B=>∃g cap,e = .returned (.slice (some ⟨g,0,none⟩) am.length cap)∧B.ownsRow w.heap.size 22 1 (.slice (some ⟨g,0,none⟩) am.length cap) am.length am∧sv B g∧V w B:=by
 obtain⟨ev,eB,fb,em,b8⟩:=KU;have D:b<w.heap.size:=by
  obtain⟨x,J⟩:=bS cb;exact World.block_lt_of_cell? w ⟨b,o+0,none⟩ (ar 0 x J)
 have oQ:Hid (∀(j:Nat) (u:Value),am[j]?=some u->(w.alloc (.cells #[] 22)).cell? ((⟨b,o,none⟩:Addr).add j)=some u):=fun j u bb=>by
  have:(⟨b,o,none⟩:Addr).add j=⟨b,o+j,none⟩:=by unfold Addr.add;split <;> simp_all
  rw[this,nb _ _ _ D];exact ar j u bb
 have lA:Hid (∀u,u∈am->u.oneCell'=true):=fun u bb=>(pv u bb).one
 have y2:Hid (am.length=am.length*1):=by show _=_;simp
 have cn:am.length<=maxLen:=by simp only[maxLen];omega
 have cq:am.length*24<=140737488355328:=by omega
 have bP:=K cb;have KK:¬((am.length:Int)=0):=by omega
 obtain⟨n,pt⟩:=cf (am.length);have Z7:=K pt;rw[<-pt] at bP cn cq KK ⊢;have Z0:Hid (am.length=n*1):=by show _=_;rw[<-pt];simp
 change Hid _ at eB fb em b8 pv
 clear y2 ar cb pt ag;have tok:True:=trivial;have aj3:∀w,(binOp .eql 99 (.slice (some ⟨b,o,none⟩) n c) (.slice none 0 0)).run Tryz.prog w = .ok (.bool false) w:=fun w=>Lib.run_eql_slice_nil w 99 22 (some ⟨b,o,none⟩) n c 0 0 Tryz.underlying99
 go_enter Tryz.func82,Tryz.ntmps82
 go_wp2_with (have _t:=tok;at_builtin;(refine awu _ rfl (.tmp 5) (.tmp 6) 99 rfl 22 ev _ 24 Tryz.underlying99 eB fb em b8 ⟨w.heap.size,0,none⟩ rfl ⟨b,o,none⟩ n c am rfl Z0 oQ lA bP cn cq ?_;intro cap lF lU;generalize av:World.alloc (World.drew _) _=I;clear tok))
 have jr:=K av;clear av;go_ret
 have av:=jr.out;have gY:(w.alloc (.cells #[] 22)).drew.heap.size=w.heap.size+1:=by show(w.alloc _).heap.size=_;simp
 have hR:V w (w.alloc (.cells #[] 22)).drew:=((ax _ _).alloc (aL _) _).drew;refine⟨w.heap.size+1,cap,rfl,⟨Z0,.inr ⟨w.heap.size+1,cap,am.toArray++Builtin.zeroCells (Value.slice none 0 0).cells (cap - n),rfl,by omega,?_,lF,lU,?_,?_⟩⟩,?_,?_⟩
 ·rw[<-av,<-gY];exact h8 _ _
 ·rw[Array.size_append,size_zeroCells,List.size_toArray,<-Z7.out];simp[Value.cells];omega
 ·rw[Array.toList_append,Nat.mul_one,Z7.out];exact List.take_left
 ·rw[<-av,<-gY];exact arK pv
 ·rw[<-av];exact hR.alloc (by rw[gY];omega) _
structure kO where
 b:Nat
 len:Nat
 cap:Nat
def kO.val (e:kO):Value:= .slice (some ⟨e.b,0,none⟩) e.len e.cap
structure y7 (nF:Nat) (an:Nat->Prop) (w:World) (e:kO) (ws:List (List Int)):Prop where
 len:ws.length=e.len
 sl:sv w e.b
 row:∃kM:List Value,w.ownsRow nF 22 1 e.val e.len kM∧∀(i:Nat) (l:List Int),ws[i]?=some l->∃x,kM[i]?=some x∧cv an w x l
theorem cv.isSl {Ps:Nat->Prop} {w:World} {v:Value} {ls:List Int} (h:cv Ps w v ls):z3 v:=by
 obtain⟨b,o,c,F,-⟩:=h;exact⟨_,_,_,F⟩
section
variable {nF:Nat} {an jO:Nat->Prop} {w B:World} {e:kO} {ws:List (List Int)}
theorem y7.keep (h:y7 nF an w e ws) (D:B.heap[e.b]?=w.heap[e.b]?) (X:∀b,an b->B.heap[b]?=w.heap[b]?):y7 nF an B e ws:=by
 obtain⟨kM,F,O⟩:=h.row;exact⟨h.len,h.sl.keep D,kM,zD F D,fun i l hl=>by obtain⟨x,J,aw⟩:=O i l hl;exact⟨x,J,aw.keep X⟩⟩
theorem y7.more (h:y7 nF an w e ws) (aE:∀b,an b->jO b):y7 nF jO w e ws:=by
 obtain⟨kM,F,O⟩:=h.row;exact⟨h.len,h.sl,kM,F,fun i l hl=>by obtain⟨x,J,aw⟩:=O i l hl;exact⟨x,J,aw.more aE⟩⟩
theorem K7 {nF t g n cap i:Nat} {kM:List Value} {x:Value} (h:w.ownsRow nF t 1 (.slice (some ⟨g,0,none⟩) n cap) n kM) (J:kM[i]?=some x):w.cell? ⟨g,i,none⟩=some x∧w.frozen? ⟨g,i,none⟩=false:=by
 rcases h.2 with ⟨d9,_⟩ | ⟨oB,zb,hV,d9,D,af,mc,sP,jD,sS⟩
 ·simp at d9
 ·simp only[Value.slice.injEq,Option.some.injEq,Addr.mk.injEq,and_true,true_and] at d9;obtain⟨rfl,rfl⟩:=d9;have hi:=(cr.1 J).1;have hl:=h.1;rw[<-sS,List.getElem?_take,Array.getElem?_toList] at J;split at J
  ·exact⟨by simpa[World.cell?,af] using J,by simp[World.frozen?,af]⟩
  ·cases J
theorem y7.cell (h:y7 nF an w e ws) {i:Nat} {l:List Int} (hi:ws[i]?=some l):∃x,w.cell? ⟨e.b,i,none⟩=some x∧cv an w x l∧w.frozen? ⟨e.b,i,none⟩=false:=by
 obtain⟨kM,F,O⟩:=h.row;obtain⟨x,J,aw⟩:=O i l hi;obtain⟨aW,cw⟩:=K7 F J;exact⟨x,aW,aw,cw⟩
theorem y7.store (h:y7 nF an w e ws) (i:Nat) {l:List Int} {x:Value} (J:cv an w x l) (X:∀b,an b->(w.setCell ⟨e.b,i,none⟩ x).heap[b]?=w.heap[b]?):y7 nF an (w.setCell ⟨e.b,i,none⟩ x) e (ws.set i l):=by
 obtain⟨kM,F,O⟩:=h.row;refine⟨by rw[List.length_set];exact h.len,h.sl.set i J.isSl,kM.set i x,(F.stored i x).1,fun j pw hC=>?_⟩;have oF:kM.length=ws.length:=by have:=F.1;rw[h.len];omega
 by_cases Ig:i=j
 ·subst Ig;have qW:i<ws.length:=by have:=(cr.1 hC).1;simpa using this
  rw[t6 qW] at hC;cases hC;exact⟨x,t6 (by omega),J.keep X⟩
 ·rw[ve Ig] at hC;obtain⟨y,aF,aw⟩:=O j pw hC;exact⟨y,by rw[ve Ig];exact aF,aw.keep X⟩
end
def pA (an:Nat->Prop) (cF:Nat) (bo:List kO):Nat->Prop:=fun b=>an b∨b=cF∨∃e,e∈bo∧b=e.b
structure i9 (C:Nat) (az w:World) (E M first:Nat) (hs:List Z) (Ps an:Nat->Prop) (cF n:Nat) (bo:List kO) (ms:List (List (List Int))):Prop where
 sub:∀b,Ps b->an b
 gt:bZ C w E M first hs (pA an cF bo)
 kp:f3 C Ps az w
 row:w.ownsRow az.heap.size 99 1 (.slice (some ⟨cF,0,none⟩) n n) n (bo.map kO.val++List.replicate (n - bo.length) (.slice none 0 0))
 sl:sv w cF
 len:bo.length=ms.length∧bo.length<=n
 each:∀(k:Nat) (e:kO) (ws:List (List Int)),bo[k]?=some e->ms[k]?=some ws->y7 az.heap.size an w e ws
 ap:(∀e,e∈bo->¬an e.b∧e.b≠cF)∧¬an cF∧∀(i j:Nat) (e qo:kO),bo[i]?=some e->bo[j]?=some qo->e.b=qo.b->i=j
 lt:(∀b,Ps b->b<az.heap.size)∧az.heap.size<=w.heap.size∧C<=az.heap.size
section
variable {C:Nat} {az w B v:World} {E M first:Nat} {hs bA:List Z} {Ps an lB:Nat->Prop} {cF n:Nat} {bo:List kO} {ms:List (List (List Int))}
def off (lB:Nat->Prop) (cF:Nat) (bo:List kO):Nat->Prop:=fun b=>lB b∧b≠cF∧∀e,e∈bo->b≠e.b
theorem i9.call (h:i9 C az w E M first hs Ps an cF n bo ms) (rH:∀b,pA an cF bo b->lB b) (af:bZ C B E M first bA lB) (X:f3 C (pA an cF bo) w B):i9 C az B E M first bA Ps (off lB cF bo) cF n bo ms:=by
 have kW:∀b,an b->off lB cF bo b:=fun b D=>⟨rH b (.inl D),fun e=>h.ap.2.1 (e▸D),fun e ay aS=>(h.ap.1 e ay).1 (aS▸D)⟩
 refine⟨fun b D=>kW b (h.sub b D),af.less (fun b D=>?_),h.kp.trans (X.less (fun b D=> .inl (h.sub b D))),zD h.row (X.block cF (.inr (.inl rfl))),h.sl.keep (X.block cF (.inr (.inl rfl))),h.len,fun k e ws ay aw=>?_,⟨fun e ay=>⟨fun aY=>aY.2.2 e ay rfl,(h.ap.1 e ay).2⟩,fun aY=>aY.2.1 rfl,h.ap.2.2⟩,h.lt.1,?_,h.lt.2.2⟩
 ·rcases D with D | D
  ·exact D.1
  ·exact rH b (.inr D)
 ·exact((h.each k e ws ay aw).keep (X.block _ (.inr (.inr ⟨e,bn ay,rfl⟩))) (fun b D=>X.block b (.inl D))).more kW
 ·have:=X.below.size;have:=h.lt.2.1;omega
theorem i9.word (h:i9 C az w E M first hs Ps (off lB cF bo) cF n bo ms) {x:Value} {l:List Int} (J:cv lB w x l) (cb:l≠[]):cv (off lB cF bo) w x l:=by
 obtain⟨b,o,c,F,O,aW,cw⟩:=h.sl.word J cb;obtain⟨y,r,aF⟩:=List.exists_cons_of_ne_nil cb;have ar:w.cell? ⟨b,o+0,none⟩=some (.int .i64 y):=cw 0 y (by rw[aF];rfl);refine⟨b,o,c,F,O,⟨aW.1,aW.2,fun e ay aS=>?_⟩,cw⟩;obtain⟨k,X⟩:=List.mem_iff_getElem?.1 ay;obtain⟨ws,hg⟩:=bS (l:=ms) (k:=k) (by have:=(cr.1 X).1;have:=h.len.1;omega);subst aS;exact(h.each k e ws X hg).sl.noint _ y ar
theorem i9.below (h:i9 C az w E M first hs Ps an cF n bo ms) (D:V w B):i9 C az B E M first hs Ps an cF n bo ms:=by
 have X:=h.gt.kp D;refine⟨h.sub,h.gt.to D,h.kp.trans (X.less (fun b D=> .inl (h.sub b D))),zD h.row (X.block cF (.inr (.inl rfl))),h.sl.keep (X.block cF (.inr (.inl rfl))),h.len,fun k e ws ay aw=>?_,h.ap,h.lt.1,?_,h.lt.2.2⟩
 ·exact(h.each k e ws ay aw).keep (X.block _ (.inr (.inr ⟨e,bn ay,rfl⟩))) (fun b D=>X.block b (.inl D))
 ·have:=D.size;have:=h.lt.2.1;omega
theorem i9.store (h:i9 C az w E M first hs Ps an cF n bo ms) {j i:Nat} {e:kO} {ws:List (List Int)} {x:Value} {l:List Int} (ay:bo[j]?=some e) (aw:ms[j]?=some ws) (J:cv an w x l) (L:w.setCell ⟨e.b,i,none⟩ x=v) :
  i9 C az v E M first hs Ps an cF n bo (ms.set j (ws.set i l)):=by
 have qS:=bn ay;obtain⟨kM,F,-⟩:=(h.each j e ws ay aw).row;have af:=(F.stored i x).2;have rG:∀b,pA an cF bo b->b<w.heap.size:=fun b D=>(h.gt.ps b D).1
 have tt:∀b,pA an cF bo b->b≠e.b->v.heap[b]?=w.heap[b]?:=fun b D cb=>by rw[<-L];exact af.block b (rG b D) (fun aS=>cb (by cases aS;rfl))
 have Vl:∀b,an b->v.heap[b]?=w.heap[b]?:=fun b D=>tt b (.inl D) (fun aS=>(h.ap.1 e qS).1 (aS▸D))
 have jE:v.heap[cF]?=w.heap[cF]?:=tt cF (.inr (.inl rfl)) (fun aS=>(h.ap.1 e qS).2 aS.symm);have Nz:j<ms.length:=(cr.1 aw).1;have ayd:az.heap.size<=e.b:=by
  rcases F.2 with ⟨d9,_⟩ | ⟨oB,zb,hV,d9,D,-⟩
  ·simp[kO.val] at d9
  ·simp only[kO.val,Value.slice.injEq,Option.some.injEq,Addr.mk.injEq,and_true,true_and] at d9;omega
 have FJ:w.grownBy v (some e.b):=by rw[<-L];exact af
 refine⟨h.sub,h.gt.far FJ (.inr (.inr ⟨e,qS,rfl⟩)),⟨h.kp.below.trans (jB FJ (by have:=h.lt;omega) (fun k X=>by cases X;have:=h.lt;omega)),fun b D=>(Vl b (h.sub b D)).trans (h.kp.block b D)⟩,zD h.row jE,h.sl.keep jE,⟨by rw[List.length_set];exact h.len.1,h.len.2⟩,fun k qo Jn qq aV=>?_,h.ap,h.lt.1,?_,h.lt.2.2⟩
 ·by_cases Ih:j=k
  ·subst Ih;rw[ay] at qq;cases qq;rw[t6 Nz] at aV;cases aV
   have:=(h.each j e ws ay aw).store i J (by rw[L];exact Vl)
   rwa [L] at this
  ·rw[ve Ih] at aV;exact(h.each k qo Jn qq aV).keep (tt _ (.inr (.inr ⟨qo,bn qq,rfl⟩)) (fun aS=>Ih (h.ap.2.2 j k e qo ay qq aS.symm))) Vl
 ·have:=FJ.size;have:=h.lt.2.1;omega
theorem i9.push (h:i9 C az w E M first hs Ps an cF n bo ms) (aB:bo.length<n) (D:V w v) {g len cap:Nat} {kM:List Value} (af:w.heap.size<=g) (aY:v.ownsRow w.heap.size 22 1 (.slice (some ⟨g,0,none⟩) len cap) len kM) (pv:sv v g) {ws:List (List Int)} (mM:ws.length=len)
  (hg:∀(i:Nat) (l:List Int),ws[i]?=some l->∃x,kM[i]?=some x∧cv an w x l) (L:v.setCell ⟨cF,bo.length,none⟩ (.slice (some ⟨g,0,none⟩) len cap)=B) :
  i9 C az B E M first hs Ps an cF n (bo++[⟨g,len,cap⟩]) (ms++[ws]):=by
 have O:=h.below D;have KD:g<v.heap.size:=(aY.lt _ rfl).2;have ik:=O.row.stored bo.length (.slice (some ⟨g,0,none⟩) len cap);rw[L] at ik;have rG:∀b,pA an cF bo b->b<w.heap.size:=fun b D=>(h.gt.ps b D).1
 have azr:=rG cF (.inr (.inl rfl));have KC:g≠cF:=by omega
 have tt:∀b,b<v.heap.size->b≠cF->B.heap[b]?=v.heap[b]?:=fun b D cb=>ik.2.block b D (fun aS=>cb (by cases aS;rfl))
 have xw:=D.size;have aD:=D;have adU:∀b,pA an cF bo b->b≠cF->B.heap[b]?=v.heap[b]?:=fun b D cb=>tt b (by have:=rG b D;omega) cb
 have Vm:∀b,an b->B.heap[b]?=v.heap[b]?:=fun b D=>adU b (.inl D) (fun e=>h.ap.2.1 (e▸D))
 have anA:∀b,an b->B.heap[b]?=w.heap[b]?:=fun b D=>(Vm b D).trans ((h.gt.kp aD).block b (.inl D))
 have anL:bZ C v E M first hs (cK (pA an cF bo) g):=h.gt.add D af KD;have mY:az.heap.size<=w.heap.size:=h.lt.2.1;have azp:az.heap.size<=cF:=by
  rcases h.row.2 with ⟨d9,_⟩ | ⟨oB,zb,hV,d9,xu,-⟩
  ·simp at d9
  ·simp only[Value.slice.injEq,Option.some.injEq,Addr.mk.injEq,and_true,true_and] at d9;omega
 refine⟨h.sub,(anL.far ik.2 (.inl (.inr (.inl rfl)))).less (fun b D=>?_),⟨O.kp.below.trans (jB ik.2 (by have:=h.lt;omega) (fun k X=>by cases X;have:=h.lt;omega)),fun b D=>(Vm b (h.sub b D)).trans (O.kp.block b D)⟩,?_,?_,⟨by simp[h.len.1],by simp;omega⟩,fun k qo Jn qq aV=>?_,⟨fun e ay=>?_,h.ap.2.1,fun i j e qo hi aT aod=>?_⟩,h.lt.1,?_,h.lt.2.2⟩
 ·rcases D with D | D | ⟨e,ay,rfl⟩
  ·exact .inl (.inl D)
  ·exact .inl (.inr (.inl D))
  ·rcases o7.1 ay with ay | ay
   ·exact .inl (.inr (.inr ⟨e,ay,rfl⟩))
   ·rw[List.mem_singleton.1 ay];exact .inr rfl
 ·have bp:(bo.map kO.val++List.replicate (n - bo.length) (Value.slice none 0 0)).set bo.length (.slice (some ⟨g,0,none⟩) len cap)=(bo++[(⟨g,len,cap⟩:kO)]).map kO.val++List.replicate (n - (bo++[(⟨g,len,cap⟩:kO)]).length) (.slice none 0 0):=by
   rw[show n - bo.length=(n - (bo.length+1))+1 by omega,List.replicate_succ]
   have:=Lv (bo.map kO.val) (Value.slice none 0 0) (.slice (some ⟨g,0,none⟩) len cap) (List.replicate (n - (bo.length+1)) (.slice none 0 0))
   rw[lb] at this;rw[this];simp[kO.val]
  rw[<-bp];exact ik.1
 ·rw[<-L];exact O.sl.set _ ⟨_,_,_,rfl⟩
 ·by_cases X:k<bo.length
  ·rw[mS X] at qq;rw[mS (by have:=h.len.1;omega)] at aV;exact(O.each k qo Jn qq aV).keep (adU _ (.inr (.inr ⟨qo,bn qq,rfl⟩)) (h.ap.1 qo (bn qq)).2) Vm
  ·have hB:k=bo.length:=by
    have:=(cr.1 qq).1
    simp at this;omega
   subst hB;rw[lu (aL _),Nat.sub_self] at qq;rw[h.len.1,lu (aL _),Nat.sub_self] at aV;cases qq;cases aV;have np:=tt g KD KC;exact⟨mM,pv.keep np,kM,zD (xN aY mY) np,fun i l hl=>by obtain⟨x,J,aw⟩:=hg i l hl;exact⟨x,J,aw.keep anA⟩⟩
 ·rcases o7.1 ay with ay | ay
  ·exact h.ap.1 e ay
  ·rw[List.mem_singleton.1 ay];exact⟨fun aJ=>by have:=rG g (.inl aJ);omega,KC⟩
 ·have oZ:∀(k:Nat) (e:kO),bo[k]?=some e->e.b<w.heap.size:=fun k e ay=>rG _ (.inr (.inr ⟨e,bn ay,rfl⟩))
  have QU:∀(k:Nat) (e:kO),(bo++[(⟨g,len,cap⟩:kO)])[k]?=some e->(bo[k]?=some e)∨(k=bo.length∧e.b=g):=fun k e ay=>by
   by_cases X:k<bo.length
   ·rw[mS X] at ay;exact .inl ay
   ·have hB:k=bo.length:=by
     have:=(cr.1 ay).1
     simp at this;omega
    subst hB;rw[lu (aL _),Nat.sub_self] at ay;cases ay;exact .inr ⟨rfl,rfl⟩
  rcases QU i e hi with aW | ⟨aW,cw⟩ <;> rcases QU j qo aT with hY | ⟨hY,mX⟩
  ·exact h.ap.2.2 i j e qo aW hY aod
  ·have:=oZ i e aW;omega
  ·have:=oZ j qo hY;omega
  ·omega
 ·have:=ik.2.size;omega
theorem i9.start (h:bZ C w E M first hs Ps) (D:V w v) {g:Nat} (af:w.heap.size<=g) (aY:v.ownsRow w.heap.size 99 1 (.slice (some ⟨g,0,none⟩) n n) n (List.replicate n (.slice none 0 0))):i9 C w v E M first hs Ps Ps g n [] []:=by
 have KD:g<v.heap.size:=(aY.lt _ rfl).2;have aoH:¬Ps g:=fun aE=>by have:=(h.ps g aE).1;omega
 refine⟨fun _ h=>h,(h.add D af KD).less (fun b D=>?_),h.kp D,?_,?_,⟨rfl,cE _⟩,fun k e ws ay=>by simp at ay,⟨fun e ay=>by simp at ay,aoH,fun i j e qo hi=>by simp at hi⟩,fun b aE=>(h.ps b aE).1,D.size,h.lo.2.2⟩
 ·rcases D with D | D | ⟨e,ay,-⟩
  ·exact .inl D
  ·exact .inr D
  ·simp at ay
 ·simpa using aY
 ·rcases aY.2 with ⟨d9,_⟩ | ⟨oB,zb,hV,d9,f0,np,mc,sP,jD,sS⟩
  ·simp at d9
  ·simp only[Value.slice.injEq,Option.some.injEq,Addr.mk.injEq,and_true,true_and] at d9;obtain⟨rfl,rfl⟩:=d9;refine⟨hV,_,np,fun u bb=>?_⟩;have bp:hV.toList=List.replicate n (.slice none 0 0):=by
    rw[<-sS];exact(fQ (by rw[Array.length_toList,jD];omega)).symm
   rw[bp] at bb;exact⟨none,0,0,(List.mem_replicate.1 bb).2⟩
end
section
variable {first:Nat} (ah:1<=first) {hs:List Z} (h:bI first hs) {l r q:List Int} {w az w1 width num:Nat} {cu iD HF:List Bool->Nat}
theorem Qi (aw:width<=64) (x:Nat):x%18446744073709551616%2^width=x%2^width:=Nat.mod_mod_of_dvd _ (Nat.pow_dvd_pow (m:=width) (n:=64) 2 aw)
theorem asI (ah:1<=first) (h:bI first hs) (hl:eD first hs l w cu) (ak:eD first hs r w iD):ci first hs (n7 first hs 12 l r) w (fun v0=>aP w (hh 12 w num [(cu v0,w),(iD v0,w)])) :=
 (avY ah h hl ak).to (fun _ _=>(tE w _).symm)
theorem asT (ah:1<=first) (h:bI first hs) (hl:eD first hs l w cu) (ak:eD first hs r w iD):ci first hs (n7 first hs 13 l r) w (fun v0=>aP w (hh 13 w num [(cu v0,w),(iD v0,w)])) :=
 (av8 ah h hl ak).to (fun _ _=>(tE w _).symm)
theorem asY (ah:1<=first) (h:bI first hs) (hl:eD first hs l w cu) (ak:eD first hs r w iD):ci first hs (n7 first hs 14 l r) (3*w) (fun v0=>aP w (hh 14 w num [(cu v0,w),(iD v0,w)])) :=
 (awb ah h hl ak).to (fun _ _=>(tE w _).symm)
theorem asG (ah:1<=first) (h:bI first hs) (aw:w<=64) (hl:eD first hs l w cu) (ak:eD first hs r w iD):ci first hs (n7 first hs 15 l r) (9*w) (fun v0=>aP w (hh 15 w num [(cu v0,w),(iD v0,w)])) :=
 (avW ah h hl ak).to (fun v0 _=>by
  show _=aP w ((cu v0+iD v0)%18446744073709551616%2^w);rw[Qi aw,tE])
theorem asX (ah:1<=first) (h:bI first hs) (aw:w<=64) (hl:eD first hs l w cu) (ak:eD first hs r w iD):ci first hs (n7 first hs 16 l r) (9*w) (fun v0=>aP w (hh 16 w num [(cu v0,w),(iD v0,w)])) :=
 (awa ah h hl ak aw).to (fun v0 _=>by
  show _=aP w ((cu v0+(18446744073709551616 - iD v0))%18446744073709551616%2^w);rw[Qi aw,tE])
theorem asP (ah:1<=first) (h:bI first hs) (aw:w<=64) (hl:eD first hs l w cu) (ak:eD first hs r w iD):ci first hs (n7 first hs 17 l r) (10*w*w) (fun v0=>aP w (hh 17 w num [(cu v0,w),(iD v0,w)])) :=
 (av4 ah h hl ak).to (fun v0 _=>by
  show _=aP w ((cu v0*iD v0)%18446744073709551616%2^w);rw[Qi aw,tE])
theorem agf (up:Bool) (aw:w<=32) (x y:Nat) (J:x<2^w):aP w (uQ up x y)=aP w (uQ up x (min y 64)):=by
 rcases Nat.le_total y 64 with h | h
 ·rw[Nat.min_eq_left h]
 ·rw[Nat.min_eq_right h,UL up w x y J (by omega),UL up w x 64 J (by omega)]
theorem asU (ah:1<=first) (h:bI first hs) (aw:w<=32) (hl:eD first hs l w cu) (ak:eD first hs r w1 iD):ci first hs (n7 first hs 18 l r) (16*w+w1) (fun v0=>aP w (hh 18 w num [(cu v0,w),(iD v0,w1)])):=by
 have e:n7 first hs 18 l r=tC first true l.length hs 0 r l:=rfl;rw[e,hl.len];refine(ahX ah h true hl ak aw).to (fun v0 L=>?_);show _=aP w ((cu v0*2^(min (iD v0) 64))%18446744073709551616%2^w);rw[Qi (by omega),tE,agf true aw _ _ (hl.lt v0 L)]
 rfl
theorem asV (ah:1<=first) (h:bI first hs) (aw:w<=32) (hl:eD first hs l w cu) (ak:eD first hs r w1 iD):ci first hs (n7 first hs 19 l r) (16*w+w1) (fun v0=>aP w (hh 19 w num [(cu v0,w),(iD v0,w1)])):=by
 have e:n7 first hs 19 l r=tC first false l.length hs 0 r l:=rfl;rw[e,hl.len];refine(ahX ah h false hl ak aw).to (fun v0 L=>?_);show _=aP w (cu v0 / 2^(min (iD v0) 64)%2^w);rw[tE,agf false aw _ _ (hl.lt v0 L)]
 rfl
theorem P7 (b:Bool):aP 1 b.toNat=aP 1 (n6 b):=by cases b <;> rfl
theorem asL (ah:1<=first) (h:bI first hs) (hl:eD first hs l w cu) (ak:eD first hs r w iD):ci first hs (n7 first hs 20 l r) (4*w) (fun v0=>aP 1 (hh 20 1 num [(cu v0,w),(iD v0,w)])) :=
 (OY (av0 ah h hl ak)).to (fun v0 _=>by
  show _=aP 1 (n6 (decide (cu v0=iD v0))%2^1);rw[tE,P7])
theorem asO (ah:1<=first) (h:bI first hs) (hl:eD first hs l w cu) (ak:eD first hs r w iD):ci first hs (n7 first hs 21 l r) (4*w) (fun v0=>aP 1 (hh 21 1 num [(cu v0,w),(iD v0,w)])) :=
 (OY (av3 ah h hl ak)).to (fun v0 _=>by
  show _=aP 1 (n6 (decide (cu v0<iD v0))%2^1);rw[tE,P7])
theorem asR (ah:1<=first) (h:bI first hs):ci first hs (hs,yM width num) 0 (fun _=>aP width (hh 1 width num [])):=av6 ah h width num
theorem asW (h:bI first hs) (hl:eD first hs l w cu) (ag:num+width<=w):ci first hs (hs,(l.drop num).take width) 0 (fun v0=>aP width (hh 5 width num [(cu v0,w)])) :=
 (av9 h hl num width ag).to (fun _ _=>(tE width _).symm)
theorem asM (ah:1<=first) (h:bI first hs) (hl:eD first hs l w cu):ci first hs (hs,l.take width++List.replicate (width - l.length) 0) 0 (fun v0=>aP width (hh 6 width num [(cu v0,w)])) :=
 (av1 ah h hl width).to (fun _ _=>(tE width _).symm)
theorem asQ (h:bI first hs) (aw:w<=64) (hl:eD first hs l w cu):ci first hs (hs,l.map bu) 0 (fun v0=>aP w (hh 8 w num [(cu v0,w)])) :=
 (av5 h hl).to (fun v0 L=>by
  have J:=hl.lt v0 L;show _=aP w ((18446744073709551615 ^^^ cu v0)%2^w)
  congr 1
  have fG:2^w<=2^64:=q7 (by decide) aw;apply Nat.eq_of_testBit_eq;intro i;rw[Nat.testBit_mod_two_pow,Nat.testBit_xor];have bp:(18446744073709551615:Nat)=2^64 - 1:=by decide
  rw[bp,Nat.testBit_two_pow_sub_one];have aS:2^w - 1 - cu v0=2^w - (cu v0+1):=by omega
  rw[aS,Nat.testBit_two_pow_sub_succ J];by_cases hi:i<w
  ·have:i<64:=by omega
   simp[hi,this]
  ·simp[hi])
theorem asH (ah:1<=first) (h:bI first hs) (hl:eD first hs l w cu):ci first hs ((Ab first hs l).1,[(Ab first hs l).2]) (w - 1) (fun v0=>aP 1 (hh 9 1 num [(cu v0,w)])) :=
 (OY (avX ah h hl)).to (fun _ _=>P7 _)
theorem asJ (ah:1<=first) (h:bI first hs) (hl:eD first hs l w cu):ci first hs ((mQ first hs l).1,[(mQ first hs l).2]) (w - 1) (fun v0=>aP 1 (hh 10 1 num [(cu v0,w)])) :=
 (OY (avZ ah h hl)).to (fun _ _=>P7 _)
theorem asZ (w n f:Nat) (ag:n<2^w) (azO:w<=f):((aP w n).foldr (fun x y=>x ^^ y) false).toNat=xM f n:=by
 induction w generalizing n f with
 | zero =>
  have:n=0:=by simpa using ag
  subst this;rw[afw];rfl
 | succ w aA =>
  obtain⟨f,rfl⟩:∃g,f=g+1:=⟨f - 1,by omega⟩
  have:=aA (n / 2) f (by rw[Nat.pow_succ] at ag;omega) (by omega)
  simp only[aP,List.foldr_cons,xM];rw[<-this];generalize (aP w (n / 2)).foldr (fun x y=>x ^^ y) false=b;rcases wX n with e | e <;> rw[e] <;> cases b <;> rfl
theorem asS (ah:1<=first) (h:bI first hs) (aw:w<=64) (hl:eD first hs l w cu):ci first hs ((AN first hs l).1,[(AN first hs l).2]) (3*w) (fun v0=>aP 1 (hh 11 1 num [(cu v0,w)])) :=
 (OY (av7 ah h hl)).to (fun v0 L=>by
  show _=aP 1 (xM 64 (cu v0));rw[asZ w _ 64 (hl.lt v0 L) aw])
theorem asN (ah:1<=first) (h:bI first hs) (aJ:eD first hs q 1 HF) (hl:eD first hs l w cu) (ak:eD first hs r w iD):ci first hs (n8 first hs (q.getD 0 0) l r) (3*w) (fun v0=>aP w (hh 22 w num [(HF v0,1),(cu v0,w),(iD v0,w)])):=by
 have Az:=aJ.len;obtain⟨a,ad⟩:∃a,q=[a]:=List.length_eq_one_iff.1 Az;subst ad;refine(av2 ah h (asked:=a) (q:=fun v0=>decide (HF v0≠0)) (aJ.inl a qe) (fun v0 L=>?_) hl ak).to (fun v0 L=>?_)
 ·have e:=aJ.val v0 L;have ao:=aJ.lt v0 L
  have:HF v0=0∨HF v0=1:=by omega
  rcases this with aS | aS <;> rw[aS] at e ⊢ <;> simpa[cp,aP] using e
 ·show _=aP w (if HF v0≠0 then cu v0 else iD v0);by_cases e:HF v0=0 <;> simp[e]
end
structure oo (first:Nat) (hs:List Z) (bv:List (List Int)) (ws:List Nat) (ps:List Bool->List (Nat×Nat)):Prop where
 inl:∀l,l∈bv->bt first hs l
 len:bv.map List.length=ws
 snd:∀v0,iq first v0->(ps v0).map (·.2)=ws
 val:∀v0,iq first v0->bv.map (cp v0 hs)=(ps v0).map (fun p=>aP p.2 p.1)
 lt:∀v0,iq first v0->∀p,p∈ps v0->p.1<2^p.2
theorem oo.num {first:Nat} {hs:List Z} {bv:List (List Int)} {ws:List Nat} {ps:List Bool->List (Nat×Nat)} (h:oo first hs bv ws ps) {k w:Nat} (X:ws[k]?=some w):eD first hs (bv.getD k []) w (fun v0=>g9 (ps v0) k):=by
 have bp:=X;rw[<-h.len,fT] at bp;obtain⟨l,hl,rfl⟩:=Option.map_eq_some_iff.1 bp;have U:bv.getD k []=l:=by rw[iH,hl];rfl
 have DV:∀v0,iq first v0->∃p,(ps v0)[k]?=some p∧p.2=l.length∧cp v0 hs l=aP p.2 p.1∧p.1<2^p.2:=by
  intro v0 L;have aS:=X;rw[<-h.snd v0 L,fT] at aS;obtain⟨p,aE,bM⟩:=Option.map_eq_some_iff.1 aS;have lg:=congrArg (fun z=>z[k]?) (h.val v0 L);simp only[List.getElem?_map,hl,aE,Option.map_some,Option.some.injEq] at lg;exact⟨p,aE,bM,lg,h.lt v0 L p (bn aE)⟩
 rw[U];refine⟨h.inl l (bn hl),rfl,fun v0 L=>?_,fun v0 L=>?_⟩
 ·obtain⟨p,aE,e,aS,-⟩:=DV v0 L;simp only[g9,aE,Option.map_some,Option.getD_some];rw[aS,e]
 ·obtain⟨p,aE,e,-,bM⟩:=DV v0 L;simp only[g9,aE,Option.map_some,Option.getD_some];rw[<-e];exact bM
theorem asK {first:Nat} {hs:List Z} (h:bI first hs) {bv:List (List Int)} {ws:List Nat} {ps:List Bool->List (Nat×Nat)} (ad:oo first hs bv ws ps) (width num:Nat):ci first hs (hs,lX bv) 0 (fun v0=>aP ws.sum (hh 7 width num (ps v0))):=by
 refine(ci.known h (ls:=lX bv) (fun x J=>?_) 0).to (fun v0 L=>?_)
 ·obtain⟨l,hl,zr⟩:=List.mem_flatten.1 J;exact ad.inl l (List.mem_reverse.1 hl) x zr
 ·have e:=alr bv (ps v0) (ad.val v0 L) (ad.lt v0 L) [] 0 0 rfl;rw[List.append_nil,Nat.zero_add,ad.snd v0 L] at e;exact e
end Go.Proofs.YtcbcenfjigcfkaaGreatDoor
