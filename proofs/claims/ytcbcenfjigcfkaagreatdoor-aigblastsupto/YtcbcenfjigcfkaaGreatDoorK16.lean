import Derived.Test.YtcbcenfjigcfkaaGreatDoorK15
set_option maxRecDepth 100000
set_option maxHeartbeats 40000000
namespace Go.Proofs.YtcbcenfjigcfkaaGreatDoor
open Go.RowKit
def kt (first n:Nat):List Int:=(List.range n).map fun(i:Nat)=>2*((first:Int)+(i:Int))
theorem F8 (first n:Nat):(kt first n).length=n:=by unfold kt;simp
theorem bZ.first_ {C:Nat} {w B:World} {E M first:Nat} {Ps:Nat->Prop} (h:bZ C w E M first [] Ps) (oU:Nat) (F:1<=oU) (O:oU<=100000000) {x:Int} (J:x=(oU:Int)) (aw:w.setCell ⟨E,0,none⟩ (.int .i64 x)=B):bZ C B E M oU [] Ps∧f3 C Ps w B:=by
 subst J;obtain⟨u,bb,uF⟩:=h.gt;have D:∀k,k≠E->B.heap[k]?=w.heap[k]?:=fun k X=>by rw[<-aw];exact Below.heap_setCell _ _ _ _ X
 have gY:B.heap.size=w.heap.size:=by rw[<-aw];simp[World.setCell]
 have ar:∀j,j≠0->B.cell? ⟨E,j,none⟩=w.cell? ⟨E,j,none⟩:=fun j aT=>by rw[<-aw];exact oL (h:=fun e=>aT (by injection e with _ aS;exact aS.symm)) ..
 have af:w.grownBy B (some E):=by rw[<-aw];exact⟨rfl,rfl,rfl,by simp[World.setCell],fun k _ X=>Below.heap_setCell _ _ _ _ (fun e=>X (by rw[e]))⟩
 have B7:yn B M oU []:=by
  obtain⟨bo,BQ,a1,a2,a3⟩:=bb.kn;exact⟨bo,BQ,(D M (Ne.symm bb.ne)).trans a1,a2,fun i d U=>by simp at U⟩
 refine⟨⟨⟨u,⟨?_,(ar 1 (by decide)).trans bb.c1,(ar 2 (by decide)).trans bb.c2,bb.ow.kept af (.inr bb.ng),B7,fun j=>?_,by rw[gY];exact bb.ge,by rw[gY];exact bb.lt,by rw[gY];exact bb.lm,bb.ne,bb.ng,bb.nm⟩,uF⟩,?_,⟨h.lo.1,h.lo.2.1,by rw[gY];exact h.lo.2.2⟩,⟨h.len.1,F,O⟩,fun b xu=>⟨by rw[gY];exact(h.ps b xu).1,(h.ps b xu).2⟩⟩,⟨?_,fun b aE=>D b (h.ps b aE).2.1⟩⟩
 ·rw[<-aw];exact on (h:=bb.c0) ..
 ·rw[<-aw];exact(s6 _ _ _ _).trans (bb.fr j)
 ·exact⟨fun i d U=>by simp at U,fun i j d e U=>by simp at U⟩
 ·exact jB af h.lo.2.2 (fun k X=>by cases X;exact h.lo.1)
theorem Xc (C:Nat) (w:World) (E M first:Nat) (Ps:Nat->Prop) (h:bZ C w E M first [] Ps) (ai n:Nat) (i0:w.cell? ⟨ai,0,none⟩=some (.pointer (some ⟨E,0,none⟩))) (ag:n<=64) (VK:first+n<=100000000) :
  Calls Tryz.prog 71 #[.pointer (some ⟨ai,0,none⟩),.int .i64 n] w fun e B=>∃g,e = .returned (.slice (some ⟨g,0,none⟩) n n)∧w.heap.size<=g∧bZ C B E M (first+n) [] (cK Ps g)∧f3 C Ps w B∧cv (cK Ps g) B (.slice (some ⟨g,0,none⟩) n n) (kt first n)∧∀k,k<w.heap.size->k≠E->B.heap[k]?=w.heap[k]?:=by
 have ef:=h.len.2;obtain⟨u,bb,-⟩:=h.gt;have alu:=bb.c0;have aof:=bb.fr 0;have At:=bb.lt;have rz:ai<w.heap.size:=World.block_lt_of_cell? w ⟨ai,0,none⟩ i0
 change Hid _ at h
 clear bb;obtain⟨eE,hi,ao,bA,jJ⟩:=sW;have ke:eE.bytes*n<=281474976710656:=by rw[jJ];omega
 have jc:n<=maxLen:=by simp only[maxLen];omega
 have tok:True:=trivial
 change Hid _ at hi ao bA
 clear jJ;go_enter Tryz.func71,Tryz.ntmps71
 go_upto_region 2 with (have _t:=tok;at_make;(refine wpList_make_full _ rfl (.tmp 7) (.tmp 7) 22 rfl w.heap.size 3 eE _ 1 Tryz.underlying22 hi ao bA .i64 .i64 (n:Int) (n:Int) n rfl rfl rfl rfl ke jc (aL _) ?_;intro w1 gX ij;have ch:=K (mD.made ij gX);clear tok gX ij))
 obtain⟨g,af⟩:=cf (w.heap.size);have B6:w.heap.size<=g:=by omega
 rw[<-af] at ch;rw[<-af];have np:g≠E:=by omega
 clear af;go_wp2_with fail
 go_loopw [11] (fun aq B=>∃(k:Nat),k<=n∧aq = .int .i64 k∧Hid (mD w B g n ((List.range k).map (fun(i:Nat)=>2*((first:Int)+(i:Int)))++List.replicate (n - k) 0))) (fun aq _=>n - (intOf aq).toNat)
 case atStart=>exact⟨0,cE _,rfl,ch⟩
 case round =>
  obtain⟨k,X,rfl,bB⟩:=hrel;have a7:=iP bB.be i0;have axw:=iP bB.be alu;by_cases aB:k<n
  ·have fa:(k:Int)<(n:Int):=by omega
   have bM:=bF ((k:Int)+1);obtain⟨⟨i4,-,hold⟩,h1⟩:=bB.cell aB;have lg:=bF ((first:Int)+(k:Int));have l8:=bF (2*((first:Int)+(k:Int)));have eC:Hid (∀w2 x,wr.setCell ⟨g,k,none⟩ (.int .i64 x)=w2->_):=fun w2 x (aw:wr.setCell ⟨g,k,none⟩ (.int .i64 x)=w2)=>bB.store k x aw
   have E5:=K (Sb (n:=n) (fun(i:Nat)=>2*((first:Int)+(i:Int))) aB);go_wp2_with fail
   generalize av:World.setCell wr _ _=w3;have jn:=K (eC w3 _ av);clear av hold h1;go_wp2;go_roundw
   case measure=>simp[intOf];omega
   exact⟨k+1,by omega,by simp,by have:=jn.out;rw[E5.out] at this;exact this⟩
  ·have cQ:¬((k:Int)<(n:Int)):=by omega
   have hB:k=n:=by omega
   have iX:Hid (mD w wr g n (kt first n)):=by
    have:=bB.out
    rw[hB,Nat.sub_self,List.replicate_zero,List.append_nil] at this;exact this
   clear hB;have Fk:=bF ((first:Int)+(n:Int));have h1:wr.frozen? ⟨E,0,none⟩=false:=(iX.be.frozen (p:=⟨E,0,none⟩) At).trans aof;go_wp2_with fail
   generalize av:World.setCell wr _ _=w3;have re:Hid (∃oB,Ending.returned (Value.slice (some ⟨g,0,none⟩) n n) = .returned (.slice (some ⟨oB,0,none⟩) n n)∧w.heap.size<=oB∧bZ C w3 E M (first+n) [] (cK Ps oB)∧f3 C Ps w w3∧cv (cK Ps oB) w3 (.slice (some ⟨oB,0,none⟩) n n) (kt first n)∧∀k,k<w.heap.size->k≠E->w3.heap[k]?=w.heap[k]?):=by
    have LW:=hA.start (ls:=kt first n) h iX.be B6 iX.ow;obtain⟨bY,k1⟩:=LW.gt.first_ (first+n) (by omega) (by omega) (by omega) av;refine⟨g,rfl,B6,bY,LW.kp.trans (k1.less lK),LW.word.to k1,fun DT ma cb=>?_⟩;rw[<-av];exact(Below.heap_setCell _ _ _ _ cb).trans (iX.be.block DT ma)
   clear av;go_wp2;go_ret
   exact re
def gL:Nat->List Nat->List (List Int)
 | _,[]=>[]
 | f,n::r=>kt f n::gL (f+n) r
theorem Cl (f:Nat) (l r:List Nat):gL f (l++r)=gL f l++gL (f+l.sum) r:=by
 induction l generalizing f with
 | nil=>simp[gL]
 | cons n l aA=>simp only[List.cons_append,gL,aA,List.sum_cons,Nat.add_assoc]
theorem K1 (f:Nat) (l:List Nat):(gL f l).length=l.length:=by
 induction l generalizing f with
 | nil=>rfl
 | cons n l aA=>simp[gL,aA]
structure kR (C:Nat) (az w:World) (E M ai hW first:Nat) (Ps an:Nat->Prop) (u:Value) (ws:List (List Int)) (am:List Value):Prop where
 sub:∀b,Ps b->an b
 gt:bZ C w E M first [] (fun b=>an b∨b=ai∨u.ownBlock=some b)
 kp:f3 C Ps az w
 ow:w.ownsRow az.heap.size 22 1 u am.length am
 el:am.length=ws.length∧∀(i:Nat) (l:List Int),ws[i]?=some l->∃x,am[i]?=some x∧cv an w x l
 ap:∀b,an b->b≠ai∧u.ownBlock≠some b
 fld:w.cell? ⟨ai,hW,none⟩=some u
 oth:∀j,j≠hW->w.cell? ⟨ai,j,none⟩=az.cell? ⟨ai,j,none⟩
 fz:∀j,w.frozen? ⟨ai,j,none⟩=false
 lt:(∀b,Ps b->b<az.heap.size)∧ai<az.heap.size∧az.heap.size<=w.heap.size∧C<=az.heap.size∧C<=ai∧ai≠E
section
variable {C:Nat} {az w v w1 al:World} {E M ai hW first:Nat} {Ps an:Nat->Prop} {u:Value} {ws:List (List Int)} {am:List Value}
theorem kR.sz (h:kR C az w E M ai hW first Ps an u ws am) (o:Obj):az.heap.size<=(w.alloc o).heap.size:=by have:=h.lt.2.2.1;simp;omega
theorem kR.lay (h:kR C az w E M ai hW first Ps an u ws am) (L:V w v) {g n:Nat}
  (aE:v.heap.size<=g∧bZ C w1 E M (first+n) [] (cK (fun b=>an b∨b=ai∨u.ownBlock=some b) g)∧f3 C (fun b=>an b∨b=ai∨u.ownBlock=some b) v w1∧cv (cK (fun b=>an b∨b=ai∨u.ownBlock=some b) g) w1 (.slice (some ⟨g,0,none⟩) n n) (kt first n)∧∀k,k<v.heap.size->k≠E->w1.heap[k]?=v.heap[k]?) :
  kR C az w1 E M ai hW (first+n) Ps (cK an g) u ws am∧cv (cK an g) w1 (.slice (some ⟨g,0,none⟩) n n) (kt first n):=by
 obtain⟨KC,rE,yD,dg,rz⟩:=aE;have qY:=L.size;have VQ:=h.gt;have vy:f3 C (fun b=>an b∨b=ai∨u.ownBlock=some b) w w1:=(VQ.kp L).trans yD;have DN:∀z,u.ownBlock=some z->z<w.heap.size:=fun z ao=>(h.ow.lt z ao).2
 refine⟨⟨fun b D=> .inl (h.sub b D),rE.less (fun b D=>?_),h.kp.trans (vy.less (fun b D=> .inl (h.sub b D))),R6 h.ow (fun b D=>vy.block b (.inr (.inr D))),⟨h.el.1,fun i l hl=>?_⟩,fun b D=>?_,?_,fun j aT=>?_,fun j=>?_,h.lt.1,h.lt.2.1,?_,h.lt.2.2.2⟩,?_⟩
 ·rcases D with (D | rfl) | D
  ·exact .inl (.inl D)
  ·exact .inr rfl
  ·exact .inl (.inr D)
 ·obtain⟨x,J,aw⟩:=h.el.2 i l hl;exact⟨x,J,(aw.keep (fun b D=>vy.block b (.inl D))).more lK⟩
 ·rcases D with D | rfl
  ·exact h.ap b D
  ·refine⟨by have:=h.lt.2.1;have:=h.lt.2.2.1;omega,fun e=>by have:=DN _ e;omega⟩
 ·exact(dA (a:=⟨ai,hW,none⟩) (vy.block ai (.inr (.inl rfl)))).trans h.fld
 ·exact(dA (a:=⟨ai,j,none⟩) (vy.block ai (.inr (.inl rfl)))).trans (h.oth j aT)
 ·exact(World.frozen?_of_block (a:=⟨ai,j,none⟩) (vy.block ai (.inr (.inl rfl)))).trans (h.fz j)
 ·have:=vy.below.size;have:=h.lt.2.2.1;omega
 ·obtain⟨bw,kG,mJ,ay,ar,FW,J⟩:=dg;simp only[Value.slice.injEq,Option.some.injEq,Addr.mk.injEq,and_true] at ay;obtain⟨⟨rfl,rfl⟩,-,-⟩:=ay;exact⟨g,0,n,by rw[F8],by rw[F8];exact aL _,.inr rfl,J⟩
theorem kR.alloc (h:kR C az w E M ai hW first Ps an u ws am) (o:Obj):kR C az (w.alloc o) E M ai hW first Ps an u ws am:=by
 have D:V w (w.alloc o):=(ax _ _).alloc (aL _) _;have X:=h.gt.kp D;have f0:ai<w.heap.size:=bk h.lt.2.1 h.lt.2.2.1;refine⟨h.sub,h.gt.to D,h.kp.trans (X.less (fun b D=> .inl (h.sub b D))),h.ow.alloc o,⟨h.el.1,fun i l hl=>?_⟩,h.ap,?_,fun j aT=>?_,fun j=>?_,h.lt.1,h.lt.2.1,?_,h.lt.2.2.2⟩
 ·obtain⟨x,J,aw⟩:=h.el.2 i l hl;exact⟨x,J,aw.keep (fun b D=>X.block b (.inl D))⟩
 ·exact(D.cell (p:=⟨ai,hW,none⟩) f0).trans h.fld
 ·exact(D.cell (p:=⟨ai,j,none⟩) f0).trans (h.oth j aT)
 ·exact(D.frozen (p:=⟨ai,j,none⟩) f0).trans (h.fz j)
 ·have:=h.lt.2.2.1;simp;omega
theorem kR.push5 (aI:kR C az w E M ai hW first Ps an u ws am) {o:Obj} {g cap:Nat} {x:Value} (aY:al.ownsRow az.heap.size 22 1 (.slice (some ⟨g,0,none⟩) (am.length+1) cap) (am.length+1) (am++[x])) (af:(w.alloc o).grownBy al u.ownBlock) (aO:u.ownBlock=some g∨g=(w.alloc o).heap.size) (aB:g<al.heap.size) :
  al.cell? ⟨ai,hW,none⟩=some u∧(∀j,al.frozen? ⟨ai,j,none⟩=false)∧∀(l:List Int) (aH:World),cv an w x l->al.setCell ⟨ai,hW,none⟩ (.slice (some ⟨g,0,none⟩) (am.length+1) cap)=aH->kR C az aH E M ai hW first Ps an (.slice (some ⟨g,0,none⟩) (am.length+1) cap) (ws++[l]) (am++[x]):=by
 have h:=aI.alloc o;have kB:∀b,an b->(w.alloc o).heap[b]?=w.heap[b]?:=fun b D=>Below.heap_alloc _ _ _ (aI.gt.ps b (.inl D)).1
 generalize DP:w.alloc o=mA at *;have f0:ai<mA.heap.size:=bk h.lt.2.1 h.lt.2.2.1;have N1:u.ownBlock≠some ai:=fun e=>by have:=(h.ow.lt ai e).1;have:=h.lt.2.1;omega
 have FX:∀b,an b->al.heap[b]?=mA.heap[b]?:=fun b D=>af.block b (h.gt.ps b (.inl D)).1 (fun e=>(h.ap b D).2 e.symm)
 have nM:al.heap[ai]?=mA.heap[ai]?:=af.block ai f0 (fun e=>N1 e.symm);have f6:∀j,al.cell? ⟨ai,j,none⟩=mA.cell? ⟨ai,j,none⟩:=fun j=>dA (a:=⟨ai,j,none⟩) nM
 have lh:g≠ai:=by
  rcases aO with e | e
  ·exact fun aS=>N1 (by rw[<-aS];exact e)
  ·omega
 refine⟨(f6 hW).trans h.fld,fun j=>(World.frozen?_of_block (a:=⟨ai,j,none⟩) nM).trans (h.fz j),fun l aH mM aw=>?_⟩;have rC:al.grownBy aH (some ai):=by rw[<-aw];exact⟨rfl,rfl,rfl,by simp[World.setCell],fun k _ X=>Below.heap_setCell _ _ _ _ (fun e=>X (by rw[e]))⟩
 have nN:bZ C al E M first [] (fun b=>an b∨b=ai∨u.ownBlock=some b):=by
  cases bb:u.ownBlock with
  | none =>
   rw[bb] at af
   have:=h.gt.to (tw af)
   rw[bb] at this;exact this
  | some z =>
   have F:=h.gt;rw[bb] at af F;exact F.far af (.inr (.inr rfl))
 obtain⟨u1,iv,WC⟩:=h.gt.gt;obtain⟨u0,rI,AC⟩:=nN.gt;have Nt:u.ownBlock≠some E:=fun aS=>(h.gt.ps E (.inr (.inr aS))).2.1 rfl
 have H9:u0=u1:=by
  have bp:=rI.c1;rw[dA (a:=⟨E,1,none⟩) (af.block E iv.lt (fun aS=>Nt aS.symm)),iv.c1] at bp;exact(Option.some.inj bp).symm
 have FL:bZ C al E M first [] (fun b=>an b∨b=ai∨(Value.slice (some ⟨g,0,none⟩) (am.length+1) cap).ownBlock=some b):=by
  refine⟨⟨u0,rI,fun b D e=>?_⟩,nN.ok,nN.lo,nN.len,fun b D=>?_⟩
  ·rcases D with D | D | D
   ·exact AC b (.inl D) e
   ·exact AC b (.inr (.inl D)) e
   ·cases D;rcases aO with bM | bM
    ·exact AC g (.inr (.inr bM)) e
    ·rw[H9] at e
     have:=(iv.ow.lt g e).2
     omega
  ·rcases D with D | D | D
   ·exact nN.ps b (.inl D)
   ·exact nN.ps b (.inr (.inl D))
   ·cases D;refine⟨aB,?_,?_⟩
    ·show g≠E;rcases aO with bM | bM
     ·exact(nN.ps g (.inr (.inr bM))).2.1
     ·have:=iv.lt;omega
    ·show g≠M;rcases aO with bM | bM
     ·exact(nN.ps g (.inr (.inr bM))).2.2
     ·have:=iv.lm;omega
 have H3:∀b,b≠ai->aH.heap[b]?=al.heap[b]?:=fun b D=>by rw[<-aw];exact Below.heap_setCell _ _ _ _ D
 have sR:∀b,Ps b->aH.heap[b]?=mA.heap[b]?:=fun b D=>(H3 b (h.ap b (h.sub b D)).1).trans (FX b (h.sub b D))
 have apm:al.heap.size<=aH.heap.size:=rC.size;refine⟨h.sub,FL.far rC (.inr (.inl rfl)),⟨h.kp.below.trans ((jB af h.gt.lo.2.2 (fun z ao=>by have:=(h.ow.lt z ao).1;have:=h.lt.2.2.2.1;omega)).trans (jB rC FL.lo.2.2 (fun z ao=>by cases ao;exact h.lt.2.2.2.2.1))),fun b D=>(sR b D).trans (h.kp.block b D)⟩,?_,⟨by simp[h.el.1],fun i pw hC=>?_⟩,fun b D=>⟨(h.ap b D).1,fun e=>?_⟩,?_,fun j aT=>?_,fun j=>?_,h.lt.1,h.lt.2.1,?_,h.lt.2.2.2⟩
 ·have:=aY.kept rC (.inr (fun e=>lh (by cases e;rfl)))
  rw[jw];exact this
 ·have NC:∀b,an b->aH.heap[b]?=mA.heap[b]?:=fun b D=>(H3 b (h.ap b D).1).trans (FX b D)
  by_cases hi:i<ws.length
  ·rw[mS hi] at hC;obtain⟨y,aF,vC⟩:=h.el.2 i pw hC;exact⟨y,by rw[mS (cr.1 aF).1];exact aF,vC.keep NC⟩
  ·rw[lu (by omega)] at hC;have ko:i - ws.length=0:=by
    have:=(cr.1 hC).1
    simp at this;omega
   rw[ko] at hC;cases hC;refine⟨x,by rw[lu (by rw[h.el.1];omega),show i - am.length=0 by rw[h.el.1];exact ko];rfl,?_⟩;exact mM.keep (fun b D=>(NC b D).trans (kB b D))
 ·cases e;rcases aO with bM | bM
  ·exact(h.ap g D).2 bM
  ·have:=(h.gt.ps g (.inl D)).1;omega
 ·rw[<-aw];exact on (h:=(f6 hW).trans h.fld) ..
 ·rw[<-aw];exact((oL (h:=fun e=>aT (by injection e with _ aS;exact aS.symm)) ..).trans (f6 j)).trans (h.oth j aT)
 ·rw[<-aw];exact(s6 _ _ _ _).trans ((World.frozen?_of_block (a:=⟨ai,j,none⟩) nM).trans (h.fz j))
 ·have:=af.size;have:=h.lt.2.2.1;omega
end
theorem aqx (C:Nat) (w:World) (E M ai ab first n c0:Nat) (a0:Option Addr) (Ps:Nat->Prop) (ns:List Nat) (h:kR C w w E M ai 2 first Ps Ps (.slice none 0 0) [] []) (i0:w.cell? ⟨ai,0,none⟩=some (.pointer (some ⟨E,0,none⟩))) (hR:w.cell? ⟨ai,1,none⟩=some (.pointer (some ⟨ab,0,none⟩))) (yF:w.cell? ⟨ab,0,none⟩=some (.slice a0 n c0)) (bP:Hid (n=ns.length)) (bR:Hid (cm C w a0 1 (ns.map fun(m:Nat)=>j4 (m:Int)))) (ag:n<=1048576) (jr:Hid (∀m,m∈ns->m<=32)) (ch:Hid (∀k,first+(ns.take k).sum<=90000000)) :
  Calls Tryz.prog 49 #[.pointer (some ⟨ai,0,none⟩)] w fun e B=>e = .returned (.int .i64 (ns.sum:Nat))∧∃an u am,kR C w B E M ai 2 (first+ns.sum) Ps an u (gL first ns) am:=by
 obtain⟨ev,eB,fb,em,b8⟩:=KU;have lz:=K h;have azE:ns.sum<=90000000:=by have:=ch ns.length;rw[List.take_length] at this;omega
 change Hid _ at eB fb em b8
 clear h;go_enter Tryz.func49,Tryz.ntmps49
 go_wp2_with fail
 go_loopw [3,14] (fun o5 aq B=>∃(k:Nat) (an:Nat->Prop) (u:Value) (am:List Value),k<=n∧aq = .int .i64 k∧o5 = .int .i64 (((ns.take k).sum:Nat):Int)∧Hid (kR C w B E M ai 2 (first+(ns.take k).sum) Ps an u (gL first (ns.take k)) am)) (fun _ aq _=>n - (intOf aq).toNat)
 case atStart=>exact⟨0,Ps,_,[],cE _,rfl,rfl,lz⟩
 case round =>
  obtain⟨k,an,u,am,X,rfl,rfl,l3⟩:=hrel;by_cases aB:k<n
  ·obtain⟨m,ae⟩:=bS (l:=ns) (k:=k) (by have:=bP.out;omega);obtain⟨bG,ck,kr,gK,cx⟩:=bR.el (f:=fun(m:Nat)=>j4 (m:Int)) ae;have c0:w.cell? ⟨bG,ck+k,none⟩=some (.int .i64 (m:Int)):=by have:=cx 0 (.int .i64 (m:Int)) rfl;simpa using this
   have c1:=(l3.kp.below.cell (p:=⟨bG,ck+k,none⟩) gK).trans c0;have cO:=K ae;have aoy:=jr m (bn ae);have VJ:=ch k;have lP:Hid (am.length=k):=by show _=_;rw[l3.el.1,K1,jx];have:=bP.out;omega
   have Nn:=(l3.oth 0 (by decide)).trans i0;have VD:=l3.fld;have oy:Hid (∀v,V wr v->_):=fun v (L:V wr v)=>Xc C v E M (first+(ns.take k).sum) _ (l3.gt.to L) ai m (iP L Nn) (by omega) (by omega)
   have fa:(k:Int)<(n:Int):=by omega
   have bM:=bF ((k:Int)+1);have Rx:(ns.take k).sum<=90000000:=by omega
   generalize vA:(ns.take k).sum=hb at *
   change Hid _ at vA
   have lg:=bF ((hb:Int)+(m:Int));have cn:k+1<=maxLen:=by simp only[maxLen];omega
   have cq:(k+1)*24<=140737488355328:=by omega
   subst kr;clear ae cx c0;go_upto_region 5 with fail
   refine nW ?_;refine ih (S:=(fun _=>True)) (by kernel_rfl) trivial (fun ii=>?_);refine R 0 ?_;refine R 1 ?_;refine R 2 ?_;refine R 3 ?_;refine R 5 ?_;refine R 6 ?_;refine wpAnyH_ready (rs:=[4,7]) (by kernel_rfl) (by simp) ?_;refine j9 (o:=_) rfl (fun aj W=>?_) ?_
   ·(try simp only[bf,bg,bh]);go_simp;refine aQ W trivial fun kU=>?_
    clear W aj;refine rd 7 fun aj W=>?_
    (try simp only[bf,bg,bh]);go_simp;go_at_call 71;refine(oy _ b7).mono ?_;rintro e w1 ⟨g,rfl,oE⟩;have eb:=K (l3.lay b7 oE);have iv:=eb.1.fld;have ob:=eb.1.fz 2;have rJ:=(eb.1.alloc (.cells #[.slice (some ⟨g,0,none⟩) m m] 22)).fld;have cJ:=eb.1.sz (.cells #[.slice (some ⟨g,0,none⟩) m m] 22);clear oE;go_wp2_with fail
    refine aQ W trivial fun kz=>?_
    clear W aj;refine rd 8 fun aj W=>?_
    (try simp only[bf,bg,bh]);go_simp;refine aQ W trivial fun kU=>?_
    clear W aj;refine rd 9 fun aj W=>?_
    refine step_append_lies _ rfl (.tmp 22) (.tmp 26) 99 rfl w.heap.size 22 ev _ 1 24 Tryz.underlying99 eB fb em b8 rfl (by decide) u k _ rfl (lP.out▸eb.1.ow.alloc _) ⟨w1.heap.size,0,none⟩ 1 1 [.slice (some ⟨g,0,none⟩) m m] rfl rfl (i5 (h8 _ _)) (by simp[Value.oneCell']) (by decide) cn cq cJ _ rfl ?_;intro mW cap al bc br aO cj;have fV:=K (eb.1.push5 (cap:=cap) (x:= .slice (some ⟨g,0,none⟩) m m) (by rw[lP.out];exact bc) br aO cj);have f6:=fV.1;have h0:=fV.2.1;refine aQ W trivial fun xp=>?_
    clear W aj;refine R 10 ?_;refine R 11 ?_;refine rd 12 fun aj W=>?_
    (try simp only[bf,bg,bh]);go_simp;refine aQ W trivial fun kU=>?_
    clear W aj;refine gn (by kernel_rfl) ?_ _;refine gN.normal ?_;generalize av:World.setCell al _ _=aH;have kP:=K (fV.2.2 (kt (first+hb) m) aH eb.2 (by rw[lP.out];exact av));clear av f6 h0 iv rJ ob eb fV l3 oy bc br aO cj;have oP:Hid (∃ka g7 kj,kR C w aH E M ai 2 (first+(ns.take (k+1)).sum) Ps ka g7 (gL first (ns.take (k+1))) kj):=by
     have bp:first+(ns.take (k+1)).sum=first+(ns.take k).sum+m:=by rw[gM ns k m cO,List.sum_append];simp;omega
     have aS:gL first (ns.take (k+1))=gL first (ns.take k)++[kt (first+(ns.take k).sum) m]:=by rw[gM ns k m cO,Cl];rfl
     rw[bp,aS,vA.out];exact⟨_,_,_,kP⟩
    clear kP;go_wp2;go_roundw
    case measure=>simp[intOf];omega
    case rel =>
     obtain⟨ka,g7,kj,hl⟩:=oP.out;exact⟨k+1,ka,g7,kj,by omega,by simp,by rw[gM ns k m cO,List.sum_append,vA.out];simp,hl⟩
   refine j9 (o:=_) rfl (fun aj W=>?_) q6;(try simp only[bf,bg,bh]);go_simp;go_at_call 71;refine(oy _ b7).mono ?_;rintro e w1 ⟨g,rfl,oE⟩;have eb:=K (l3.lay b7 oE);have iv:=eb.1.fld;have ob:=eb.1.fz 2;have rJ:=(eb.1.alloc (.cells #[.slice (some ⟨g,0,none⟩) m m] 22)).fld;have cJ:=eb.1.sz (.cells #[.slice (some ⟨g,0,none⟩) m m] 22);clear oE;go_wp2_with fail
   refine aQ W trivial fun kz=>?_
   clear W aj;refine wpAnyH_ready (rs:=[4,8]) (by kernel_rfl) (by simp) ?_;refine j9 (o:=_) rfl (fun aj W=>?_) ?_
   ·(try simp only[bf,bg,bh]);go_simp;refine aQ W trivial fun kU=>?_
    clear W aj;refine rd 8 fun aj W=>?_
    (try simp only[bf,bg,bh]);go_simp;refine aQ W trivial fun kU=>?_
    clear W aj;refine rd 9 fun aj W=>?_
    refine step_append_lies _ rfl (.tmp 22) (.tmp 26) 99 rfl w.heap.size 22 ev _ 1 24 Tryz.underlying99 eB fb em b8 rfl (by decide) u k _ rfl (lP.out▸eb.1.ow.alloc _) ⟨w1.heap.size,0,none⟩ 1 1 [.slice (some ⟨g,0,none⟩) m m] rfl rfl (i5 (h8 _ _)) (by simp[Value.oneCell']) (by decide) cn cq cJ _ rfl ?_;intro mW cap al bc br aO cj;have fV:=K (eb.1.push5 (cap:=cap) (x:= .slice (some ⟨g,0,none⟩) m m) (by rw[lP.out];exact bc) br aO cj);have f6:=fV.1;have h0:=fV.2.1;refine aQ W trivial fun xp=>?_
    clear W aj;refine R 10 ?_;refine R 11 ?_;refine rd 12 fun aj W=>?_
    (try simp only[bf,bg,bh]);go_simp;refine aQ W trivial fun kU=>?_
    clear W aj;refine gn (by kernel_rfl) ?_ _;refine gN.normal ?_;generalize av:World.setCell al _ _=aH;have kP:=K (fV.2.2 (kt (first+hb) m) aH eb.2 (by rw[lP.out];exact av));clear av f6 h0 iv rJ ob eb fV l3 oy bc br aO cj;have oP:Hid (∃ka g7 kj,kR C w aH E M ai 2 (first+(ns.take (k+1)).sum) Ps ka g7 (gL first (ns.take (k+1))) kj):=by
     have bp:first+(ns.take (k+1)).sum=first+(ns.take k).sum+m:=by rw[gM ns k m cO,List.sum_append];simp;omega
     have aS:gL first (ns.take (k+1))=gL first (ns.take k)++[kt (first+(ns.take k).sum) m]:=by rw[gM ns k m cO,Cl];rfl
     rw[bp,aS,vA.out];exact⟨_,_,_,kP⟩
    clear kP;go_wp2;go_roundw
    case measure=>simp[intOf];omega
    case rel =>
     obtain⟨ka,g7,kj,hl⟩:=oP.out;exact⟨k+1,ka,g7,kj,by omega,by simp,by rw[gM ns k m cO,List.sum_append,vA.out];simp,hl⟩
   refine j9 (o:=_) rfl (fun aj W=>?_) q6;(try simp only[bf,bg,bh]);go_simp;refine aQ W trivial fun kU=>?_
   clear W aj;refine rd 4 fun aj W=>?_
   (try simp only[bf,bg,bh]);go_simp;refine aQ W trivial fun kU=>?_
   clear W aj;refine rd 9 fun aj W=>?_
   refine step_append_lies _ rfl (.tmp 22) (.tmp 26) 99 rfl w.heap.size 22 ev _ 1 24 Tryz.underlying99 eB fb em b8 rfl (by decide) u k _ rfl (lP.out▸eb.1.ow.alloc _) ⟨w1.heap.size,0,none⟩ 1 1 [.slice (some ⟨g,0,none⟩) m m] rfl rfl (i5 (h8 _ _)) (by simp[Value.oneCell']) (by decide) cn cq cJ _ rfl ?_;intro mW cap al bc br aO cj;have fV:=K (eb.1.push5 (cap:=cap) (x:= .slice (some ⟨g,0,none⟩) m m) (by rw[lP.out];exact bc) br aO cj);have f6:=fV.1;have h0:=fV.2.1;refine aQ W trivial fun xp=>?_
   clear W aj;refine R 10 ?_;refine R 11 ?_;refine rd 12 fun aj W=>?_
   (try simp only[bf,bg,bh]);go_simp;refine aQ W trivial fun kU=>?_
   clear W aj;refine gn (by kernel_rfl) ?_ _;refine gN.normal ?_;generalize av:World.setCell al _ _=aH;have kP:=K (fV.2.2 (kt (first+hb) m) aH eb.2 (by rw[lP.out];exact av));clear av f6 h0 iv rJ ob eb fV l3 oy bc br aO cj;have oP:Hid (∃ka g7 kj,kR C w aH E M ai 2 (first+(ns.take (k+1)).sum) Ps ka g7 (gL first (ns.take (k+1))) kj):=by
    have bp:first+(ns.take (k+1)).sum=first+(ns.take k).sum+m:=by rw[gM ns k m cO,List.sum_append];simp;omega
    have aS:gL first (ns.take (k+1))=gL first (ns.take k)++[kt (first+(ns.take k).sum) m]:=by rw[gM ns k m cO,Cl];rfl
    rw[bp,aS,vA.out];exact⟨_,_,_,kP⟩
   clear kP;go_wp2;go_roundw
   case measure=>simp[intOf];omega
   case rel =>
    obtain⟨ka,g7,kj,hl⟩:=oP.out;exact⟨k+1,ka,g7,kj,by omega,by simp,by rw[gM ns k m cO,List.sum_append,vA.out];simp,hl⟩
  ·have cQ:¬((k:Int)<(n:Int)):=by omega
   have hB:ns.take k=ns:=fQ (by have:=bP.out;omega);have re:=K l3;rw[hB] at re;rw[hB];clear hB;go_wp2;go_ret
   exact⟨rfl,an,u,am,re⟩
end Go.Proofs.YtcbcenfjigcfkaaGreatDoor
