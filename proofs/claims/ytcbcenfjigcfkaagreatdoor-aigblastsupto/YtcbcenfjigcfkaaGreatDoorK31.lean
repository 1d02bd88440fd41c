import Derived.Test.YtcbcenfjigcfkaaGreatDoorK30
set_option maxRecDepth 100000
set_option maxHeartbeats 40000000
namespace Go.Proofs.YtcbcenfjigcfkaaGreatDoor
open Go.RowKit
variable {bX c6 c7 c8 c9 cA cB cC cD cH cI cM cN cS cT cW cX cY cZ cz d0 d3 d4 d5 d6 d7 d8 dC dD dE dF dG dH dI dJ dK dL dO dP dQ dR dS dT dU dV dW dX dY dZ db dd de df dh di dj dk dl dm dn dr dt du dw dx dy dz e0 e1 e2 e3 e4 e5 e6 e7 eF eH eI eJ eK eL eR eS eT eU eY eZ ea ec ed ei eo ep ex ey f8 f9 fA fB fC fD fJ fK fL fM fN fO fP fS fc fd fe ff fg fh fi fj fk fl fm fo fp fq fs ft fu fv fw fx fy ga gb gc gf gm gu gv gy hE hd hj hk hm hn ho hp hq hr ht hu hv hw ig iy iz:Value} {f first k n:Nat}
def Dh (v:List Bool) (f n:Nat):List Bool:=(v.drop f).take n
def rR (v:List Bool):Nat->List Nat->List Nat
 | _,[]=>[]
 | f,n::r=>vc (Dh v f n)::rR v (f+n) r
def Cm (v:List Bool):Nat->List hf->List (List Nat)
 | _,[]=>[]
 | f,m::r=>rR v f (List.replicate m.words.toNat m.width.toNat)::Cm v (f+m.width.toNat*m.words.toNat) r
theorem XR (v:List Bool) (f:Nat) (ns:List Nat):(rR v f ns).length=ns.length:=by
 induction ns generalizing f with
 | nil=>rfl
 | cons n r aA=>simp[rR,aA]
theorem afb (v:List Bool) (f:Nat) (ms:List hf):(Cm v f ms).length=ms.length:=by
 induction ms generalizing f with
 | nil=>rfl
 | cons n r aA=>simp[Cm,aA]
theorem abP {v0:List Bool} (L:iq first v0) (h:f+n<=first):(Dh v0 f n).length=n:=by
 unfold Dh;rw[jx,q5,L.len];omega
theorem aqD {v0:List Bool} (L:iq first v0) (h:f+n<=first):cp v0 [] (kt f n)=Dh v0 f n:=by
 apply List.ext_getElem?;intro i;unfold cp kt Dh;rw[List.map_map,fT,List.getElem?_take,vh];by_cases hi:i<n
 ·rw[List.getElem?_range hi,if_pos hi];have hl:f+i<v0.length:=by rw[L.len];omega
  rw[ct hl];have bp:((2*((f:Int)+(i:Int))) / 2).toNat=f+i:=by omega
  have aS:¬(2*((f:Int)+(i:Int)))%2=1:=by omega
  have bM:iS v0 []=v0:=rfl;show some (gw (iS v0 []) (2*((f:Int)+(i:Int))))=some v0[f+i];rw[bM];unfold gw;rw[bp,ct hl,decide_eq_false aS];simp
 ·rw[oN (by simp;omega),if_neg hi]
  rfl
theorem aqC (h:f+n<=first):bt first [] (kt f n):=fun l ae=>by
 obtain⟨i,hi,rfl⟩:=i6.1 ae
 have:=om.1 hi
 constructor
 ·omega
 ·simp;omega
theorem ae0 (h:f+n<=first):eD first [] (kt f n) n (fun v0=>vc (Dh v0 f n)) :=
 ⟨aqC h,F8 f n,fun v0 L=>by rw[aqD L h];exact(SF _ n (abP L h)).1,fun v0 L=>(SF _ n (abP L h)).2⟩
theorem aqv (f:Nat) (ns:List Nat) (h:ns[k]?=some n):(gL f ns).getD k []=kt (f+(ns.take k).sum) n∧(∀v,((rR v f ns)[k]?).getD 0=vc (Dh v (f+(ns.take k).sum) n))∧(ns.take k).sum+n<=ns.sum:=by
 induction ns generalizing f k with
 | nil=>simp at h
 | cons m r aA =>
  cases k with
  | zero =>
   have:m=n:=by simpa using h
   subst this;simp[gL,rR]
  | succ k =>
   obtain⟨F,O,aW⟩:=aA (f+m) (k:=k) (by simpa using h);refine⟨?_,fun v=>?_,?_⟩
   ·simp only[gL,List.getD_cons_succ,F,List.take_succ_cons,List.sum_cons,Nat.add_assoc]
   ·simp only[rR,List.getElem?_cons_succ,O v,List.take_succ_cons,List.sum_cons,Nat.add_assoc]
   ·simp only[List.take_succ_cons,List.sum_cons];omega
theorem Xa {ns:List Nat} (ah:f+ns.sum<=first) (h:ns[k]?=some n):eD first [] ((gL f ns).getD k []) n (fun v0=>((rR v0 f ns)[k]?).getD 0):=by
 obtain⟨F,O,aW⟩:=aqv f ns h;rw[F]
 have:=ae0 (first:=first) (f:=f+(ns.take k).sum) (n:=n) (by omega)
 refine⟨this.inl,this.len,fun v0 L=>?_,fun v0 L=>?_⟩
 ·simp only[O];exact this.val v0 L
 ·simp only[O];exact this.lt v0 L
theorem Xb (f:Nat) (ms:List hf) {m:hf} (h:ms[k]?=some m):(px f ms).getD k []=gL (f+ha (ms.take k)) (List.replicate m.words.toNat m.width.toNat)∧(∀v,((Cm v f ms)[k]?).getD []=rR v (f+ha (ms.take k)) (List.replicate m.words.toNat m.width.toNat))∧ha (ms.take k)+m.width.toNat*m.words.toNat<=ha ms:=by
 induction ms generalizing f k with
 | nil=>simp at h
 | cons y r aA =>
  cases k with
  | zero =>
   have:y=m:=by simpa using h
   subst this;refine⟨by simp[px,ha],fun v=>by simp[Cm,ha],?_⟩;rw[F9];simp[ha]
  | succ k =>
   obtain⟨F,O,aW⟩:=aA (f+y.width.toNat*y.words.toNat) (k:=k) (by simpa using h);refine⟨?_,fun v=>?_,?_⟩
   ·simp only[px,List.getD_cons_succ,F,List.take_succ_cons,F9,Nat.add_assoc]
   ·simp only[Cm,List.getElem?_cons_succ,O v,List.take_succ_cons,F9,Nat.add_assoc]
   ·rw[List.take_succ_cons,F9,F9];omega
theorem Yh (n w:Nat):(List.replicate n w).sum=w*n:=by
 induction n with
 | zero=>simp
 | succ n aA=>rw[List.replicate_succ,List.sum_cons,aA,Nat.mul_succ];omega
theorem XN (w:Nat) (n f:Nat) (h:f+w*n<=first):(gL f (List.replicate n w)).length=n∧(∀x,x∈gL f (List.replicate n w)->bt first [] x∧x.length=w)∧∀v0,iq first v0->(gL f (List.replicate n w)).map (cp v0 [])=(rR v0 f (List.replicate n w)).map (aP w)∧∀x,x∈rR v0 f (List.replicate n w)->x<2^w:=by
 induction n generalizing f with
 | zero=>exact⟨rfl,fun x J=>by simp[gL] at J,fun v0 _=>⟨rfl,fun x J=>by simp[rR] at J⟩⟩
 | succ n aA =>
  rw[Nat.mul_succ] at h;obtain⟨F,O,aW⟩:=aA (f+w) (by omega);have ag:=ae0 (first:=first) (f:=f) (n:=w) (by omega);rw[List.replicate_succ];refine⟨by simp[gL,F],fun x J=>?_,fun v0 L=>⟨?_,fun x J=>?_⟩⟩
  ·rcases List.mem_cons.1 J with rfl | J
   ·exact⟨ag.inl,ag.len⟩
   ·exact O x J
  ·simp only[gL,rR,List.map_cons,(aW v0 L).1,ag.val v0 L]
  ·rcases List.mem_cons.1 J with rfl | J
   ·exact ag.lt v0 L
   ·exact(aW v0 L).2 x J
def rQ (N:aR):List Nat:=N.regs.map fun r=>r.width.toNat
def oc (N:aR):List Nat:=N.ins.map Int.toNat
def fZ (N:aR):Nat:=1+hH N.ins+h4 N.regs+ha N.mems
def uH (N:aR):List (List Int):=gL 1 (oc N)
def tA (N:aR):List (List Int):=gL (1+hH N.ins) (rQ N)
def nV (N:aR):List (List (List Int)):=px (1+hH N.ins+h4 N.regs) N.mems
def xi (N:aR) (v:List Bool):List Nat:=rR v 1 (oc N)
def t7 (N:aR) (v:List Bool):List Nat:=rR v (1+hH N.ins) (rQ N)
def ph (N:aR) (v:List Bool):List (List Nat):=Cm v (1+hH N.ins+h4 N.regs) N.mems
theorem Ok {N:aR} (aG:er N=true) {z:hf} (ao:z∈N.mems):(1<=z.width∧z.width<=32)∧1<=z.words∧z.words<=256:=(q1 aG).mem z ao
theorem K0 {N:aR} (aG:er N=true):E9 (fZ N) [] N (uH N) (tA N) (nV N) (xi N) (t7 N) (ph N):=by
 have bp:(oc N).sum=hH N.ins:=rfl;have aS:(rQ N).sum=h4 N.regs:=rfl;refine⟨fun v0 _=>by unfold xi oc;rw[XR,lb],fun k x J=>?_,fun k z ao=>?_,fun k z ao=>?_⟩
 ·exact Xa (by unfold fZ;omega) (by unfold oc;rw[fT,J];rfl)
 ·exact Xa (by unfold fZ;omega) (by unfold rQ;rw[fT,ao];rfl)
 ·obtain⟨F,O,aW⟩:=Xb (1+hH N.ins+h4 N.regs) N.mems ao;obtain⟨⟨m1,m2⟩,nU,IG⟩:=Ok aG (bn ao);have ak:=XN (first:=fZ N) z.width.toNat z.words.toNat (1+hH N.ins+h4 N.regs+ha (N.mems.take k)) (by unfold fZ;omega);unfold nV ph;rw[F];refine⟨by rw[ak.1];omega,by rw[ak.1];omega,fun x J=>(ak.2.1 x J).1,fun v0 L=>?_⟩;rw[O v0];exact(ak.2.2 v0 L).1
theorem DZ {N:aR} (aG:er N=true):xh (fZ N) [] N (nV N) (ph N):=by
 refine⟨Oh _ _,fun v0 _=>afb _ _ _,fun k z ao=>?_⟩;obtain⟨F,O,aW⟩:=Xb (1+hH N.ins+h4 N.regs) N.mems ao;obtain⟨⟨m1,m2⟩,nU,IG⟩:=Ok aG (bn ao);have ak:=XN (first:=fZ N) z.width.toNat z.words.toNat (1+hH N.ins+h4 N.regs+ha (N.mems.take k)) (by unfold fZ;omega);unfold nV ph;rw[F];refine⟨by rw[ak.1];omega,by rw[ak.1];omega,ak.2.1,fun v0 L=>?_⟩;rw[O v0];exact(ak.2.2 v0 L).1
theorem OM {N:aR} (v0:List Bool) (L:iq (fZ N) v0):vq N (t7 N v0) (ph N v0):=by
 have aS:(rQ N).sum=h4 N.regs:=rfl;refine⟨by unfold t7 rQ;rw[XR,lb],fun i x z J ao=>?_,afb _ _ _,fun i l z hl ao=>?_⟩
 ·have ag:=Xa (first:=fZ N) (f:=1+hH N.ins) (ns:=rQ N) (by unfold fZ;omega) (k:=i) (n:=z.width.toNat) (by unfold rQ;rw[fT,ao];rfl)
  have:=ag.lt v0 L
  unfold t7 at J;rw[J] at this;exact this
 ·obtain⟨F,O,aW⟩:=Xb (1+hH N.ins+h4 N.regs) N.mems ao;have ak:=XN (first:=fZ N) z.width.toNat z.words.toNat (1+hH N.ins+h4 N.regs+ha (N.mems.take i)) (by unfold fZ;omega);have e:=O v0;unfold ph at hl;rw[hl] at e;have e:l=_:=e;rw[e];exact⟨by rw[XR,List.length_replicate],(ak.2.2 v0 L).2⟩
theorem asn (I wc:World) (N:aR) (eh:Nat) (a2:Option Addr) (c2:Nat) (eX:I.cell? ⟨eh,2,none⟩=some (.slice a2 N.regs.length c2)) (uE:eh<I.heap.size) (bR:Hid (cm I.heap.size I a2 3 (N.regs.map l4.cells))) (bO:∀z,z∈N.regs->0<=z.init) (aU:N.regs.length<17592186044416) (vj:Hid (V I wc)) (b9:Act->World->Prop) (eV:Exit->Act->World->Prop) 
  (dM:Hid (∀(B:World) {uP Gz Le Lf Lg Lh Li Gm Gn Gp Gq Cv Cw Gr Gs Lj Lk Ll:Value},(B.ownsRow I.heap.size 32 1 uP N.regs.length ((N.regs.map fun r=>r.init.toNat).map ib)∧V I B)->b9 ⟨#[bX,dC,.pointer (some ⟨eh,0,none⟩),e1,fx,uP,ea,Gz,dL,ep,cz,gy,fS,eF,ex,ey,cM,Le,Lf,Lg,Lh,Li,Gm,Gn,Gp,Gq,Cv,Cw,Gr,Gs,Lj,Lk,Ll,dF,dh,dO,dP,dr,dt,di,dj,c8,c9,db,dd,de,df,dG,dH,du,cZ,c6,dw,dx,dQ,dy,dz,dI,dJ,dK,dk,dl,dm,dn,dR,dS,dT,dU,dV,dW,dX,dY,dZ,d0,d3,d4,d5,d6,d7,d8,ei,ed,eR,eS,eT,eU,fy,fA,e3,fM,fC,fD,e4,e5,e6,e7,fN,fO,fP,fB,fc,fd,fe,ff,fg,fh,fi,fj,fk,eY,eZ,e0,fJ,fK,fL,fl,fm,fo,fp,fq,fs,ft,fu,fv,fw,eH,eI,eJ,eK,eL,gm,f8,f9,ga,gb,gc,gf,gu,gv,hE,hj,hk,hm,hn,ho,hp,hq,hr,ht,hu,hv,hw,hd,iy,iz,ig],[]⟩ B)) :
  Code.wp Tryz.prog ((Tryz.f15.body.bind (jh 0)).getD .skip) (Exit.then b9 eV) ⟨#[bX,dC,.pointer (some ⟨eh,0,none⟩),e1,fx,.slice none 0 0,ea,.int .i64 0,dL,ep,cz,gy,fS,eF,ex,ey,cM,cA,cB,cC,cD,cS,cT,cH,cW,cX,cY,cN,cI,eo,c7,dD,dE,dF,dh,dO,dP,dr,dt,di,dj,c8,c9,db,dd,de,df,dG,dH,du,cZ,c6,dw,dx,dQ,dy,dz,dI,dJ,dK,dk,dl,dm,dn,dR,dS,dT,dU,dV,dW,dX,dY,dZ,d0,d3,d4,d5,d6,d7,d8,ei,ed,eR,eS,eT,eU,fy,fA,e3,fM,fC,fD,e4,e5,e6,e7,fN,fO,fP,fB,fc,fd,fe,ff,fg,fh,fi,fj,fk,eY,eZ,e0,fJ,fK,fL,fl,fm,fo,fp,fq,fs,ft,fu,fv,fw,eH,eI,eJ,eK,eL,gm,f8,f9,ga,gb,gc,gf,gu,gv,hE,hj,hk,hm,hn,ho,hp,hq,hr,ht,hu,hv,hw,hd,iy,iz,ig],[]⟩ wc:=by
 conv=>arg 2;whnf
 obtain⟨Ch,xA,xF,xD,xv⟩:=Oc
 change Hid _ at xA xF xD xv
 go_wp2_with fail
 go_loopw [5,7] (fun v aq B=>∃(k:Nat),k<=N.regs.length∧aq = .int .i64 k∧Hid (B.ownsRow I.heap.size 32 1 v k (((N.regs.take k).map fun r=>r.init.toNat).map ib))∧Hid (V I B)) (fun _ aq _=>N.regs.length - (intOf aq).toNat)
 case atStart=>exact⟨0,cE _,rfl,k8 _ _ _ _,vj⟩
 case round =>
  obtain⟨k,X,rfl,a6,au⟩:=hrel;have K8:=(au.cell (p:=⟨eh,2,none⟩) uE).trans eX;by_cases aB:k<N.regs.length
  ·obtain⟨z,ao⟩:∃z,N.regs[k]?=some z:=⟨N.regs[k],ct aB⟩
   obtain⟨bG,ck,bQ,gK,cx⟩:=bR.el ao;have c1:=(au.cell (p:=⟨bG,ck+k*3+1,none⟩) gK).trans (cx 1 _ rfl);have apK:=bO z (bn ao);have bp:z.init=((z.init.toNat:Nat):Int):=by omega
   rw[bQ] at K8;rw[bp] at c1;have bW:Hid (((N.regs.take (k+1)).map fun r=>r.init.toNat).map ib=((N.regs.take k).map fun r=>r.init.toNat).map ib++[.int .u64 ((z.init.toNat:Nat):Int)]):=by
    show _=_;rw[gM _ k z ao,g1,g1];rfl
   generalize z.init.toNat=x at *;have fa:(k:Int)<(N.regs.length:Int):=by omega
   have bM:=bF ((k:Int)+1);have cn:k+1<=maxLen:=by simp only[maxLen];omega
   have cq:(k+1)*8<=140737488355328:=by omega
   have gY:=au.size;have cJ:I.heap.size<=(wr.alloc (.cells #[.int .u64 (x:Int)] 32)).heap.size:=by simp;omega
   clear cx bQ ao bp apK;have tok:True:=trivial;go_wp2_with (have _t:=tok;at_builtin;(refine wpList_append_lies _ rfl (.tmp 24) (.tmp 31) 33 rfl I.heap.size 32 Ch _ 1 8 Tryz.underlying33 xA xF xD xv rfl (by decide) u5 k _ rfl (a6.alloc _) ⟨wr.heap.size,0,none⟩ 1 1 [.int .u64 (x:Int)] rfl rfl (i5 (h8 _ _)) (by simp[Value.oneCell']) (by decide) cn cq cJ _ rfl ?_;intro g cap al bc br kX cj;clear tok))
   have i8:Hid (al.ownsRow I.heap.size 32 1 (.slice (some ⟨g,0,none⟩) (k+1) cap) (k+1) (((N.regs.take (k+1)).map fun r=>r.init.toNat).map ib)):=by
    show World.ownsRow _ _ _ _ _ _ _;rw[bW.out];exact bc
   have cV:Hid (V I al):=us au a6 br;clear bc br kX cj cn cq cJ a6 au bW;go_wp2;go_roundw
   case measure=>simp[intOf];omega
   exact⟨k+1,by omega,by simp,i8.out,cV⟩
  ·have cQ:¬((k:Int)<(N.regs.length:Int)):=by omega
   have hM:Hid (wr.ownsRow I.heap.size 32 1 u5 N.regs.length ((N.regs.map fun r=>r.init.toNat).map ib)):=by
    have:=a6.out
    rw[fQ (by omega),show k=N.regs.length by omega] at this;exact this
   clear a6;go_wp2;exact dM _ ⟨hM,au⟩
theorem aso (wc:World) (N:aR) (eh:Nat) (a5:Option Addr) (c5:Nat) (g5:wc.cell? ⟨eh,5,none⟩=some (.slice a5 N.outs.length c5)) (uE:eh<wc.heap.size) (JP:Hid (cm wc.heap.size wc a5 1 (N.outs.map j4))) (am:List Nat) (gs iW gJ:Nat) (o1:gs<wc.heap.size) (jq:Hid (∀(i x:Nat),am[i]?=some x->wc.cell? ⟨gs,iW+i,none⟩=some (.int .u64 (x:Int)))) (bO:∀a,a∈N.outs->0<=a∧a<(am.length:Int)) (aU:N.outs.length<17592186044416) (b9:Act->World->Prop) (eV:Exit->Act->World->Prop) 
  (dM:Hid (∀(B:World) {xP Ed vM vN vO vP vQ vR vS vT vU vV vW vX vY vZ v1 v2 yR Bk:Value},(B.ownsRow wc.heap.size 32 1 xP N.outs.length ((N.outs.map (gR am)).map ib)∧V wc B)->b9 ⟨#[bX,dC,.pointer (some ⟨eh,0,none⟩),e1,fx,e2,ea,ec,dL,ep,cz,.slice (some ⟨gs,iW,none⟩) am.length gJ,xP,Ed,ex,ey,cM,cA,cB,cC,cD,cS,cT,cH,cW,cX,cY,cN,cI,eo,c7,dD,dE,dF,dh,dO,dP,dr,dt,di,dj,c8,c9,db,dd,de,df,dG,dH,du,cZ,c6,dw,dx,dQ,dy,dz,dI,dJ,dK,dk,dl,dm,dn,vM,vN,vO,vP,vQ,vR,vS,vT,vU,vV,vW,vX,vY,vZ,v1,v2,yR,Bk,eR,eS,eT,eU,fy,fA,e3,fM,fC,fD,e4,e5,e6,e7,fN,fO,fP,fB,fc,fd,fe,ff,fg,fh,fi,fj,fk,eY,eZ,e0,fJ,fK,fL,fl,fm,fo,fp,fq,fs,ft,fu,fv,fw,eH,eI,eJ,eK,eL,gm,f8,f9,ga,gb,gc,gf,gu,gv,hE,hj,hk,hm,hn,ho,hp,hq,hr,ht,hu,hv,hw,hd,iy,iz,ig],[]⟩ B)) :
  Code.wp Tryz.prog ((Tryz.f15.body.bind (jh 6)).getD .skip) (Exit.then b9 eV) ⟨#[bX,dC,.pointer (some ⟨eh,0,none⟩),e1,fx,e2,ea,ec,dL,ep,cz,.slice (some ⟨gs,iW,none⟩) am.length gJ,.slice none 0 0,.int .i64 0,ex,ey,cM,cA,cB,cC,cD,cS,cT,cH,cW,cX,cY,cN,cI,eo,c7,dD,dE,dF,dh,dO,dP,dr,dt,di,dj,c8,c9,db,dd,de,df,dG,dH,du,cZ,c6,dw,dx,dQ,dy,dz,dI,dJ,dK,dk,dl,dm,dn,dR,dS,dT,dU,dV,dW,dX,dY,dZ,d0,d3,d4,d5,d6,d7,d8,ei,ed,eR,eS,eT,eU,fy,fA,e3,fM,fC,fD,e4,e5,e6,e7,fN,fO,fP,fB,fc,fd,fe,ff,fg,fh,fi,fj,fk,eY,eZ,e0,fJ,fK,fL,fl,fm,fo,fp,fq,fs,ft,fu,fv,fw,eH,eI,eJ,eK,eL,gm,f8,f9,ga,gb,gc,gf,gu,gv,hE,hj,hk,hm,hn,ho,hp,hq,hr,ht,hu,hv,hw,hd,iy,iz,ig],[]⟩ wc:=by
 conv=>arg 2;whnf
 obtain⟨Ch,xA,xF,xD,xv⟩:=Oc
 change Hid _ at xA xF xD xv
 go_wp2_with fail
 go_loopw [12,13] (fun v aq B=>∃(k:Nat),k<=N.outs.length∧aq = .int .i64 k∧Hid (B.ownsRow wc.heap.size 32 1 v k (((N.outs.take k).map (gR am)).map ib))∧Hid (V wc B)) (fun _ aq _=>N.outs.length - (intOf aq).toNat)
 case atStart=>exact⟨0,cE _,rfl,k8 _ _ _ _,ax _ _⟩
 case round =>
  obtain⟨k,X,rfl,a6,au⟩:=hrel;have atP:=(au.cell (p:=⟨eh,5,none⟩) uE).trans g5;by_cases aB:k<N.outs.length
  ·obtain⟨uK,o3,bQ,qt,nP⟩:=JP.int aB;have xo:=(au.cell (p:=⟨uK,o3+k,none⟩) qt).trans (nP k aB);have ak:=bO _ (bn (vr aB));obtain⟨y,aF⟩:∃y,am[(bi N.outs k).toNat]?=some y:=⟨am[(bi N.outs k).toNat]'(by omega),ct (by omega)⟩
   have ace:=(au.cell (p:=⟨gs,iW+(bi N.outs k).toNat,none⟩) o1).trans (jq _ y aF);have yu:gR am (bi N.outs k)=y:=by unfold gR;rw[aF];rfl
   have bW:Hid (((N.outs.take (k+1)).map (gR am)).map ib=((N.outs.take k).map (gR am)).map ib++[.int .u64 (y:Int)]):=by
    show _=_;rw[gM _ k _ (vr aB),g1,g1];simp[ib,yu]
   rw[bQ] at atP;generalize bi N.outs k=a at *;obtain⟨qp,ux⟩:=ak;have fa:(k:Int)<(N.outs.length:Int):=by omega
   have bM:=bF ((k:Int)+1);have cn:k+1<=maxLen:=by simp only[maxLen];omega
   have cq:(k+1)*8<=140737488355328:=by omega
   have gY:=au.size;have cJ:wc.heap.size<=(wr.alloc (.cells #[.int .u64 (y:Int)] 32)).heap.size:=by simp;omega
   clear nP bQ aF yu;have tok:True:=trivial;go_wp2_with (have _t:=tok;at_builtin;(refine wpList_append_lies _ rfl (.tmp 71) (.tmp 80) 33 rfl wc.heap.size 32 Ch _ 1 8 Tryz.underlying33 xA xF xD xv rfl (by decide) u12 k _ rfl (a6.alloc _) ⟨wr.heap.size,0,none⟩ 1 1 [.int .u64 (y:Int)] rfl rfl (i5 (h8 _ _)) (by simp[Value.oneCell']) (by decide) cn cq cJ _ rfl ?_;intro g cap al bc br kX cj;clear tok))
   have i8:Hid (al.ownsRow wc.heap.size 32 1 (.slice (some ⟨g,0,none⟩) (k+1) cap) (k+1) (((N.outs.take (k+1)).map (gR am)).map ib)):=by
    show World.ownsRow _ _ _ _ _ _ _;rw[bW.out];exact bc
   have cV:Hid (V wc al):=us au a6 br;clear bc br kX cj cn cq cJ a6 au bW;go_wp2;go_roundw
   case measure=>simp[intOf];omega
   exact⟨k+1,by omega,by simp,i8.out,cV⟩
  ·have cQ:¬((k:Int)<(N.outs.length:Int)):=by omega
   have hM:Hid (wr.ownsRow wc.heap.size 32 1 u12 N.outs.length ((N.outs.map (gR am)).map ib)):=by
    have:=a6.out
    rw[fQ (by omega),show k=N.outs.length by omega] at this;exact this
   clear a6;go_wp2;exact dM _ ⟨hM,au⟩
theorem asp (wc:World) (N:aR) (eh:Nat) (a5:Option Addr) (oA:Nat) (D5:wc.cell? ⟨eh,5,none⟩=some (.slice a5 N.outs.length oA)) (aI:N.outs.length=0) (b9:Act->World->Prop) (eV:Exit->Act->World->Prop) 
  (dM:Hid (∀(B:World) {xP Ed vM vN vO vP vQ vR vS vT vU vV vW vX vY vZ v1 v2 yR Bk:Value},(xP = .slice none 0 0∧B=wc)->b9 ⟨#[bX,dC,.pointer (some ⟨eh,0,none⟩),e1,fx,e2,ea,ec,dL,ep,cz,gy,xP,Ed,ex,ey,cM,cA,cB,cC,cD,cS,cT,cH,cW,cX,cY,cN,cI,eo,c7,dD,dE,dF,dh,dO,dP,dr,dt,di,dj,c8,c9,db,dd,de,df,dG,dH,du,cZ,c6,dw,dx,dQ,dy,dz,dI,dJ,dK,dk,dl,dm,dn,vM,vN,vO,vP,vQ,vR,vS,vT,vU,vV,vW,vX,vY,vZ,v1,v2,yR,Bk,eR,eS,eT,eU,fy,fA,e3,fM,fC,fD,e4,e5,e6,e7,fN,fO,fP,fB,fc,fd,fe,ff,fg,fh,fi,fj,fk,eY,eZ,e0,fJ,fK,fL,fl,fm,fo,fp,fq,fs,ft,fu,fv,fw,eH,eI,eJ,eK,eL,gm,f8,f9,ga,gb,gc,gf,gu,gv,hE,hj,hk,hm,hn,ho,hp,hq,hr,ht,hu,hv,hw,hd,iy,iz,ig],[]⟩ B)) :
  Code.wp Tryz.prog ((Tryz.f15.body.bind (jh 6)).getD .skip) (Exit.then b9 eV) ⟨#[bX,dC,.pointer (some ⟨eh,0,none⟩),e1,fx,e2,ea,ec,dL,ep,cz,gy,.slice none 0 0,.int .i64 0,ex,ey,cM,cA,cB,cC,cD,cS,cT,cH,cW,cX,cY,cN,cI,eo,c7,dD,dE,dF,dh,dO,dP,dr,dt,di,dj,c8,c9,db,dd,de,df,dG,dH,du,cZ,c6,dw,dx,dQ,dy,dz,dI,dJ,dK,dk,dl,dm,dn,dR,dS,dT,dU,dV,dW,dX,dY,dZ,d0,d3,d4,d5,d6,d7,d8,ei,ed,eR,eS,eT,eU,fy,fA,e3,fM,fC,fD,e4,e5,e6,e7,fN,fO,fP,fB,fc,fd,fe,ff,fg,fh,fi,fj,fk,eY,eZ,e0,fJ,fK,fL,fl,fm,fo,fp,fq,fs,ft,fu,fv,fw,eH,eI,eJ,eK,eL,gm,f8,f9,ga,gb,gc,gf,gu,gv,hE,hj,hk,hm,hn,ho,hp,hq,hr,ht,hu,hv,hw,hd,iy,iz,ig],[]⟩ wc:=by
 conv=>arg 2;whnf
 have cQ:¬((0:Int)<(N.outs.length:Int)):=by omega
 change Hid _ at D5
 clear aI;go_wp2_with fail
 go_loopw [12,13] (fun v aq B=>v = .slice none 0 0∧aq = .int .i64 0∧Hid (B=wc)) (fun _ _ _=>0)
 case atStart=>exact⟨rfl,rfl,rfl⟩
 case round =>
  obtain⟨rfl,rfl,jr⟩:=hrel;have K9:wr.cell? ⟨eh,5,none⟩=some (.slice a5 N.outs.length oA):=by rw[jr.out];exact D5
  go_wp2;exact dM _ ⟨rfl,jr⟩
theorem asl (wc:World) (N:aR) (eh:Nat) (a2:Option Addr) (oA:Nat) (D5:wc.cell? ⟨eh,2,none⟩=some (.slice a2 N.regs.length oA)) (aI:N.regs.length=0) (b9:Act->World->Prop) (eV:Exit->Act->World->Prop) 
  (dM:Hid (∀(B:World) {yQ Bl Bm Eu Ev Jd Ew Ex Ey Ez EA EB EC Bn Bo AQ AR AU AV AW:Value},(B=wc)->b9 ⟨#[bX,dC,.pointer (some ⟨eh,0,none⟩),e1,fx,e2,ea,ec,dL,ep,cz,gy,fS,eF,yQ,ey,cM,cA,cB,cC,cD,cS,cT,cH,cW,cX,cY,cN,cI,eo,c7,dD,dE,dF,dh,dO,dP,dr,dt,di,dj,c8,c9,db,dd,de,df,dG,dH,du,cZ,c6,dw,dx,dQ,dy,dz,dI,dJ,dK,dk,dl,dm,dn,dR,dS,dT,dU,dV,dW,dX,dY,dZ,d0,d3,d4,d5,d6,d7,d8,ei,ed,eR,eS,eT,eU,Bl,Bm,Eu,Ev,Jd,Ew,Ex,Ey,Ez,EA,EB,EC,Bn,Bo,AQ,AR,AU,AV,AW,fh,fi,fj,fk,eY,eZ,e0,fJ,fK,fL,fl,fm,fo,fp,fq,fs,ft,fu,fv,fw,eH,eI,eJ,eK,eL,gm,f8,f9,ga,gb,gc,gf,gu,gv,hE,hj,hk,hm,hn,ho,hp,hq,hr,ht,hu,hv,hw,hd,iy,iz,ig],[]⟩ B)) :
  Code.wp Tryz.prog ((Tryz.f15.body.bind (jh 8)).getD .skip) (Exit.then b9 eV) ⟨#[bX,dC,.pointer (some ⟨eh,0,none⟩),e1,fx,e2,ea,ec,dL,ep,cz,gy,fS,eF,.int .i64 0,ey,cM,cA,cB,cC,cD,cS,cT,cH,cW,cX,cY,cN,cI,eo,c7,dD,dE,dF,dh,dO,dP,dr,dt,di,dj,c8,c9,db,dd,de,df,dG,dH,du,cZ,c6,dw,dx,dQ,dy,dz,dI,dJ,dK,dk,dl,dm,dn,dR,dS,dT,dU,dV,dW,dX,dY,dZ,d0,d3,d4,d5,d6,d7,d8,ei,ed,eR,eS,eT,eU,fy,fA,e3,fM,fC,fD,e4,e5,e6,e7,fN,fO,fP,fB,fc,fd,fe,ff,fg,fh,fi,fj,fk,eY,eZ,e0,fJ,fK,fL,fl,fm,fo,fp,fq,fs,ft,fu,fv,fw,eH,eI,eJ,eK,eL,gm,f8,f9,ga,gb,gc,gf,gu,gv,hE,hj,hk,hm,hn,ho,hp,hq,hr,ht,hu,hv,hw,hd,iy,iz,ig],[]⟩ wc:=by
 conv=>arg 2;whnf
 have cQ:¬((0:Int)<(N.regs.length:Int)):=by omega
 change Hid _ at D5
 clear aI;go_wp2_with fail
 go_loopw [14] (fun aq B=>aq = .int .i64 0∧Hid (B=wc)) (fun _ _=>0)
 case atStart=>exact⟨rfl,rfl⟩
 case round =>
  obtain⟨rfl,jr⟩:=hrel;have K9:wr.cell? ⟨eh,2,none⟩=some (.slice a2 N.regs.length oA):=by rw[jr.out];exact D5
  go_wp2;exact dM _ jr
theorem ass (wc:World) (N:aR) (eh:Nat) (a4:Option Addr) (oA:Nat) (D5:wc.cell? ⟨eh,4,none⟩=some (.slice a4 N.wrs.length oA)) (aI:N.wrs.length=0) (b9:Act->World->Prop) (eV:Exit->Act->World->Prop) 
  (dM:Hid (∀(B:World) {Bh Bi AX AY AZ A0 D8 D9 Ea Eb Ec A1 A2 A3 A4 A5 A6 A7 A8 A9 Ba Bb Bc Bd Be Bf Bg Ee IX IY IZ I0 I1 I2 I3 I4 Ef Eg Eh Ei Ej Ek El Em Eo Ep Er Es Et I5 I6 I7:Value},(B=wc)->b9 ⟨#[bX,dC,.pointer (some ⟨eh,0,none⟩),e1,fx,e2,ea,ec,dL,ep,cz,gy,fS,eF,ex,Bh,Bi,cA,cB,cC,cD,cS,cT,cH,cW,cX,cY,cN,cI,eo,c7,dD,dE,dF,dh,dO,dP,dr,dt,di,dj,c8,c9,db,dd,de,df,dG,dH,du,cZ,c6,dw,dx,dQ,dy,dz,dI,dJ,dK,dk,dl,dm,dn,dR,dS,dT,dU,dV,dW,dX,dY,dZ,d0,d3,d4,d5,d6,d7,d8,ei,ed,eR,eS,eT,eU,fy,fA,e3,fM,fC,fD,e4,e5,e6,e7,fN,fO,fP,fB,fc,fd,fe,ff,fg,AX,AY,AZ,A0,D8,D9,Ea,Eb,Ec,A1,A2,A3,A4,A5,A6,A7,A8,A9,Ba,Bb,Bc,Bd,Be,Bf,Bg,Ee,IX,IY,IZ,I0,I1,I2,I3,I4,Ef,Eg,Eh,Ei,Ej,Ek,El,Em,Eo,Ep,Er,Es,Et,I5,I6,I7,ig],[]⟩ B)) :
  Code.wp Tryz.prog ((Tryz.f15.body.bind (jh 10)).getD .skip) (Exit.then b9 eV) ⟨#[bX,dC,.pointer (some ⟨eh,0,none⟩),e1,fx,e2,ea,ec,dL,ep,cz,gy,fS,eF,ex,.int .i64 0,cM,cA,cB,cC,cD,cS,cT,cH,cW,cX,cY,cN,cI,eo,c7,dD,dE,dF,dh,dO,dP,dr,dt,di,dj,c8,c9,db,dd,de,df,dG,dH,du,cZ,c6,dw,dx,dQ,dy,dz,dI,dJ,dK,dk,dl,dm,dn,dR,dS,dT,dU,dV,dW,dX,dY,dZ,d0,d3,d4,d5,d6,d7,d8,ei,ed,eR,eS,eT,eU,fy,fA,e3,fM,fC,fD,e4,e5,e6,e7,fN,fO,fP,fB,fc,fd,fe,ff,fg,fh,fi,fj,fk,eY,eZ,e0,fJ,fK,fL,fl,fm,fo,fp,fq,fs,ft,fu,fv,fw,eH,eI,eJ,eK,eL,gm,f8,f9,ga,gb,gc,gf,gu,gv,hE,hj,hk,hm,hn,ho,hp,hq,hr,ht,hu,hv,hw,hd,iy,iz,ig],[]⟩ wc:=by
 conv=>arg 2;whnf
 have cQ:¬((0:Int)<(N.wrs.length:Int)):=by omega
 change Hid _ at D5
 clear aI;go_wp2_with fail
 go_loopw [15] (fun aq B=>aq = .int .i64 0∧Hid (B=wc)) (fun _ _=>0)
 case atStart=>exact⟨rfl,rfl⟩
 case round =>
  obtain⟨rfl,jr⟩:=hrel;have K9:wr.cell? ⟨eh,4,none⟩=some (.slice a4 N.wrs.length oA):=by rw[jr.out];exact D5
  go_wp2;exact dM _ jr
theorem asq (wc:World) (N:aR) (eh:Nat) (a5:Option Addr) (c5:Nat) (g5:wc.cell? ⟨eh,5,none⟩=some (.slice a5 N.outs.length c5)) (uE:eh<wc.heap.size) (JP:Hid (cm wc.heap.size wc a5 1 (N.outs.map j4))) (am:List Nat) (fX:Option Addr) (gJ:Nat) (Dv:cm wc.heap.size wc fX 1 (am.map k6)) (bO:∀a,a∈N.outs->0<=a∧a<(am.length:Int)) (aU:N.outs.length<17592186044416) (b9:Act->World->Prop) (eV:Exit->Act->World->Prop) 
  (dM:Hid (∀(B:World) {xP Ed vM vN vO vP vQ vR vS vT vU vV vW vX vY vZ v1 v2 yR Bk:Value},(B.ownsRow wc.heap.size 32 1 xP N.outs.length ((uM N am).map ib)∧V wc B)->b9 ⟨#[bX,dC,.pointer (some ⟨eh,0,none⟩),e1,fx,e2,ea,ec,dL,ep,cz,.slice fX am.length gJ,xP,Ed,ex,ey,cM,cA,cB,cC,cD,cS,cT,cH,cW,cX,cY,cN,cI,eo,c7,dD,dE,dF,dh,dO,dP,dr,dt,di,dj,c8,c9,db,dd,de,df,dG,dH,du,cZ,c6,dw,dx,dQ,dy,dz,dI,dJ,dK,dk,dl,dm,dn,vM,vN,vO,vP,vQ,vR,vS,vT,vU,vV,vW,vX,vY,vZ,v1,v2,yR,Bk,eR,eS,eT,eU,fy,fA,e3,fM,fC,fD,e4,e5,e6,e7,fN,fO,fP,fB,fc,fd,fe,ff,fg,fh,fi,fj,fk,eY,eZ,e0,fJ,fK,fL,fl,fm,fo,fp,fq,fs,ft,fu,fv,fw,eH,eI,eJ,eK,eL,gm,f8,f9,ga,gb,gc,gf,gu,gv,hE,hj,hk,hm,hn,ho,hp,hq,hr,ht,hu,hv,hw,hd,iy,iz,ig],[]⟩ B)) :
  Code.wp Tryz.prog ((Tryz.f15.body.bind (jh 6)).getD .skip) (Exit.then b9 eV) ⟨#[bX,dC,.pointer (some ⟨eh,0,none⟩),e1,fx,e2,ea,ec,dL,ep,cz,.slice fX am.length gJ,.slice none 0 0,.int .i64 0,ex,ey,cM,cA,cB,cC,cD,cS,cT,cH,cW,cX,cY,cN,cI,eo,c7,dD,dE,dF,dh,dO,dP,dr,dt,di,dj,c8,c9,db,dd,de,df,dG,dH,du,cZ,c6,dw,dx,dQ,dy,dz,dI,dJ,dK,dk,dl,dm,dn,dR,dS,dT,dU,dV,dW,dX,dY,dZ,d0,d3,d4,d5,d6,d7,d8,ei,ed,eR,eS,eT,eU,fy,fA,e3,fM,fC,fD,e4,e5,e6,e7,fN,fO,fP,fB,fc,fd,fe,ff,fg,fh,fi,fj,fk,eY,eZ,e0,fJ,fK,fL,fl,fm,fo,fp,fq,fs,ft,fu,fv,fw,eH,eI,eJ,eK,eL,gm,f8,f9,ga,gb,gc,gf,gu,gv,hE,hj,hk,hm,hn,ho,hp,hq,hr,ht,hu,hv,hw,hd,iy,iz,ig],[]⟩ wc:=by
 by_cases aI:N.outs.length=0
 ·refine asp wc N eh a5 c5 g5 aI b9 eV ?_;intro B xP Ed vM vN vO vP vQ vR vS vT vU vV vW vX vY vZ v1 v2 yR Bk hcut;obtain⟨bp,aS⟩:=hcut;subst bp;subst aS;have e:N.outs=[]:=yc aI;refine dM _ ⟨?_,ax _ _⟩;unfold uM;rw[e];exact k8 _ _ _ _
 ·obtain⟨b0,i0⟩:∃a,N.outs[0]?=some a:=⟨N.outs[0]'(by omega),ct (by omega)⟩
  have ak:=bO b0 (bn i0);obtain⟨gs,iW,bQ,o1,ar⟩:=Dv (by intro e;have:=List.map_eq_nil_iff.1 e;rw[this] at ak;simp at ak;omega);subst bQ;refine aso wc N eh a5 c5 g5 uE JP am gs iW gJ o1 (fun i x J=>?_) bO aU b9 eV ?_
  ·have:=ar i (k6 x) (by rw[fT,J];rfl) 0 _ rfl
   simpa using this
  ·exact dM
theorem asm (wc:World) (N:aR) (C eh:Nat) (zd:C<=wc.heap.size) (a2:Option Addr) (c2:Nat) (eX:wc.cell? ⟨eh,2,none⟩=some (.slice a2 N.regs.length c2)) (uE:eh<C) (bR:Hid (cm C wc a2 3 (N.regs.map l4.cells))) (r:Value) (regs:List Nat) (md:regs.length=N.regs.length) (w9:Hid (wc.ownsRow C 32 1 r N.regs.length (regs.map ib))) (am:List Nat) (fX:Option Addr) (gJ:Nat) (Dv:cm wc.heap.size wc fX 1 (am.map k6)) (Wt:∀b o,fX=some ⟨b,o,none⟩->r.ownBlock≠some b) (bO:∀z,z∈N.regs->0<=z.next∧z.next<(am.length:Int)) (aU:N.regs.length<17592186044416) (b9:Act->World->Prop) (eV:Exit->Act->World->Prop) 
  (dM:Hid (∀(B:World) {yQ Bl Bm Eu Ev Jd Ew Ex Ey Ez EA EB EC Bn Bo AQ AR AU AV AW:Value},(B.ownsRow C 32 1 r N.regs.length ((AH N am).map ib)∧wc.grownBy B r.ownBlock)->b9 ⟨#[bX,dC,.pointer (some ⟨eh,0,none⟩),e1,fx,r,ea,ec,dL,ep,cz,.slice fX am.length gJ,fS,eF,yQ,ey,cM,cA,cB,cC,cD,cS,cT,cH,cW,cX,cY,cN,cI,eo,c7,dD,dE,dF,dh,dO,dP,dr,dt,di,dj,c8,c9,db,dd,de,df,dG,dH,du,cZ,c6,dw,dx,dQ,dy,dz,dI,dJ,dK,dk,dl,dm,dn,dR,dS,dT,dU,dV,dW,dX,dY,dZ,d0,d3,d4,d5,d6,d7,d8,ei,ed,eR,eS,eT,eU,Bl,Bm,Eu,Ev,Jd,Ew,Ex,Ey,Ez,EA,EB,EC,Bn,Bo,AQ,AR,AU,AV,AW,fh,fi,fj,fk,eY,eZ,e0,fJ,fK,fL,fl,fm,fo,fp,fq,fs,ft,fu,fv,fw,eH,eI,eJ,eK,eL,gm,f8,f9,ga,gb,gc,gf,gu,gv,hE,hj,hk,hm,hn,ho,hp,hq,hr,ht,hu,hv,hw,hd,iy,iz,ig],[]⟩ B)) :
  Code.wp Tryz.prog ((Tryz.f15.body.bind (jh 8)).getD .skip) (Exit.then b9 eV) ⟨#[bX,dC,.pointer (some ⟨eh,0,none⟩),e1,fx,r,ea,ec,dL,ep,cz,.slice fX am.length gJ,fS,eF,.int .i64 0,ey,cM,cA,cB,cC,cD,cS,cT,cH,cW,cX,cY,cN,cI,eo,c7,dD,dE,dF,dh,dO,dP,dr,dt,di,dj,c8,c9,db,dd,de,df,dG,dH,du,cZ,c6,dw,dx,dQ,dy,dz,dI,dJ,dK,dk,dl,dm,dn,dR,dS,dT,dU,dV,dW,dX,dY,dZ,d0,d3,d4,d5,d6,d7,d8,ei,ed,eR,eS,eT,eU,fy,fA,e3,fM,fC,fD,e4,e5,e6,e7,fN,fO,fP,fB,fc,fd,fe,ff,fg,fh,fi,fj,fk,eY,eZ,e0,fJ,fK,fL,fl,fm,fo,fp,fq,fs,ft,fu,fv,fw,eH,eI,eJ,eK,eL,gm,f8,f9,ga,gb,gc,gf,gu,gv,hE,hj,hk,hm,hn,ho,hp,hq,hr,ht,hu,hv,hw,hd,iy,iz,ig],[]⟩ wc:=by
 by_cases aI:N.regs.length=0
 ·refine asl wc N eh a2 c2 eX aI b9 eV ?_;intro B yQ Bl Bm Eu Ev Jd Ew Ex Ey Ez EA EB EC Bn Bo AQ AR AU AV AW hcut;subst hcut;have e:N.regs=[]:=yc aI;refine dM _ ⟨?_,qQ _ _⟩;have F:=w9.out;rw[show regs=[] from yc (by omega)] at F;unfold AH;rw[e] at F ⊢;exact F
 ·obtain⟨b0,i0⟩:∃a,N.regs[0]?=some a:=⟨N.regs[0]'(by omega),ct (by omega)⟩
  have ak:=bO b0 (bn i0);obtain⟨gs,iW,bQ,o1,ar⟩:=Dv (by intro e;have:=List.map_eq_nil_iff.1 e;rw[this] at ak;simp at ak;omega);subst bQ;refine asj wc N C eh zd a2 c2 eX uE bR r regs md w9 am gs iW gJ o1 (Wt gs iW rfl) (fun i x J=>?_) bO aU b9 eV ?_
  ·have:=ar i (k6 x) (by rw[fT,J];rfl) 0 _ rfl
   simpa using this
  ·exact dM
theorem ast (wc:World) (N:aR) (C eh:Nat) (zd:C<=wc.heap.size) (ms:List fF) (gQ:List Nat) (xw:∀b,b∈gQ->C<=b) (nX:Hid (gQ=ms.map fF.b)) (w8:Hid (mG C wc ms)) (a3 a4:Option Addr) (c3 c4:Nat) (fH:wc.cell? ⟨eh,3,none⟩=some (.slice a3 N.mems.length c3)) (h3:wc.cell? ⟨eh,4,none⟩=some (.slice a4 N.wrs.length c4)) (mL:eh<wc.heap.size) (cR:eh∉gQ) (JN:Hid (cm C wc a3 2 (N.mems.map hf.cells))) (jr:Hid (cm C wc a4 4 (N.wrs.map jz.cells))) (iR:Option Addr) (nm rt:Nat) (zk:ms.length=nm) (KI:cm wc.heap.size wc iR 1 (ms.map fun m=>[m.val])) (U4:∀b o,iR=some ⟨b,o,none⟩->b∉gQ) (am:List Nat) (fX:Option Addr) (gJ:Nat) (Dv:cm wc.heap.size wc fX 1 (am.map k6)) (rL:∀b o,fX=some ⟨b,o,none⟩->b∉gQ) (y2:Hid (ms.length=N.mems.length)) (oY:∀m,m∈ms->m.l.length<17592186044416) (tm:∀b,b∈gQ->b<wc.heap.size) (WI:∀(i:Nat) (m:fF) (z:hf),ms[i]?=some m->N.mems[i]?=some z->z.words=(m.l.length:Int)) (bO:∀z,z∈N.wrs->0<=z.mem∧z.mem<(N.mems.length:Int)∧0<=z.when_∧z.when_<(am.length:Int)∧0<=z.addr∧z.addr<(am.length:Int)∧0<=z.data∧z.data<(am.length:Int)) (aU:N.wrs.length<17592186044416) (b9:Act->World->Prop) (eV:Exit->Act->World->Prop) 
  (dM:Hid (∀(B:World) {Bh Bi AX AY AZ A0 D8 D9 Ea Eb Ec A1 A2 A3 A4 A5 A6 A7 A8 A9 Ba Bb Bc Bd Be Bf Bg Ee IX IY IZ I0 I1 I2 I3 I4 Ef Eg Eh Ei Ej Ek El Em Eo Ep Er Es Et I5 I6 I7:Value},(mG C B (N.wrs.foldl (m8 am) ms)∧jy gQ wc B)->b9 ⟨#[bX,dC,.pointer (some ⟨eh,0,none⟩),e1,fx,e2,.slice iR nm rt,ec,dL,ep,cz,.slice fX am.length gJ,fS,eF,ex,Bh,Bi,cA,cB,cC,cD,cS,cT,cH,cW,cX,cY,cN,cI,eo,c7,dD,dE,dF,dh,dO,dP,dr,dt,di,dj,c8,c9,db,dd,de,df,dG,dH,du,cZ,c6,dw,dx,dQ,dy,dz,dI,dJ,dK,dk,dl,dm,dn,dR,dS,dT,dU,dV,dW,dX,dY,dZ,d0,d3,d4,d5,d6,d7,d8,ei,ed,eR,eS,eT,eU,fy,fA,e3,fM,fC,fD,e4,e5,e6,e7,fN,fO,fP,fB,fc,fd,fe,ff,fg,AX,AY,AZ,A0,D8,D9,Ea,Eb,Ec,A1,A2,A3,A4,A5,A6,A7,A8,A9,Ba,Bb,Bc,Bd,Be,Bf,Bg,Ee,IX,IY,IZ,I0,I1,I2,I3,I4,Ef,Eg,Eh,Ei,Ej,Ek,El,Em,Eo,Ep,Er,Es,Et,I5,I6,I7,ig],[]⟩ B)) :
  Code.wp Tryz.prog ((Tryz.f15.body.bind (jh 10)).getD .skip) (Exit.then b9 eV) ⟨#[bX,dC,.pointer (some ⟨eh,0,none⟩),e1,fx,e2,.slice iR nm rt,ec,dL,ep,cz,.slice fX am.length gJ,fS,eF,ex,.int .i64 0,cM,cA,cB,cC,cD,cS,cT,cH,cW,cX,cY,cN,cI,eo,c7,dD,dE,dF,dh,dO,dP,dr,dt,di,dj,c8,c9,db,dd,de,df,dG,dH,du,cZ,c6,dw,dx,dQ,dy,dz,dI,dJ,dK,dk,dl,dm,dn,dR,dS,dT,dU,dV,dW,dX,dY,dZ,d0,d3,d4,d5,d6,d7,d8,ei,ed,eR,eS,eT,eU,fy,fA,e3,fM,fC,fD,e4,e5,e6,e7,fN,fO,fP,fB,fc,fd,fe,ff,fg,fh,fi,fj,fk,eY,eZ,e0,fJ,fK,fL,fl,fm,fo,fp,fq,fs,ft,fu,fv,fw,eH,eI,eJ,eK,eL,gm,f8,f9,ga,gb,gc,gf,gu,gv,hE,hj,hk,hm,hn,ho,hp,hq,hr,ht,hu,hv,hw,hd,iy,iz,ig],[]⟩ wc:=by
 by_cases aI:N.wrs.length=0
 ·refine ass wc N eh a4 c4 h3 aI b9 eV ?_;intro B Bh Bi AX AY AZ A0 D8 D9 Ea Eb Ec A1 A2 A3 A4 A5 A6 A7 A8 A9 Ba Bb Bc Bd Be Bf Bg Ee IX IY IZ I0 I1 I2 I3 I4 Ef Eg Eh Ei Ej Ek El Em Eo Ep Er Es Et I5 I6 I7 hcut;subst hcut;have e:N.wrs=[]:=yc aI;refine dM _ ⟨?_,jy.refl _ _⟩;rw[e];exact w8
 ·obtain⟨b0,i0⟩:∃a,N.wrs[0]?=some a:=⟨N.wrs[0]'(by omega),ct (by omega)⟩
  have ak:=bO b0 (bn i0);obtain⟨gs,iW,bQ,o1,ar⟩:=Dv (by intro e;have:=List.map_eq_nil_iff.1 e;rw[this] at ak;simp at ak;omega);subst bQ;obtain⟨b6,Gf,ame,Dw,anY⟩:=KI (by intro e;have:=List.map_eq_nil_iff.1 e;have O:=y2.out;rw[this] at O;simp at O;omega);subst ame;subst zk;refine asr wc N C eh zd ms gQ xw nX w8 a3 a4 c3 c4 fH h3 mL cR JN jr b6 Gf rt Dw (U4 b6 Gf rfl) (fun i m ae=>?_) am gs iW gJ o1 (rL gs iW rfl) (fun i x J=>?_) y2 oY tm WI bO aU b9 eV ?_
  ·have:=anY i [m.val] (by rw[fT,ae];rfl) 0 _ rfl
   simpa using this
  ·have:=ar i (k6 x) (by rw[fT,J];rfl) 0 _ rfl
   simpa using this
  ·exact dM
end Go.Proofs.YtcbcenfjigcfkaaGreatDoor
