import Derived.Test.YtcbcenfjigcfkaaGreatDoorK14
set_option maxRecDepth 100000
set_option maxHeartbeats 40000000
namespace Go.Proofs.YtcbcenfjigcfkaaGreatDoor
open Go.RowKit
variable {bX c6 c7 c8 c9 cA cB cC cD cH cI cM cN cS cT cW cX cY cZ cz d0 d3 d4 d5 d6 d7 d8 dD dE dF dG dH dI dJ dK dL dO dP dQ dR dS dT dU dV dW dX dY dZ db dd de df dh di dj dk dl dm dn dr dt du dw dx dy dz e0 e2 e3 e4 e5 e6 e7 eF eH eI eJ eK eL eR eS eT eU eY eZ ea ec ed ei en eo ep ex ey f8 f9 fA fB fC fD fJ fK fL fM fN fO fP fS fc fd fe ff fg fh fi fj fk fl fm fo fp fq fs ft fu fv fw fx fy ga gb gc gf gm gu gv gy hE hd hj hk hm hn ho hp hq hr ht hu hv hw ig iy iz p0 p1 p2 p3 p4 p5 p6 p7 p8 p9 pE pF pG pH pI pJ pK pL pM pN pO pP pQ pR pS pT pU pV pW pX pY pZ q4 r0 r1 r2 r3 r4 r5 r6 r7 r8 r9 rV rW rX rY rZ sa sb sc sd se sf sg si sj sk sm sn so sp sq sr:Value}
theorem asA (Y:Nat) (w I:World) (S:dp) (N:aR) (e8:Hid (∀j,I.cell? ⟨w.heap.size,j,none⟩=(#[.slice S.a0 N.ins.length S.c0,.slice S.a1 N.nodes.length S.c1,.slice S.a2 N.regs.length S.c2,.slice S.a3 N.mems.length S.c3,.slice S.a4 N.wrs.length S.c4,.slice S.a5 N.outs.length S.c5]:Array Value)[j]?)) (hU:Hid (eM Y I S N)) (a8:w.heap.size<I.heap.size) (gE:Y<=I.heap.size) (aU:N.regs.length<cd) (c1:Bool) (wc:World) (vj:Hid (V I wc)) (b9:Act->World->Prop) (eV:Exit->Act->World->Prop) 
  (dM:Hid (∀(s:Value) (B:World) {GA OU Yz uT uU uW tG tH tI uX uY wA wB wD wE wF wG wH wI xW xX xY xZ x0 wJ wK uZ va vb tJ:Value},(∃c:Bool,s = .bool c∧Hid (c=(c1&&N.regs.all yP))∧Hid (V I B))->b9 ⟨#[bX,.pointer (some ⟨w.heap.size,0,none⟩),en,s,fx,e2,GA,OU,Yz,ep,cz,gy,fS,eF,ex,ey,cM,cA,cB,cC,cD,cS,cT,cH,cW,cX,cY,cN,cI,eo,c7,dD,dE,uT,uU,uW,tG,tH,tI,uX,uY,wA,wB,wD,wE,wF,wG,wH,wI,xW,xX,xY,xZ,x0,wJ,wK,uZ,va,vb,tJ,dk,dl,dm,dn,dR,dS,dT,dU,dV,dW,dX,dY,dZ,d0,d3,d4,d5,d6,d7,d8,ei,ed,eR,eS,eT,eU,fy,fA,e3,fM,fC,fD,e4,e5,e6,e7,fN,fO,fP,fB,fc,fd,fe,ff,fg,fh,fi,fj,fk,eY,eZ,e0,fJ,fK,fL,fl,fm,fo,fp,fq,fs,ft,fu,fv,fw,eH,eI,eJ,eK,eL,gm,f8,f9,ga,gb,gc,gf,gu,gv,hE,hj,hk,hm,hn,ho,hp,hq,hr,ht,hu,hv,hw,hd,iy,iz,ig,pE,pF,pG,pH,pI,pJ,pK,pL,pM,pN,pO,pP,pQ,pR,pS,pT,pU,pV,pW,pX,pY,pZ,p0,p1,p2,p3,p4,p5,p6,p7,p8,p9,rV,rW,rX,rY,rZ,r0,r1,r2,r3,r4,r5,r6,r7,r8,r9,sa,sb,sc,sd,se,sf,sg,si,sj,sk,sm,sn,so,sp,sq,sr,q4],[]⟩ B)) :
  Code.wp Tryz.prog ((Tryz.f6.body.bind (jh 2)).getD .skip) (Exit.then b9 eV) ⟨#[bX,.pointer (some ⟨w.heap.size,0,none⟩),en,.bool c1,fx,e2,.int .i64 0,ec,dL,ep,cz,gy,fS,eF,ex,ey,cM,cA,cB,cC,cD,cS,cT,cH,cW,cX,cY,cN,cI,eo,c7,dD,dE,dF,dh,dO,dP,dr,dt,di,dj,c8,c9,db,dd,de,df,dG,dH,du,cZ,c6,dw,dx,dQ,dy,dz,dI,dJ,dK,dk,dl,dm,dn,dR,dS,dT,dU,dV,dW,dX,dY,dZ,d0,d3,d4,d5,d6,d7,d8,ei,ed,eR,eS,eT,eU,fy,fA,e3,fM,fC,fD,e4,e5,e6,e7,fN,fO,fP,fB,fc,fd,fe,ff,fg,fh,fi,fj,fk,eY,eZ,e0,fJ,fK,fL,fl,fm,fo,fp,fq,fs,ft,fu,fv,fw,eH,eI,eJ,eK,eL,gm,f8,f9,ga,gb,gc,gf,gu,gv,hE,hj,hk,hm,hn,ho,hp,hq,hr,ht,hu,hv,hw,hd,iy,iz,ig,pE,pF,pG,pH,pI,pJ,pK,pL,pM,pN,pO,pP,pQ,pR,pS,pT,pU,pV,pW,pX,pY,pZ,p0,p1,p2,p3,p4,p5,p6,p7,p8,p9,rV,rW,rX,rY,rZ,r0,r1,r2,r3,r4,r5,r6,r7,r8,r9,sa,sb,sc,sd,se,sf,sg,si,sj,sk,sm,sn,so,sp,sq,sr,q4],[]⟩ wc:=by
 simp only[cd] at aU
 conv=>arg 2;whnf
 go_wp2_with fail
 go_loopw [3,6] (fun s aq B=>∃(k:Nat) (c:Bool),k<=N.regs.length∧aq = .int .i64 k∧s = .bool c∧Hid (c=(c1&&(N.regs.take k).all yP))∧Hid (V I B)) (fun _ aq _=>N.regs.length - (intOf aq).toNat)
 case atStart=>exact⟨0,c1,cE _,rfl,rfl,by show _=_;simp,vj⟩
 case round =>
  obtain⟨k,c,X,rfl,rfl,gC,au⟩:=hrel;have eX:wr.cell? ⟨w.heap.size,2,none⟩=some (.slice S.a2 N.regs.length S.c2):=(au.cell (p:=⟨w.heap.size,2,none⟩) a8).trans (e8 2);by_cases aB:k<N.regs.length
  ·obtain⟨z,ao⟩:∃z,N.regs[k]?=some z:=⟨N.regs[k],ct aB⟩
   obtain⟨bG,ck,bQ,gK,cx⟩:=hU.r.el ao;have nQ:bG<I.heap.size:=bk gK gE;have mz:wr.cell? ⟨bG,ck+k*3,none⟩=_:=(au.cell (p:=⟨bG,ck+k*3,none⟩) nQ).trans (cx 0 _ rfl);have io:wr.cell? ⟨bG,ck+k*3+1,none⟩=_:=(au.cell (p:=⟨bG,ck+k*3+1,none⟩) nQ).trans (cx 1 _ rfl);have jM:wr.cell? ⟨bG,ck+k*3+2,none⟩=_:=(au.cell (p:=⟨bG,ck+k*3+2,none⟩) nQ).trans (cx 2 _ rfl);rw[bQ] at eX;have fa:(k:Int)<(N.regs.length:Int):=by omega
   have aS:=bF ((k:Int)+1);have bP:Hid ((N.regs.take (k+1)).all yP=((N.regs.take k).all yP&&(cL z.width&&decide (z.init<=i3 z.width)))):=by show _=_;rw[Fg _ _ k z ao];rfl
   have j1:Hid (∀w,Calls Tryz.prog 18 #[.int .i64 z.width] w fun e B=>e = .returned (.bool (cL z.width))∧B=w):=fun w=>LK z.width w
   have hP:cL z.width=true->Hid (∀w,Calls Tryz.prog 19 #[.int .i64 z.width] w fun e B=>e = .returned (.int .u64 (i3 z.width))∧B=w):=fun aw w=>oe z.width aw w
   obtain⟨wd,IC,cF⟩:=z;simp only at mz io jM bP j1 hP;generalize cL wd=aQ at j1 bP hP;generalize i3 wd=mk at bP hP;clear ao cx bQ;have jD:c=false∨(c=true∧aQ=false)∨(c=true∧aQ=true):=by cases c <;> cases aQ <;> simp
   rcases jD with rfl | ⟨rfl,rfl⟩ | ⟨rfl,rfl⟩
   ·go_wp2_with (go_at_call 18;refine(j1 _).mono ?_;rintro e B ⟨rfl,rfl⟩)
    go_quiet (fail)
    go_wp2;go_roundw
    case measure=>simp[intOf];omega
    exact⟨k+1,_,by omega,by simp,rfl,by show _=_;rw[bP.out,<-Bool.and_assoc,<-gC.out];rfl,Below.drewN (au.alloc au.size _) _⟩
   ·go_wp2_with (go_at_call 18;refine(j1 _).mono ?_;rintro e B ⟨rfl,rfl⟩)
    go_quiet (fail)
    go_wp2;go_roundw
    case measure=>simp[intOf];omega
    exact⟨k+1,_,by omega,by simp,rfl,by show _=_;rw[bP.out,<-Bool.and_assoc,<-gC.out];rfl,Below.drewN (au.alloc au.size _) _⟩
   ·have MH:=hP rfl;clear hP;go_wp2_with (go_at_call 18;refine(j1 _).mono ?_;rintro e B ⟨rfl,rfl⟩)
    go_quiet ((go_at_call 19;exact Calls.quiet_of_same (MH _)))
    go_wp2;go_roundw
    case measure=>simp[intOf];omega
    exact⟨k+1,_,by omega,by simp,rfl,by show _=_;rw[bP.out,<-Bool.and_assoc,<-gC.out];rfl,Below.drewN (au.alloc au.size _) _⟩
  ·have cQ:¬((k:Int)<(N.regs.length:Int)):=by omega
   have ez:Hid (c=(c1&&N.regs.all yP)):=by show _=_;rw[gC.out,fQ (by omega)]
   clear gC;go_wp2;exact dM _ _ ⟨c,rfl,ez.out,au⟩
theorem asB (Y:Nat) (w I:World) (S:dp) (N:aR) (e8:Hid (∀j,I.cell? ⟨w.heap.size,j,none⟩=(#[.slice S.a0 N.ins.length S.c0,.slice S.a1 N.nodes.length S.c1,.slice S.a2 N.regs.length S.c2,.slice S.a3 N.mems.length S.c3,.slice S.a4 N.wrs.length S.c4,.slice S.a5 N.outs.length S.c5]:Array Value)[j]?)) (hU:Hid (eM Y I S N)) (a8:w.heap.size<I.heap.size) (gE:Y<=I.heap.size) (aU:N.mems.length<cd) (c2:Bool) (wc:World) (vj:Hid (V I wc)) (b9:Act->World->Prop) (eV:Exit->Act->World->Prop) 
  (dM:Hid (∀(s:Value) (B:World) {OV LA tK tL tM tN tO tP tQ tR tS tT tU tV tW tX tY tZ t0 t1 t2 t3 t4 wL wM wN wO wP wQ wR x1 x2 yV x3 x4 x5 x6 x7:Value},(∃c:Bool,s = .bool c∧Hid (c=(c2&&N.mems.all xL))∧Hid (V I B))->b9 ⟨#[bX,.pointer (some ⟨w.heap.size,0,none⟩),en,s,fx,e2,ea,ec,dL,OV,LA,gy,fS,eF,ex,ey,cM,cA,cB,cC,cD,cS,cT,cH,cW,cX,cY,cN,cI,eo,c7,dD,dE,dF,dh,dO,dP,dr,dt,di,dj,c8,c9,db,dd,de,df,dG,dH,du,cZ,c6,dw,dx,dQ,dy,dz,dI,dJ,dK,tK,tL,tM,tN,tO,tP,tQ,tR,tS,tT,tU,tV,tW,tX,tY,tZ,t0,t1,t2,t3,t4,wL,wM,wN,wO,wP,wQ,wR,x1,x2,yV,x3,x4,x5,x6,x7,fN,fO,fP,fB,fc,fd,fe,ff,fg,fh,fi,fj,fk,eY,eZ,e0,fJ,fK,fL,fl,fm,fo,fp,fq,fs,ft,fu,fv,fw,eH,eI,eJ,eK,eL,gm,f8,f9,ga,gb,gc,gf,gu,gv,hE,hj,hk,hm,hn,ho,hp,hq,hr,ht,hu,hv,hw,hd,iy,iz,ig,pE,pF,pG,pH,pI,pJ,pK,pL,pM,pN,pO,pP,pQ,pR,pS,pT,pU,pV,pW,pX,pY,pZ,p0,p1,p2,p3,p4,p5,p6,p7,p8,p9,rV,rW,rX,rY,rZ,r0,r1,r2,r3,r4,r5,r6,r7,r8,r9,sa,sb,sc,sd,se,sf,sg,si,sj,sk,sm,sn,so,sp,sq,sr,q4],[]⟩ B)) :
  Code.wp Tryz.prog ((Tryz.f6.body.bind (jh 4)).getD .skip) (Exit.then b9 eV) ⟨#[bX,.pointer (some ⟨w.heap.size,0,none⟩),en,.bool c2,fx,e2,ea,ec,dL,.int .i64 0,cz,gy,fS,eF,ex,ey,cM,cA,cB,cC,cD,cS,cT,cH,cW,cX,cY,cN,cI,eo,c7,dD,dE,dF,dh,dO,dP,dr,dt,di,dj,c8,c9,db,dd,de,df,dG,dH,du,cZ,c6,dw,dx,dQ,dy,dz,dI,dJ,dK,dk,dl,dm,dn,dR,dS,dT,dU,dV,dW,dX,dY,dZ,d0,d3,d4,d5,d6,d7,d8,ei,ed,eR,eS,eT,eU,fy,fA,e3,fM,fC,fD,e4,e5,e6,e7,fN,fO,fP,fB,fc,fd,fe,ff,fg,fh,fi,fj,fk,eY,eZ,e0,fJ,fK,fL,fl,fm,fo,fp,fq,fs,ft,fu,fv,fw,eH,eI,eJ,eK,eL,gm,f8,f9,ga,gb,gc,gf,gu,gv,hE,hj,hk,hm,hn,ho,hp,hq,hr,ht,hu,hv,hw,hd,iy,iz,ig,pE,pF,pG,pH,pI,pJ,pK,pL,pM,pN,pO,pP,pQ,pR,pS,pT,pU,pV,pW,pX,pY,pZ,p0,p1,p2,p3,p4,p5,p6,p7,p8,p9,rV,rW,rX,rY,rZ,r0,r1,r2,r3,r4,r5,r6,r7,r8,r9,sa,sb,sc,sd,se,sf,sg,si,sj,sk,sm,sn,so,sp,sq,sr,q4],[]⟩ wc:=by
 simp only[cd] at aU
 conv=>arg 2;whnf
 go_wp2_with fail
 go_loopw [3,9] (fun s aq B=>∃(k:Nat) (c:Bool),k<=N.mems.length∧aq = .int .i64 k∧s = .bool c∧Hid (c=(c2&&(N.mems.take k).all xL))∧Hid (V I B)) (fun _ aq _=>N.mems.length - (intOf aq).toNat)
 case atStart=>exact⟨0,c2,cE _,rfl,rfl,by show _=_;simp,vj⟩
 case round =>
  obtain⟨k,c,X,rfl,rfl,gC,au⟩:=hrel;have fH:wr.cell? ⟨w.heap.size,3,none⟩=some (.slice S.a3 N.mems.length S.c3):=(au.cell (p:=⟨w.heap.size,3,none⟩) a8).trans (e8 3);by_cases aB:k<N.mems.length
  ·obtain⟨z,ao⟩:∃z,N.mems[k]?=some z:=⟨N.mems[k],ct aB⟩
   obtain⟨bG,ck,bQ,gK,cx⟩:=hU.m.el ao;have nQ:bG<I.heap.size:=bk gK gE;have mz:wr.cell? ⟨bG,ck+k*2,none⟩=_:=(au.cell (p:=⟨bG,ck+k*2,none⟩) nQ).trans (cx 0 _ rfl);have io:wr.cell? ⟨bG,ck+k*2+1,none⟩=_:=(au.cell (p:=⟨bG,ck+k*2+1,none⟩) nQ).trans (cx 1 _ rfl);rw[bQ] at fH;have fa:(k:Int)<(N.mems.length:Int):=by omega
   have aS:=bF ((k:Int)+1);have bP:Hid ((N.mems.take (k+1)).all xL=((N.mems.take k).all xL&&(cL z.width&&decide (1<=z.words∧z.words<=256)))):=by show _=_;rw[Fg _ _ k z ao];rfl
   have j1:Hid (∀w,Calls Tryz.prog 18 #[.int .i64 z.width] w fun e B=>e = .returned (.bool (cL z.width))∧B=w):=fun w=>LK z.width w
   obtain⟨wd,nw⟩:=z;simp only at mz io bP j1;generalize cL wd=aQ at j1 bP;clear ao cx bQ;have jD:c=false∨(c=true∧aQ=false)∨(c=true∧aQ=true∧¬1<=nw)∨(c=true∧aQ=true∧1<=nw∧¬nw<=256)∨(c=true∧aQ=true∧1<=nw∧nw<=256):=by
    cases c <;> cases aQ <;> simp;omega
   rcases jD with rfl | ⟨rfl,rfl⟩ | ⟨rfl,rfl,bY⟩ | ⟨rfl,rfl,bY,bK⟩ | ⟨rfl,rfl,bY,bK⟩
   all_goals
    go_wp2_with (go_at_call 18;refine(j1 _).mono ?_;rintro e B ⟨rfl,rfl⟩)
    go_roundw
    case measure=>simp[intOf];omega
    exact⟨k+1,_,by omega,by simp,rfl,by show _=_;rw[bP.out,<-Bool.and_assoc,<-gC.out];first | rfl | (symm;simp;omega),au⟩
  ·have cQ:¬((k:Int)<(N.mems.length:Int)):=by omega
   have ez:Hid (c=(c2&&N.mems.all xL)):=by show _=_;rw[gC.out,fQ (by omega)]
   clear gC;go_wp2;exact dM _ _ ⟨c,rfl,ez.out,au⟩
theorem asC (Y:Nat) (w I:World) (S:dp) (N:aR) (e8:Hid (∀j,I.cell? ⟨w.heap.size,j,none⟩=(#[.slice S.a0 N.ins.length S.c0,.slice S.a1 N.nodes.length S.c1,.slice S.a2 N.regs.length S.c2,.slice S.a3 N.mems.length S.c3,.slice S.a4 N.wrs.length S.c4,.slice S.a5 N.outs.length S.c5]:Array Value)[j]?)) (hU:Hid (eM Y I S N)) (a8:w.heap.size<I.heap.size) (gE:Y<=I.heap.size) (aU:N.nodes.length<cd) (c3:Bool) (wc:World) (vj:Hid (V I wc)) (b9:Act->World->Prop) (eV:Exit->Act->World->Prop) 
  (dM:Hid (∀(s:Value) (B:World) {OT x8 x9 wS wT v4 v5 v6 v7 v8 v9 wa wb we:Value},(∃c:Bool,s = .bool c∧Hid (c=(c3&&(List.range N.nodes.length).all (qA N)))∧Hid (V I B))->b9 ⟨#[bX,.pointer (some ⟨w.heap.size,0,none⟩),en,s,fx,e2,ea,ec,dL,ep,cz,OT,fS,eF,ex,ey,cM,cA,cB,cC,cD,cS,cT,cH,cW,cX,cY,cN,cI,eo,c7,dD,dE,dF,dh,dO,dP,dr,dt,di,dj,c8,c9,db,dd,de,df,dG,dH,du,cZ,c6,dw,dx,dQ,dy,dz,dI,dJ,dK,dk,dl,dm,dn,dR,dS,dT,dU,dV,dW,dX,dY,dZ,d0,d3,d4,d5,d6,d7,d8,ei,ed,eR,eS,eT,eU,fy,fA,e3,fM,fC,fD,e4,e5,e6,e7,x8,x9,wS,wT,v4,v5,v6,v7,v8,v9,wa,wb,we,eY,eZ,e0,fJ,fK,fL,fl,fm,fo,fp,fq,fs,ft,fu,fv,fw,eH,eI,eJ,eK,eL,gm,f8,f9,ga,gb,gc,gf,gu,gv,hE,hj,hk,hm,hn,ho,hp,hq,hr,ht,hu,hv,hw,hd,iy,iz,ig,pE,pF,pG,pH,pI,pJ,pK,pL,pM,pN,pO,pP,pQ,pR,pS,pT,pU,pV,pW,pX,pY,pZ,p0,p1,p2,p3,p4,p5,p6,p7,p8,p9,rV,rW,rX,rY,rZ,r0,r1,r2,r3,r4,r5,r6,r7,r8,r9,sa,sb,sc,sd,se,sf,sg,si,sj,sk,sm,sn,so,sp,sq,sr,q4],[]⟩ B)) :
  Code.wp Tryz.prog ((Tryz.f6.body.bind (jh 6)).getD .skip) (Exit.then b9 eV) ⟨#[bX,.pointer (some ⟨w.heap.size,0,none⟩),en,.bool c3,fx,e2,ea,ec,dL,ep,cz,.int .i64 0,fS,eF,ex,ey,cM,cA,cB,cC,cD,cS,cT,cH,cW,cX,cY,cN,cI,eo,c7,dD,dE,dF,dh,dO,dP,dr,dt,di,dj,c8,c9,db,dd,de,df,dG,dH,du,cZ,c6,dw,dx,dQ,dy,dz,dI,dJ,dK,dk,dl,dm,dn,dR,dS,dT,dU,dV,dW,dX,dY,dZ,d0,d3,d4,d5,d6,d7,d8,ei,ed,eR,eS,eT,eU,fy,fA,e3,fM,fC,fD,e4,e5,e6,e7,fN,fO,fP,fB,fc,fd,fe,ff,fg,fh,fi,fj,fk,eY,eZ,e0,fJ,fK,fL,fl,fm,fo,fp,fq,fs,ft,fu,fv,fw,eH,eI,eJ,eK,eL,gm,f8,f9,ga,gb,gc,gf,gu,gv,hE,hj,hk,hm,hn,ho,hp,hq,hr,ht,hu,hv,hw,hd,iy,iz,ig,pE,pF,pG,pH,pI,pJ,pK,pL,pM,pN,pO,pP,pQ,pR,pS,pT,pU,pV,pW,pX,pY,pZ,p0,p1,p2,p3,p4,p5,p6,p7,p8,p9,rV,rW,rX,rY,rZ,r0,r1,r2,r3,r4,r5,r6,r7,r8,r9,sa,sb,sc,sd,se,sf,sg,si,sj,sk,sm,sn,so,sp,sq,sr,q4],[]⟩ wc:=by
 simp only[cd] at aU
 conv=>arg 2;whnf
 go_wp2_with fail
 go_loopw [3,11] (fun s aq B=>∃(k:Nat) (c:Bool),k<=N.nodes.length∧aq = .int .i64 k∧s = .bool c∧Hid (c=(c3&&(List.range k).all (qA N)))∧Hid (V I B)) (fun _ aq _=>N.nodes.length - (intOf aq).toNat)
 case atStart=>exact⟨0,c3,cE _,rfl,rfl,by show _=_;simp,vj⟩
 case round =>
  obtain⟨k,c,X,rfl,rfl,gC,au⟩:=hrel;have gq:wr.cell? ⟨w.heap.size,0,none⟩=some (.slice S.a0 N.ins.length S.c0):=(au.cell (p:=⟨w.heap.size,0,none⟩) a8).trans (e8 0);have cy:wr.cell? ⟨w.heap.size,1,none⟩=some (.slice S.a1 N.nodes.length S.c1):=(au.cell (p:=⟨w.heap.size,1,none⟩) a8).trans (e8 1);have eX:wr.cell? ⟨w.heap.size,2,none⟩=some (.slice S.a2 N.regs.length S.c2):=(au.cell (p:=⟨w.heap.size,2,none⟩) a8).trans (e8 2);have fH:wr.cell? ⟨w.heap.size,3,none⟩=some (.slice S.a3 N.mems.length S.c3):=(au.cell (p:=⟨w.heap.size,3,none⟩) a8).trans (e8 3);have h3:wr.cell? ⟨w.heap.size,4,none⟩=some (.slice S.a4 N.wrs.length S.c4):=(au.cell (p:=⟨w.heap.size,4,none⟩) a8).trans (e8 4);have g5:wr.cell? ⟨w.heap.size,5,none⟩=some (.slice S.a5 N.outs.length S.c5):=(au.cell (p:=⟨w.heap.size,5,none⟩) a8).trans (e8 5);by_cases aB:k<N.nodes.length
  ·by_cases uy:c=true
   ·subst uy;obtain⟨z,ao⟩:∃z,N.nodes[k]?=some z:=⟨N.nodes[k],ct aB⟩
    have fa:(k:Int)<(N.nodes.length:Int):=by omega
    have aS:=bF ((k:Int)+1);have Kw:(List.range k).all (qA N)=true:=aky gC;have aE:Hid (∀j y,j<k->N.nodes[j]?=some y->1<=y.width∧y.width<=32):=by
     intro j y aT aF;have F:=k9.1 Kw j (om.2 aT);simp only[qA,aF,pz] at F;by_cases aY:oh y
     ·rw[if_pos aY] at F;cases F
     ·have:cL y.width=true:=by
       cases aw:cL y.width with
       | true=>rfl
       | false=>exact absurd (.inl aw) aY
      simpa[cL] using this
    have abe:Hid (Calls Tryz.prog 20 #[.agg #[.slice S.a0 N.ins.length S.c0,.slice S.a1 N.nodes.length S.c1,.slice S.a2 N.regs.length S.c2,.slice S.a3 N.mems.length S.c3,.slice S.a4 N.wrs.length S.c4,.slice S.a5 N.outs.length S.c5],.int .i64 k] wr fun e B=>e = .returned (.bool (pz N k z))∧V wr B):=arU Y wr S N (hU.to (au.mono gE)) (bL gE au.size) k z ao aE;have bP:Hid (pz N k z=(c3&&(List.range (k+1)).all (qA N))):=by
     show _=_;rw[af2,<-Bool.and_assoc,<-gC.out];simp[qA,ao]
    clear gC Kw ao aE;generalize pz N k z=bj at abe bP;go_wp2_with (go_at_call 20;refine abe.mono ?_;rintro e B ⟨rfl,bH⟩)
    go_roundw
    case measure=>simp[intOf];omega
    exact⟨k+1,_,by omega,by simp,rfl,bP.out,au.trans (bH.mono au.size)⟩
   ·have Ia:c=false:=Bool.eq_false_iff.2 uy;subst Ia;have fa:(k:Int)<(N.nodes.length:Int):=by omega
    have ez:Hid (false=(c3&&(List.range N.nodes.length).all (qA N))):=by
     show _=_;rw[akt (qA N) X,<-Bool.and_assoc,<-gC.out];rfl
    clear gC uy;go_wp2;exact dM _ _ ⟨false,rfl,ez.out,au⟩
  ·have cQ:¬((k:Int)<(N.nodes.length:Int)):=by omega
   have ez:Hid (c=(c3&&(List.range N.nodes.length).all (qA N))):=by
    show _=_;rw[gC.out,show k=N.nodes.length by omega]
   clear gC;go_wp2;exact dM _ _ ⟨c,rfl,ez.out,au⟩
theorem asD (Y:Nat) (w I:World) (S:dp) (N:aR) (e8:Hid (∀j,I.cell? ⟨w.heap.size,j,none⟩=(#[.slice S.a0 N.ins.length S.c0,.slice S.a1 N.nodes.length S.c1,.slice S.a2 N.regs.length S.c2,.slice S.a3 N.mems.length S.c3,.slice S.a4 N.wrs.length S.c4,.slice S.a5 N.outs.length S.c5]:Array Value)[j]?)) (hU:Hid (eM Y I S N)) (a8:w.heap.size<I.heap.size) (gE:Y<=I.heap.size) (aU:N.regs.length<cd) (c4:Bool) (wc:World) (vj:Hid (V I wc)) (b9:Act->World->Prop) (eV:Exit->Act->World->Prop) 
  (dM:Hid (∀(s:Value) (B:World) {Ss xQ xR xS xT xU wf wg wh wj wk wm wo wp wq wu wv Su Sv Sw Sx Sy Yl agD agE:Value},(∃c:Bool,s = .bool c∧Hid (c=(c4&&N.regs.all (vJ N)))∧Hid (V I B))->b9 ⟨#[bX,.pointer (some ⟨w.heap.size,0,none⟩),en,s,fx,e2,ea,ec,dL,ep,cz,gy,Ss,eF,ex,ey,cM,cA,cB,cC,cD,cS,cT,cH,cW,cX,cY,cN,cI,eo,c7,dD,dE,dF,dh,dO,dP,dr,dt,di,dj,c8,c9,db,dd,de,df,dG,dH,du,cZ,c6,dw,dx,dQ,dy,dz,dI,dJ,dK,dk,dl,dm,dn,dR,dS,dT,dU,dV,dW,dX,dY,dZ,d0,d3,d4,d5,d6,d7,d8,ei,ed,eR,eS,eT,eU,fy,fA,e3,fM,fC,fD,e4,e5,e6,e7,fN,fO,fP,fB,fc,fd,fe,ff,fg,fh,fi,fj,fk,xQ,xR,xS,xT,xU,wf,wg,wh,wj,wk,wm,wo,wp,wq,wu,wv,Su,Sv,Sw,Sx,Sy,Yl,agD,agE,ga,gb,gc,gf,gu,gv,hE,hj,hk,hm,hn,ho,hp,hq,hr,ht,hu,hv,hw,hd,iy,iz,ig,pE,pF,pG,pH,pI,pJ,pK,pL,pM,pN,pO,pP,pQ,pR,pS,pT,pU,pV,pW,pX,pY,pZ,p0,p1,p2,p3,p4,p5,p6,p7,p8,p9,rV,rW,rX,rY,rZ,r0,r1,r2,r3,r4,r5,r6,r7,r8,r9,sa,sb,sc,sd,se,sf,sg,si,sj,sk,sm,sn,so,sp,sq,sr,q4],[]⟩ B)) :
  Code.wp Tryz.prog ((Tryz.f6.body.bind (jh 8)).getD .skip) (Exit.then b9 eV) ⟨#[bX,.pointer (some ⟨w.heap.size,0,none⟩),en,.bool c4,fx,e2,ea,ec,dL,ep,cz,gy,.int .i64 0,eF,ex,ey,cM,cA,cB,cC,cD,cS,cT,cH,cW,cX,cY,cN,cI,eo,c7,dD,dE,dF,dh,dO,dP,dr,dt,di,dj,c8,c9,db,dd,de,df,dG,dH,du,cZ,c6,dw,dx,dQ,dy,dz,dI,dJ,dK,dk,dl,dm,dn,dR,dS,dT,dU,dV,dW,dX,dY,dZ,d0,d3,d4,d5,d6,d7,d8,ei,ed,eR,eS,eT,eU,fy,fA,e3,fM,fC,fD,e4,e5,e6,e7,fN,fO,fP,fB,fc,fd,fe,ff,fg,fh,fi,fj,fk,eY,eZ,e0,fJ,fK,fL,fl,fm,fo,fp,fq,fs,ft,fu,fv,fw,eH,eI,eJ,eK,eL,gm,f8,f9,ga,gb,gc,gf,gu,gv,hE,hj,hk,hm,hn,ho,hp,hq,hr,ht,hu,hv,hw,hd,iy,iz,ig,pE,pF,pG,pH,pI,pJ,pK,pL,pM,pN,pO,pP,pQ,pR,pS,pT,pU,pV,pW,pX,pY,pZ,p0,p1,p2,p3,p4,p5,p6,p7,p8,p9,rV,rW,rX,rY,rZ,r0,r1,r2,r3,r4,r5,r6,r7,r8,r9,sa,sb,sc,sd,se,sf,sg,si,sj,sk,sm,sn,so,sp,sq,sr,q4],[]⟩ wc:=by
 simp only[cd] at aU
 conv=>arg 2;whnf
 go_wp2_with fail
 go_loopw [3,12] (fun s aq B=>∃(k:Nat) (c:Bool),k<=N.regs.length∧aq = .int .i64 k∧s = .bool c∧Hid (c=(c4&&(N.regs.take k).all (vJ N)))∧Hid (V I B)) (fun _ aq _=>N.regs.length - (intOf aq).toNat)
 case atStart=>exact⟨0,c4,cE _,rfl,rfl,by show _=_;simp,vj⟩
 case round =>
  obtain⟨k,c,X,rfl,rfl,gC,au⟩:=hrel;have gq:wr.cell? ⟨w.heap.size,0,none⟩=some (.slice S.a0 N.ins.length S.c0):=(au.cell (p:=⟨w.heap.size,0,none⟩) a8).trans (e8 0);have cy:wr.cell? ⟨w.heap.size,1,none⟩=some (.slice S.a1 N.nodes.length S.c1):=(au.cell (p:=⟨w.heap.size,1,none⟩) a8).trans (e8 1);have eX:wr.cell? ⟨w.heap.size,2,none⟩=some (.slice S.a2 N.regs.length S.c2):=(au.cell (p:=⟨w.heap.size,2,none⟩) a8).trans (e8 2);have fH:wr.cell? ⟨w.heap.size,3,none⟩=some (.slice S.a3 N.mems.length S.c3):=(au.cell (p:=⟨w.heap.size,3,none⟩) a8).trans (e8 3);have h3:wr.cell? ⟨w.heap.size,4,none⟩=some (.slice S.a4 N.wrs.length S.c4):=(au.cell (p:=⟨w.heap.size,4,none⟩) a8).trans (e8 4);have g5:wr.cell? ⟨w.heap.size,5,none⟩=some (.slice S.a5 N.outs.length S.c5):=(au.cell (p:=⟨w.heap.size,5,none⟩) a8).trans (e8 5);by_cases aB:k<N.regs.length
  ·by_cases uy:c=true
   ·subst uy;obtain⟨z,ao⟩:∃z,N.regs[k]?=some z:=⟨N.regs[k],ct aB⟩
    obtain⟨bG,ck,bQ,gK,cx⟩:=hU.r.el ao;have nQ:bG<I.heap.size:=bk gK gE;have mz:wr.cell? ⟨bG,ck+k*3,none⟩=_:=(au.cell (p:=⟨bG,ck+k*3,none⟩) nQ).trans (cx 0 _ rfl);have io:wr.cell? ⟨bG,ck+k*3+1,none⟩=_:=(au.cell (p:=⟨bG,ck+k*3+1,none⟩) nQ).trans (cx 1 _ rfl);have jM:wr.cell? ⟨bG,ck+k*3+2,none⟩=_:=(au.cell (p:=⟨bG,ck+k*3+2,none⟩) nQ).trans (cx 2 _ rfl);rw[bQ] at eX;have fa:(k:Int)<(N.regs.length:Int):=by omega
    have aS:=bF ((k:Int)+1);have HE:Hid (∀B,V wr B->Calls Tryz.prog 21 #[.agg #[.slice S.a0 N.ins.length S.c0,.slice S.a1 N.nodes.length S.c1,.slice (some ⟨bG,ck,none⟩) N.regs.length S.c2,.slice S.a3 N.mems.length S.c3,.slice S.a4 N.wrs.length S.c4,.slice S.a5 N.outs.length S.c5],.int .i64 z.next,.int .i64 z.width] B fun e bs=>e = .returned (.bool (j7 N z.next z.width))∧V B bs):=by
     intro B aV
     have:=ahZ Y B S N (hU.to ((au.mono gE).trans (aV.mono (bL gE au.size)))) (bL (bL gE au.size) aV.size) z.next z.width
     unfold dp.cells at this;rw[bQ] at this;exact this
    have bP:Hid (j7 N z.next z.width=(c4&&(N.regs.take (k+1)).all (vJ N))):=by
     show _=_;rw[Fg _ _ k z ao,<-Bool.and_assoc,<-gC.out];simp[vJ]
    obtain⟨wd,IC,cF⟩:=z;simp only at mz io jM bP HE;generalize j7 N cF wd=aQ at HE bP;clear ao cx bQ gC;have Am:w.heap.size<wr.heap.size:=bk a8 au.size;have apa:bG<wr.heap.size:=bk nQ au.size;go_wp2_with fail
    go_region_held3 (fun B=>V wr B∧(∀bw o,bw<wr.heap.size->B.cell? ⟨bw,o,none⟩=wr.cell? ⟨bw,o,none⟩))
     (first|assumption|exact gl (ax _ _)|exact gl (ax _ _).drew|exact lL (by assumption) (by assumption))
     (first|(go_at_call 21;refine(HE _ (And.left (by assumption))).mono ?_;rintro e w2 ⟨rfl,bH⟩))
    all_goals
     have cg:Hid (V wr _):=And.left (by assumption);go_wp2_with fail
     go_roundw
     case measure=>simp[intOf];omega
     exact⟨k+1,_,by omega,by simp,rfl,bP.out,au.trans (cg.mono au.size)⟩
   ·have Ia:c=false:=Bool.eq_false_iff.2 uy;subst Ia;have fa:(k:Int)<(N.regs.length:Int):=by omega
    have ez:Hid (false=(c4&&N.regs.all (vJ N))):=by
     show _=_;rw[Ug (vJ N) N.regs k,<-Bool.and_assoc,<-gC.out];rfl
    clear gC uy;go_wp2;exact dM _ _ ⟨false,rfl,ez.out,au⟩
  ·have cQ:¬((k:Int)<(N.regs.length:Int)):=by omega
   have ez:Hid (c=(c4&&N.regs.all (vJ N))):=by show _=_;rw[gC.out,fQ (by omega)]
   clear gC;go_wp2;exact dM _ _ ⟨c,rfl,ez.out,au⟩
end Go.Proofs.YtcbcenfjigcfkaaGreatDoor
