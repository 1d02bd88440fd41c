import Derived.Test.YtcbcenfjigcfkaaGreatDoorK14
set_option maxRecDepth 100000
set_option maxHeartbeats 40000000
namespace Go.Proofs.YtcbcenfjigcfkaaGreatDoor
open Go.RowKit
theorem asE (Y:Nat) (w I:World) (S:dp) (N:aR) (e8:Hid (∀j,I.cell? ⟨w.heap.size,j,none⟩=(#[.slice S.a0 N.ins.length S.c0,.slice S.a1 N.nodes.length S.c1,.slice S.a2 N.regs.length S.c2,.slice S.a3 N.mems.length S.c3,.slice S.a4 N.wrs.length S.c4,.slice S.a5 N.outs.length S.c5]:Array Value)[j]?)) (hU:Hid (eM Y I S N)) (a8:w.heap.size<I.heap.size) (gE:Y<=I.heap.size) (aU:N.wrs.length<cd) (c5:Bool) (wc:World) (vj:Hid (V I wc)) (b9:Act->World->Prop) (eV:Exit->Act->World->Prop) {bX en fx e2 ea ec dL ep cz gy fS ex ey cM cA cB cC cD cS cT cH cW cX cY cN cI eo c7 dD dE dF dh dO dP dr dt di dj c8 c9 db dd de df dG dH du cZ c6 dw dx dQ dy dz dI dJ dK dk dl dm dn dR dS dT dU dV dW dX dY dZ d0 d3 d4 d5 d6 d7 d8 ei ed eR eS eT eU fy fA e3 fM fC fD e4 e5 e6 e7 fN fO fP fB fc fd fe ff fg fh fi fj fk eY eZ e0 fJ fK fL fl fm fo fp fq fs ft fu fv fw eH eI eJ eK eL gm f8 f9 ga gb gc gf gu gv hE hj hk hm hn ho hp hq hr ht hu hv hw hd iy iz ig pE pF pG pH pI pJ pK pL pM pN pO pP pQ pR pS pT pU pV pW pX pY pZ p0 p1 p2 p3 p4 p5 p6 p7 p8 p9 rV rW rX rY rZ r0 r1 r2 r3 r4 r5 r6 r7 r8 r9 sa sb sc sd se sf sg si sj sk sm sn so sp sq sr q4:Value}
  (dM:Hid (∀(s:Value) (B:World) {xV uS agF agG agH agI agJ agK Ym Yn Yo Yp Yq Yr Ys Yt Yu Yv Yw Yx Yy agL agM agN agO agP agQ agR agS agT agU agV agW agX agY agZ ag0 ag1 ag2 ag3 ag4 ag5 ag6 ag7 ag8 ag9 aha ahb ahc ahd ahe ahf ahg ahh ahi ahj ahk ahl ahm ahn aho:Value},(∃c:Bool,s = .bool c∧Hid (c=(c5&&N.wrs.all (o6 N)))∧Hid (V I B))->b9 ⟨#[bX,.pointer (some ⟨w.heap.size,0,none⟩),en,s,fx,e2,ea,ec,dL,ep,cz,gy,fS,xV,uS,ey,cM,cA,cB,cC,cD,cS,cT,cH,cW,cX,cY,cN,cI,eo,c7,dD,dE,dF,dh,dO,dP,dr,dt,di,dj,c8,c9,db,dd,de,df,dG,dH,du,cZ,c6,dw,dx,dQ,dy,dz,dI,dJ,dK,dk,dl,dm,dn,dR,dS,dT,dU,dV,dW,dX,dY,dZ,d0,d3,d4,d5,d6,d7,d8,ei,ed,eR,eS,eT,eU,fy,fA,e3,fM,fC,fD,e4,e5,e6,e7,fN,fO,fP,fB,fc,fd,fe,ff,fg,fh,fi,fj,fk,eY,eZ,e0,fJ,fK,fL,fl,fm,fo,fp,fq,fs,ft,fu,fv,fw,eH,eI,eJ,eK,eL,gm,f8,f9,agF,agG,agH,agI,agJ,agK,Ym,Yn,Yo,Yp,Yq,Yr,Ys,Yt,Yu,Yv,Yw,Yx,Yy,agL,agM,agN,agO,agP,agQ,agR,agS,agT,agU,agV,agW,agX,agY,agZ,ag0,ag1,ag2,ag3,ag4,ag5,ag6,ag7,ag8,ag9,aha,ahb,ahc,ahd,ahe,ahf,ahg,ahh,ahi,ahj,ahk,ahl,ahm,ahn,aho,rZ,r0,r1,r2,r3,r4,r5,r6,r7,r8,r9,sa,sb,sc,sd,se,sf,sg,si,sj,sk,sm,sn,so,sp,sq,sr,q4],[]⟩ B)) :
  Code.wp Tryz.prog ((Tryz.f6.body.bind (jh 10)).getD .skip) (Exit.then b9 eV) ⟨#[bX,.pointer (some ⟨w.heap.size,0,none⟩),en,.bool c5,fx,e2,ea,ec,dL,ep,cz,gy,fS,.int .i64 0,ex,ey,cM,cA,cB,cC,cD,cS,cT,cH,cW,cX,cY,cN,cI,eo,c7,dD,dE,dF,dh,dO,dP,dr,dt,di,dj,c8,c9,db,dd,de,df,dG,dH,du,cZ,c6,dw,dx,dQ,dy,dz,dI,dJ,dK,dk,dl,dm,dn,dR,dS,dT,dU,dV,dW,dX,dY,dZ,d0,d3,d4,d5,d6,d7,d8,ei,ed,eR,eS,eT,eU,fy,fA,e3,fM,fC,fD,e4,e5,e6,e7,fN,fO,fP,fB,fc,fd,fe,ff,fg,fh,fi,fj,fk,eY,eZ,e0,fJ,fK,fL,fl,fm,fo,fp,fq,fs,ft,fu,fv,fw,eH,eI,eJ,eK,eL,gm,f8,f9,ga,gb,gc,gf,gu,gv,hE,hj,hk,hm,hn,ho,hp,hq,hr,ht,hu,hv,hw,hd,iy,iz,ig,pE,pF,pG,pH,pI,pJ,pK,pL,pM,pN,pO,pP,pQ,pR,pS,pT,pU,pV,pW,pX,pY,pZ,p0,p1,p2,p3,p4,p5,p6,p7,p8,p9,rV,rW,rX,rY,rZ,r0,r1,r2,r3,r4,r5,r6,r7,r8,r9,sa,sb,sc,sd,se,sf,sg,si,sj,sk,sm,sn,so,sp,sq,sr,q4],[]⟩ wc:=by
 simp only[cd] at aU
 conv=>arg 2;whnf
 go_wp2_with fail
 go_loopw [3,13] (fun s aq B=>∃(k:Nat) (c:Bool),k<=N.wrs.length∧aq = .int .i64 k∧s = .bool c∧Hid (c=(c5&&(N.wrs.take k).all (o6 N)))∧Hid (V I B)) (fun _ aq _=>N.wrs.length - (intOf aq).toNat)
 case atStart=>exact⟨0,c5,cE _,rfl,rfl,by show _=_;simp,vj⟩
 case round =>
  obtain⟨k,c,X,rfl,rfl,gC,au⟩:=hrel;have gq:wr.cell? ⟨w.heap.size,0,none⟩=some (.slice S.a0 N.ins.length S.c0):=(au.cell (p:=⟨w.heap.size,0,none⟩) a8).trans (e8 0);have cy:wr.cell? ⟨w.heap.size,1,none⟩=some (.slice S.a1 N.nodes.length S.c1):=(au.cell (p:=⟨w.heap.size,1,none⟩) a8).trans (e8 1);have eX:wr.cell? ⟨w.heap.size,2,none⟩=some (.slice S.a2 N.regs.length S.c2):=(au.cell (p:=⟨w.heap.size,2,none⟩) a8).trans (e8 2);have fH:wr.cell? ⟨w.heap.size,3,none⟩=some (.slice S.a3 N.mems.length S.c3):=(au.cell (p:=⟨w.heap.size,3,none⟩) a8).trans (e8 3);have h3:wr.cell? ⟨w.heap.size,4,none⟩=some (.slice S.a4 N.wrs.length S.c4):=(au.cell (p:=⟨w.heap.size,4,none⟩) a8).trans (e8 4);have g5:wr.cell? ⟨w.heap.size,5,none⟩=some (.slice S.a5 N.outs.length S.c5):=(au.cell (p:=⟨w.heap.size,5,none⟩) a8).trans (e8 5);by_cases aB:k<N.wrs.length
  ·by_cases uy:c=true
   ·subst uy;obtain⟨z,ao⟩:∃z,N.wrs[k]?=some z:=⟨N.wrs[k],ct aB⟩
    obtain⟨bG,ck,bQ,gK,cx⟩:=hU.wr.el ao;have nQ:bG<I.heap.size:=bk gK gE;have mz:wr.cell? ⟨bG,ck+k*4,none⟩=_:=(au.cell (p:=⟨bG,ck+k*4,none⟩) nQ).trans (cx 0 _ rfl);have io:wr.cell? ⟨bG,ck+k*4+1,none⟩=_:=(au.cell (p:=⟨bG,ck+k*4+1,none⟩) nQ).trans (cx 1 _ rfl);have jM:wr.cell? ⟨bG,ck+k*4+2,none⟩=_:=(au.cell (p:=⟨bG,ck+k*4+2,none⟩) nQ).trans (cx 2 _ rfl);have lZ:wr.cell? ⟨bG,ck+k*4+3,none⟩=_:=(au.cell (p:=⟨bG,ck+k*4+3,none⟩) nQ).trans (cx 3 _ rfl);rw[bQ] at h3;have fa:(k:Int)<(N.wrs.length:Int):=by omega
    have aS:=bF ((k:Int)+1);have bP:Hid ((c5&&(N.wrs.take (k+1)).all (o6 N))=o6 N z):=by
     show _=_;rw[Fg _ _ k z ao,<-Bool.and_assoc,<-gC.out];rfl
    have Am:w.heap.size<wr.heap.size:=bk a8 au.size;have apa:bG<wr.heap.size:=bk nQ au.size;clear gC cx;have jD:(¬0<=z.mem∨(0<=z.mem∧¬z.mem<(N.mems.length:Int))∨(0<=z.mem∧z.mem<(N.mems.length:Int)∧¬0<=z.addr)∨(0<=z.mem∧z.mem<(N.mems.length:Int)∧0<=z.addr∧¬z.addr<(N.nodes.length:Int)))∨(0<=z.mem∧z.mem<(N.mems.length:Int)∧0<=z.addr∧z.addr<(N.nodes.length:Int)):=by omega
    rcases jD with ah | ⟨bY,bK,h7,lS⟩
    ·have ez:Hid (false=(c5&&(N.wrs.take (k+1)).all (o6 N))):=by
      show _=_;rw[bP.out]
      have:decide (0<=z.mem∧z.mem<(N.mems.length:Int)∧0<=z.addr∧z.addr<(N.nodes.length:Int))=false:=by rw[vf];omega
      unfold o6;rw[this];rfl
     obtain⟨rO,CG,e9,da⟩:=z;simp only at mz io jM lZ ah;clear bP ao bQ;rcases ah with bY | ⟨bY,bK⟩ | ⟨bY,bK,h7⟩ | ⟨bY,bK,h7,lS⟩
     all_goals
      go_wp2;go_quiet (fail)
      go_wp2;go_roundw
      case measure=>simp[intOf];omega
      exact⟨k+1,_,by omega,by simp,rfl,ez.out,Below.drewN (au.alloc au.size _) _⟩
    ·obtain⟨m,ae⟩:∃m,N.mems[z.mem.toNat]?=some m:=⟨N.mems[z.mem.toNat]'(by omega),ct (by omega)⟩
     obtain⟨M,im,nk,o0,lG⟩:=hU.m.el ae;have FR:M<I.heap.size:=bk o0 gE;have m0:wr.cell? ⟨M,im+z.mem.toNat*2,none⟩=some (.int .i64 m.width):=(au.cell (p:=⟨M,im+z.mem.toNat*2,none⟩) FR).trans (lG 0 _ rfl);have adC:M<wr.heap.size:=bk FR au.size;have gT:Hid (o6 N z=(j7 N z.when_ 1&&j7 N z.data m.width)):=by
      show _=_;unfold o6 qy;rw[ae,decide_eq_true (by exact⟨bY,bK,h7,lS⟩)];simp
     have HE:Hid (∀(i x:Int) B,V wr B->Calls Tryz.prog 21 #[.agg #[.slice S.a0 N.ins.length S.c0,.slice S.a1 N.nodes.length S.c1,.slice S.a2 N.regs.length S.c2,.slice (some ⟨M,im,none⟩) N.mems.length S.c3,.slice (some ⟨bG,ck,none⟩) N.wrs.length S.c4,.slice S.a5 N.outs.length S.c5],.int .i64 i,.int .i64 x] B fun e bs=>e = .returned (.bool (j7 N i x))∧V B bs):=by
      intro i x B aV
      have:=ahZ Y B S N (hU.to ((au.mono gE).trans (aV.mono (bL gE au.size)))) (bL (bL gE au.size) aV.size) i x
      unfold dp.cells at this;rw[bQ,nk] at this;exact this
     rw[nk] at fH;obtain⟨rO,CG,e9,da⟩:=z;simp only at mz io jM lZ bY bK h7 lS m0 bP gT;have HD:=K (HE CG 1);have qN:=K (HE da m.width);generalize m.width=jf at m0 gT qN;clear ao bQ nk lG ae HE;generalize j7 N da jf=b2 at gT qN;generalize j7 N CG 1=b1 at gT HD;have ez:Hid ((b1&&b2)=(c5&&(N.wrs.take (k+1)).all (o6 N))):=by show _=_;rw[bP.out,gT.out]
     clear bP gT;go_wp2_with fail
     generalize aJ:wr.alloc (.cells #[.int .i64 rO,.int .i64 CG,.int .i64 e9,.int .i64 da] 64)=oJ;have pc:Hid (V wr oJ):=by rw[<-aJ];exact(ax _ _).alloc (aL _) _
     have O9:Hid (∀j,oJ.cell? ⟨wr.heap.size,j,none⟩=(#[.int .i64 rO,.int .i64 CG,.int .i64 e9,.int .i64 da]:Array Value)[j]?):=by rw[<-aJ];intro j;simp
     have ad8:wr.heap.size<oJ.heap.size:=by rw[<-aJ];simp
     clear aJ;have nJ:oJ.cell? ⟨wr.heap.size,0,none⟩=some (.int .i64 rO):=O9 0;have d1:oJ.cell? ⟨wr.heap.size,1,none⟩=some (.int .i64 CG):=O9 1;have qP:oJ.cell? ⟨wr.heap.size,3,none⟩=some (.int .i64 da):=O9 3;have kL:oJ.cell? ⟨M,im+rO.toNat*2,none⟩=some (.int .i64 jf):=(pc.cell (p:=⟨M,im+rO.toNat*2,none⟩) adC).trans m0;have m6:oJ.cell? ⟨w.heap.size,0,none⟩=some (.slice S.a0 N.ins.length S.c0):=(pc.cell (p:=⟨w.heap.size,0,none⟩) Am).trans gq;have co:oJ.cell? ⟨w.heap.size,1,none⟩=some (.slice S.a1 N.nodes.length S.c1):=(pc.cell (p:=⟨w.heap.size,1,none⟩) Am).trans cy;have hI:oJ.cell? ⟨w.heap.size,2,none⟩=some (.slice S.a2 N.regs.length S.c2):=(pc.cell (p:=⟨w.heap.size,2,none⟩) Am).trans eX;have lk:oJ.cell? ⟨w.heap.size,3,none⟩=some (.slice (some ⟨M,im,none⟩) N.mems.length S.c3):=(pc.cell (p:=⟨w.heap.size,3,none⟩) Am).trans fH;have Cs:oJ.cell? ⟨w.heap.size,4,none⟩=some (.slice (some ⟨bG,ck,none⟩) N.wrs.length S.c4):=(pc.cell (p:=⟨w.heap.size,4,none⟩) Am).trans h3;have Ox:oJ.cell? ⟨w.heap.size,5,none⟩=some (.slice S.a5 N.outs.length S.c5):=(pc.cell (p:=⟨w.heap.size,5,none⟩) Am).trans g5;have ayo:w.heap.size<oJ.heap.size:=Nat.lt_trans Am ad8;have azh:M<oJ.heap.size:=Nat.lt_trans adC ad8;clear gq cy eX fH h3 g5 mz io jM lZ m0 O9;cases b1
     ·refine mR ?_;refine ih (S:=(fun B=>V oJ B∧(∀bw o,bw<oJ.heap.size->B.cell? ⟨bw,o,none⟩=oJ.cell? ⟨bw,o,none⟩))) (by kernel_rfl) (by(first | assumption | exact gl (ax _ _) | exact gl (ax _ _).drew | exact lL (by assumption) (by assumption))) (fun ii=>?_);refine R 0 ?_;refine R 1 ?_;refine R 2 ?_;refine R 3 ?_;refine R 4 ?_;refine rd 5 fun aj W=>?_
      (try simp only[bf,bg,bh]);go_simp;go_at_call 21;refine(HD _ (pc.trans (Below.mono (And.left (by assumption)) pc.size))).mono ?_;rintro e w2 ⟨rfl,bH⟩;go_wp2_with fail
      refine W.out _ _ (by(first | assumption | exact gl (ax _ _) | exact gl (ax _ _).drew | exact lL (by assumption) (by assumption))) (fun oC=>?_);clear W aj;try simp only[Act.put,mP,mh,mi]
      refine R 6 ?_;refine R 7 ?_;refine fR 8 ?_;refine fR 9 ?_;refine fR 10 ?_;refine fR 11 ?_;refine fR 12 ?_;refine fR 13 ?_;refine fR 14 ?_;refine fR 15 ?_;refine fR 16 ?_;refine fR 17 ?_;refine fR 18 ?_;refine R 19 ?_;refine R 20 ?_;refine gn (by kernel_rfl) ?_ _;refine j8 ?_;have cg:Hid (V oJ _):=And.left (by assumption);go_wp2_with fail
      go_roundw
      case measure=>simp[intOf];omega
      exact⟨k+1,_,by omega,by simp,rfl,ez.out,au.trans ((pc.trans (cg.mono pc.size)).mono au.size)⟩
     ·go_region_held3 (fun B=>V oJ B∧(∀bw o,bw<oJ.heap.size->B.cell? ⟨bw,o,none⟩=oJ.cell? ⟨bw,o,none⟩))
       (first|assumption|exact gl (ax _ _)|exact gl (ax _ _).drew|exact lL (by assumption) (by assumption))
       (first|(go_at_call_of 21 (Value.int IntKind.i64 CG);refine(HD _ (pc.trans (Below.mono (And.left (by assumption)) pc.size))).mono ?_;rintro e w2 ⟨rfl,bH⟩)|(go_at_call_of 21 (Value.int IntKind.i64 da);refine(qN _ (pc.trans (Below.mono (And.left (by assumption)) pc.size))).mono ?_;rintro e w2 ⟨rfl,bH⟩))
      all_goals
       have cg:Hid (V oJ _):=And.left (by assumption);go_wp2_with fail
       go_roundw
       case measure=>simp[intOf];omega
       exact⟨k+1,_,by omega,by simp,rfl,ez.out,au.trans ((pc.trans (cg.mono pc.size)).mono au.size)⟩
   ·have Ia:c=false:=Bool.eq_false_iff.2 uy;subst Ia;have fa:(k:Int)<(N.wrs.length:Int):=by omega
    have ez:Hid (false=(c5&&N.wrs.all (o6 N))):=by
     show _=_;rw[Ug (o6 N) N.wrs k,<-Bool.and_assoc,<-gC.out];rfl
    clear gC uy;go_wp2;exact dM _ _ ⟨false,rfl,ez.out,au⟩
  ·have cQ:¬((k:Int)<(N.wrs.length:Int)):=by omega
   have ez:Hid (c=(c5&&N.wrs.all (o6 N))):=by show _=_;rw[gC.out,fQ (by omega)]
   clear gC;go_wp2;exact dM _ _ ⟨c,rfl,ez.out,au⟩
end Go.Proofs.YtcbcenfjigcfkaaGreatDoor
