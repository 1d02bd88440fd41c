import Derived.Test.YtcbcenfjigcfkaaGreatDoorK48
import Derived.Test.YtcbcenfjigcfkaaGreatDoorK49
import Derived.Test.YtcbcenfjigcfkaaGreatDoorK50
set_option maxRecDepth 100000
set_option maxHeartbeats 40000000
namespace Go.Proofs.YtcbcenfjigcfkaaGreatDoor
open Go.RowKit
theorem asF (Y:Nat) (w I:World) (S:dp) (N:aR) (e8:Hid (∀j,I.cell? ⟨w.heap.size,j,none⟩=(#[.slice S.a0 N.ins.length S.c0,.slice S.a1 N.nodes.length S.c1,.slice S.a2 N.regs.length S.c2,.slice S.a3 N.mems.length S.c3,.slice S.a4 N.wrs.length S.c4,.slice S.a5 N.outs.length S.c5]:Array Value)[j]?)) (hU:Hid (eM Y I S N)) (a8:w.heap.size<I.heap.size) (gE:Y<=I.heap.size) (aU:N.outs.length<cd) (rt:Bool) (wc:World) (vj:Hid (V I wc)) (b9:Act->World->Prop) (eV:Exit->Act->World->Prop) {bX en fx e2 ea ec dL ep cz gy fS eF ex cM cA cB cC cD cS cT cH cW cX cY cN cI eo c7 dD dE dF dh dO dP dr dt di dj c8 c9 db dd de df dG dH du cZ c6 dw dx dQ dy dz dI dJ dK dk dl dm dn dR dS dT dU dV dW dX dY dZ d0 d3 d4 d5 d6 d7 d8 ei ed eR eS eT eU fy fA e3 fM fC fD e4 e5 e6 e7 fN fO fP fB fc fd fe ff fg fh fi fj fk eY eZ e0 fJ fK fL fl fm fo fp fq fs ft fu fv fw eH eI eJ eK eL gm f8 f9 ga gb gc gf gu gv hE hj hk hm hn ho hp hq hr ht hu hv hw hd iy iz ig pE pF pG pH pI pJ pK pL pM pN pO pP pQ pR pS pT pU pV pW pX pY pZ p0 p1 p2 p3 p4 p5 p6 p7 p8 p9 rV rW rX rY rZ r0 r1 r2 r3 r4 r5 r6 r7 r8 r9 sa sb sc sd se sf sg si sj sk sm sn so sp sq sr q4:Value}
  (dM:Hid (∀(s:Value) (B:World) {ww ahp ahq ahr ahs aht ahu ahv ahw ahx ahy ahz ahA ahB ahC ahD ahE ahF ahG ahH ahI ahJ ahK ahL ahM ahN ahO ahP:Value},(∃c:Bool,s = .bool c∧Hid (c=(rt&&N.outs.all (mO N)))∧Hid (V I B))->b9 ⟨#[bX,.pointer (some ⟨w.heap.size,0,none⟩),en,s,fx,e2,ea,ec,dL,ep,cz,gy,fS,eF,ex,ww,cM,cA,cB,cC,cD,cS,cT,cH,cW,cX,cY,cN,cI,eo,c7,dD,dE,dF,dh,dO,dP,dr,dt,di,dj,c8,c9,db,dd,de,df,dG,dH,du,cZ,c6,dw,dx,dQ,dy,dz,dI,dJ,dK,dk,dl,dm,dn,dR,dS,dT,dU,dV,dW,dX,dY,dZ,d0,d3,d4,d5,d6,d7,d8,ei,ed,eR,eS,eT,eU,fy,fA,e3,fM,fC,fD,e4,e5,e6,e7,fN,fO,fP,fB,fc,fd,fe,ff,fg,fh,fi,fj,fk,eY,eZ,e0,fJ,fK,fL,fl,fm,fo,fp,fq,fs,ft,fu,fv,fw,eH,eI,eJ,eK,eL,gm,f8,f9,ga,gb,gc,gf,gu,gv,hE,hj,hk,hm,hn,ho,hp,hq,hr,ht,hu,hv,hw,hd,iy,iz,ig,pE,pF,pG,pH,pI,pJ,pK,pL,pM,pN,pO,pP,pQ,pR,pS,pT,pU,pV,pW,pX,pY,pZ,p0,p1,p2,p3,p4,p5,p6,p7,p8,p9,rV,rW,rX,rY,ahp,ahq,ahr,ahs,aht,ahu,ahv,ahw,ahx,ahy,ahz,ahA,ahB,ahC,ahD,ahE,ahF,ahG,ahH,ahI,ahJ,ahK,ahL,ahM,ahN,ahO,ahP,q4],[]⟩ B)) :
  Code.wp Tryz.prog ((Tryz.f6.body.bind (jh 12)).getD .skip) (Exit.then b9 eV) ⟨#[bX,.pointer (some ⟨w.heap.size,0,none⟩),en,.bool rt,fx,e2,ea,ec,dL,ep,cz,gy,fS,eF,ex,.int .i64 0,cM,cA,cB,cC,cD,cS,cT,cH,cW,cX,cY,cN,cI,eo,c7,dD,dE,dF,dh,dO,dP,dr,dt,di,dj,c8,c9,db,dd,de,df,dG,dH,du,cZ,c6,dw,dx,dQ,dy,dz,dI,dJ,dK,dk,dl,dm,dn,dR,dS,dT,dU,dV,dW,dX,dY,dZ,d0,d3,d4,d5,d6,d7,d8,ei,ed,eR,eS,eT,eU,fy,fA,e3,fM,fC,fD,e4,e5,e6,e7,fN,fO,fP,fB,fc,fd,fe,ff,fg,fh,fi,fj,fk,eY,eZ,e0,fJ,fK,fL,fl,fm,fo,fp,fq,fs,ft,fu,fv,fw,eH,eI,eJ,eK,eL,gm,f8,f9,ga,gb,gc,gf,gu,gv,hE,hj,hk,hm,hn,ho,hp,hq,hr,ht,hu,hv,hw,hd,iy,iz,ig,pE,pF,pG,pH,pI,pJ,pK,pL,pM,pN,pO,pP,pQ,pR,pS,pT,pU,pV,pW,pX,pY,pZ,p0,p1,p2,p3,p4,p5,p6,p7,p8,p9,rV,rW,rX,rY,rZ,r0,r1,r2,r3,r4,r5,r6,r7,r8,r9,sa,sb,sc,sd,se,sf,sg,si,sj,sk,sm,sn,so,sp,sq,sr,q4],[]⟩ wc:=by
 simp only[cd] at aU
 conv=>arg 2;whnf
 go_wp2_with fail
 go_loopw [3,15] (fun s aq B=>∃(k:Nat) (c:Bool),k<=N.outs.length∧aq = .int .i64 k∧s = .bool c∧Hid (c=(rt&&(N.outs.take k).all (mO N)))∧Hid (V I B)) (fun _ aq _=>N.outs.length - (intOf aq).toNat)
 case atStart=>exact⟨0,rt,cE _,rfl,rfl,by show _=_;simp,vj⟩
 case round =>
  obtain⟨k,c,X,rfl,rfl,gC,au⟩:=hrel;have g5:wr.cell? ⟨w.heap.size,5,none⟩=some (.slice S.a5 N.outs.length S.c5):=(au.cell (p:=⟨w.heap.size,5,none⟩) a8).trans (e8 5);have cy:wr.cell? ⟨w.heap.size,1,none⟩=some (.slice S.a1 N.nodes.length S.c1):=(au.cell (p:=⟨w.heap.size,1,none⟩) a8).trans (e8 1);by_cases aB:k<N.outs.length
  ·obtain⟨eE,Cj,bQ,ek,nO⟩:=hU.o.int aB;have fY:wr.cell? ⟨eE,Cj+k,none⟩=some (.int .i64 (bi N.outs k)):=(au.cell (p:=⟨eE,Cj+k,none⟩) (bk ek gE)).trans (nO k aB);have iC:=K (vr aB);rw[bQ] at g5;generalize bi N.outs k=x at fY iC;have fa:(k:Int)<(N.outs.length:Int):=by omega
   have aS:=bF ((k:Int)+1);have bP:Hid ((c&&decide (0<=x∧x<(N.nodes.length:Int)))=(rt&&(N.outs.take (k+1)).all (mO N))):=by show _=_;rw[Fg _ _ k x iC,<-Bool.and_assoc,<-gC.out];rfl
   have jD:c=false∨(c=true∧¬0<=x)∨(c=true∧0<=x∧¬x<(N.nodes.length:Int))∨(c=true∧0<=x∧x<(N.nodes.length:Int)):=by
    cases c
    ·exact .inl rfl
    ·right;by_cases F:0<=x
     ·by_cases O:x<(N.nodes.length:Int)
      ·exact .inr (.inr ⟨rfl,F,O⟩)
      ·exact .inr (.inl ⟨rfl,F,O⟩)
     ·exact .inl ⟨rfl,F⟩
   clear gC iC nO bQ;rcases jD with rfl | ⟨rfl,bY⟩ | ⟨rfl,bY,bK⟩ | ⟨rfl,bY,bK⟩
   ·go_wp2;go_quiet (fail)
    go_wp2;go_roundw
    case measure=>simp[intOf];omega
    exact⟨k+1,_,by omega,by simp,rfl,bP.out,Below.drewN au _⟩
   ·have U:decide (0<=x)=false:=by rw[vf];exact bY
    have ez:Hid (false=(rt&&(N.outs.take (k+1)).all (mO N))):=by show _=_;rw[<-bP.out,decide_eq_false (by omega)];rfl
    clear bP;go_wp2;go_quiet (fail)
    go_wp2;go_roundw
    case measure=>simp[intOf];omega
    exact⟨k+1,_,by omega,by simp,rfl,ez.out,Below.drewN au _⟩
   ·have U:decide (x<(N.nodes.length:Int))=false:=by rw[vf];exact bK
    have ez:Hid (false=(rt&&(N.outs.take (k+1)).all (mO N))):=by show _=_;rw[<-bP.out,decide_eq_false (by omega)];rfl
    clear bP;go_wp2;go_quiet (fail)
    go_wp2;go_roundw
    case measure=>simp[intOf];omega
    exact⟨k+1,_,by omega,by simp,rfl,ez.out,Below.drewN au _⟩
   ·have ez:Hid (true=(rt&&(N.outs.take (k+1)).all (mO N))):=by show _=_;rw[<-bP.out,decide_eq_true ⟨bY,bK⟩];rfl
    clear bP;go_wp2;go_quiet (fail)
    go_wp2;go_roundw
    case measure=>simp[intOf];omega
    exact⟨k+1,_,by omega,by simp,rfl,ez.out,Below.drewN au _⟩
  ·have cQ:¬((k:Int)<(N.outs.length:Int)):=by omega
   have ez:Hid (c=(rt&&N.outs.all (mO N))):=by show _=_;rw[gC.out,fQ (by omega)]
   clear gC;go_wp2;exact dM _ _ ⟨c,rfl,ez.out,au⟩
theorem arH (Y:Nat) (w:World) (S:dp) (N:aR) (h:eM Y w S N) (aM:Y<=w.heap.size) :
  Calls Tryz.prog 6 #[.agg (S.cells N)] w fun e B=>e = .returned (.bool (er N))∧V w B:=by
 have bR:∃r,Hid (r=er N):=⟨_,rfl⟩
 obtain⟨r,bR⟩:=bR;rw[<-bR.out];unfold dp.cells;go_enter Tryz.func6,Tryz.ntmps6
 go_upto_block 0 with fail
 generalize av:w.alloc (.cells #[.slice S.a0 N.ins.length S.c0,.slice S.a1 N.nodes.length S.c1,.slice S.a2 N.regs.length S.c2,.slice S.a3 N.mems.length S.c3,.slice S.a4 N.wrs.length S.c4,.slice S.a5 N.outs.length S.c5] 28)=I;have aD:Hid (V w I):=by rw[<-av];exact(ax _ _).alloc (aL _) _
 have e8:Hid (∀j,I.cell? ⟨w.heap.size,j,none⟩=(#[.slice S.a0 N.ins.length S.c0,.slice S.a1 N.nodes.length S.c1,.slice S.a2 N.regs.length S.c2,.slice S.a3 N.mems.length S.c3,.slice S.a4 N.wrs.length S.c4,.slice S.a5 N.outs.length S.c5]:Array Value)[j]?):=by rw[<-av];intro j;simp
 have hU:Hid (eM Y I S N):=h.to (aD.mono aM);have a8:w.heap.size<I.heap.size:=by rw[<-av];simp
 have gE:Y<=I.heap.size:=bL aM aD.size;have kD:=K h.li;have lI:=K h.lr;have zx:=K h.lm;have KY:=K h.ln;have KZ:=K h.lr;have aqp:=K h.lw;have Oe:=K h.lo;clear av h;refine asz Y w I S N e8 hU a8 gE kD true I (ax _ _) _ _ ?_;intro s w1 Ji yU Sz SA SB SC SD SE LB LC LD LF Jg Jh LG LH wx wy wz hcut;obtain⟨c1,rfl,ajM,aiv⟩:=hcut
 go_upto_block 2 with fail
 refine asA Y w I S N e8 hU a8 gE lI c1 w1 aiv _ _ ?_;intro s w2 GA OU Yz uT uU uW tG tH tI uX uY wA wB wD wE wF wG wH wI xW xX xY xZ x0 wJ wK uZ va vb tJ hcut;obtain⟨c2,rfl,ajN,aiw⟩:=hcut
 go_upto_block 4 with fail
 refine asB Y w I S N e8 hU a8 gE zx c2 w2 aiw _ _ ?_;intro s w3 OV LA tK tL tM tN tO tP tQ tR tS tT tU tV tW tX tY tZ t0 t1 t2 t3 t4 wL wM wN wO wP wQ wR x1 x2 yV x3 x4 x5 x6 x7 hcut;obtain⟨c3,rfl,ajO,aix⟩:=hcut
 go_upto_block 6 with fail
 refine asC Y w I S N e8 hU a8 gE KY c3 w3 aix _ _ ?_;intro s f1 OT x8 x9 wS wT v4 v5 v6 v7 v8 v9 wa wb we hcut;obtain⟨c4,rfl,ajP,aiy⟩:=hcut
 go_upto_block 8 with fail
 refine asD Y w I S N e8 hU a8 gE KZ c4 f1 aiy _ _ ?_;intro s al Ss xQ xR xS xT xU wf wg wh wj wk wm wo wp wq wu wv Su Sv Sw Sx Sy Yl agD agE hcut;obtain⟨c5,rfl,ajQ,aiz⟩:=hcut
 go_upto_block 10 with fail
 refine asE Y w I S N e8 hU a8 gE aqp c5 al aiz _ _ ?_;intro s aH xV uS agF agG agH agI agJ agK Ym Yn Yo Yp Yq Yr Ys Yt Yu Yv Yw Yx Yy agL agM agN agO agP agQ agR agS agT agU agV agW agX agY agZ ag0 ag1 ag2 ag3 ag4 ag5 ag6 ag7 ag8 ag9 aha ahb ahc ahd ahe ahf ahg ahh ahi ahj ahk ahl ahm ahn aho hcut;obtain⟨rt,rfl,ajR,aiA⟩:=hcut
 go_upto_block 12 with fail
 refine asF Y w I S N e8 hU a8 gE Oe rt aH aiA _ _ ?_;intro s dN ww ahp ahq ahr ahs aht ahu ahv ahw ahx ahy ahz ahA ahB ahC ahD ahE ahF ahG ahH ahI ahJ ahK ahL ahM ahN ahO ahP hcut;obtain⟨alj,rfl,ajS,aiB⟩:=hcut;go_wp2;go_ret
 refine⟨ia ?_,aD.trans (aiB.mono aD.size)⟩;rw[bR.out,ajS.out,ajR.out,ajQ.out,ajP.out,ajO.out,ajN.out,ajM.out];rfl
theorem auu (G:eq) (j6:List (List Bool)) (dB:List Bool):∀r,r∈runN G j6 dB->r.length=G.outs.length:=by
 induction j6 generalizing dB with
 | nil=>intro r ak;cases ak
 | cons a t aA =>
  intro r ak;rcases List.mem_cons.1 ak with rfl | ak
  ·unfold zC;simp
  ·exact aA _ r ak
theorem aut {w B:World} {a:Option Addr} {ls:List (List Nat)} (h:Hy w a ls) (D:V w B):Hy B a ls:=fun i l hl=>by
 obtain⟨b,o,v,ad,aB,ar,⟨c,d,L,ak⟩,J⟩:=h i l hl;exact⟨b,o,v,ad,bk aB D.size,(D.cell (p:=⟨b,o+i,none⟩) aB).trans ar,⟨c,d,L,(ak.to D).mono D.size⟩,J⟩
theorem abT (Y:Nat) (w:World) (S:dp) (N:aR) (gV:eM Y w S N) (aM:Y<=w.heap.size) (L:y6 w) (ut:1<=w.heap.size) (aI:N.ins.length<=1048576) (F:N.regs.length<=1048576) (O:N.mems.length<=1048576) (aW:N.wrs.length<=1048576) (cw:N.outs.length<=1048576) (hY:N.nodes.length<=1048576) (mX:∀d,d∈N.nodes->d.args.length<=1048576) (nA:Option Addr) (nB:Nat) (dq:List g2) (eg:z9 Y w nA dq) :
  Calls Tryz.prog 4 #[.agg (S.cells N),.slice nA dq.length nB] w fun e B=>e = .returned (.bool true)∧V w B:=by
 obtain⟨r,bR⟩:∃r,Hid (er N=r):=⟨_,rfl⟩
 have HC:Hid (∀B,V w B->Calls Tryz.prog 6 #[.agg (S.cells N)] B fun e bs=>e = .returned (.bool r)∧V B bs):=fun B aV=>by
  have:=arH Y B S N (gV.to (aV.mono aM)) (bL aM aV.size)
  rw[bR.out] at this;exact this
 have jq:=K L;have f5:=K gV;have jp:=K eg;have aU:=eg.len;have pe:Hid (S.cells N=#[.slice S.a0 N.ins.length S.c0,.slice S.a1 N.nodes.length S.c1,.slice S.a2 N.regs.length S.c2,.slice S.a3 N.mems.length S.c3,.slice S.a4 N.wrs.length S.c4,.slice S.a5 N.outs.length S.c5]):=rfl;rw[pe.out] at HC ⊢
 change Hid _ at mX
 clear L gV eg;go_enter Tryz.func4,Tryz.ntmps4
 go_upto_region 1 with fail
 generalize av:World.alloc w _=I;obtain⟨ab,cR⟩:=cf (w.heap.size);have S9:Hid (V w I):=by rw[<-av];exact(ax _ _).alloc (aL _) _
 have gO:Hid (th I ab S N):=by rw[<-av,cR];exact K4 w S N
 have iu:ab<I.heap.size:=by rw[<-av,cR];simp
 rw[<-cR];clear av cR;have gq:I.cell? ⟨ab,0,none⟩=some (.slice S.a0 N.ins.length S.c0):=((ax I.heap.size I).cell (p:=⟨ab,0,none⟩) iu).trans (gO 0 _ rfl);have cy:I.cell? ⟨ab,1,none⟩=some (.slice S.a1 N.nodes.length S.c1):=((ax I.heap.size I).cell (p:=⟨ab,1,none⟩) iu).trans (gO 1 _ rfl);have eX:I.cell? ⟨ab,2,none⟩=some (.slice S.a2 N.regs.length S.c2):=((ax I.heap.size I).cell (p:=⟨ab,2,none⟩) iu).trans (gO 2 _ rfl);have fH:I.cell? ⟨ab,3,none⟩=some (.slice S.a3 N.mems.length S.c3):=((ax I.heap.size I).cell (p:=⟨ab,3,none⟩) iu).trans (gO 3 _ rfl);have h3:I.cell? ⟨ab,4,none⟩=some (.slice S.a4 N.wrs.length S.c4):=((ax I.heap.size I).cell (p:=⟨ab,4,none⟩) iu).trans (gO 4 _ rfl);have g5:I.cell? ⟨ab,5,none⟩=some (.slice S.a5 N.outs.length S.c5):=((ax I.heap.size I).cell (p:=⟨ab,5,none⟩) iu).trans (gO 5 _ rfl);go_wp2_with fail
 go_at_call 6;refine(HC _ S9).mono ?_;rintro e w1 ⟨rfl,hR⟩;have CQ:=K hR;have ot:Hid (V w w1):=S9.trans (hR.mono S9.size);clear hR HC;clear gq cy eX fH h3 g5;cases r
 ·go_wp2_with fail
  go_ret
  exact⟨rfl,ot⟩
 ·have kJ:Hid (er N=true):=bR.out;have Jq:=K (ak7 Y w1 S N (f5.to (ot.mono aM)) (bL aM ot.size) kJ (jq.to ot ut) (bL ut ot.size) aI F O aW cw hY mX);rw[pe.out] at Jq;have gq:w1.cell? ⟨ab,0,none⟩=some (.slice S.a0 N.ins.length S.c0):=(CQ.cell (p:=⟨ab,0,none⟩) iu).trans (gO 0 _ rfl);have cy:w1.cell? ⟨ab,1,none⟩=some (.slice S.a1 N.nodes.length S.c1):=(CQ.cell (p:=⟨ab,1,none⟩) iu).trans (gO 1 _ rfl);have eX:w1.cell? ⟨ab,2,none⟩=some (.slice S.a2 N.regs.length S.c2):=(CQ.cell (p:=⟨ab,2,none⟩) iu).trans (gO 2 _ rfl);have fH:w1.cell? ⟨ab,3,none⟩=some (.slice S.a3 N.mems.length S.c3):=(CQ.cell (p:=⟨ab,3,none⟩) iu).trans (gO 3 _ rfl);have h3:w1.cell? ⟨ab,4,none⟩=some (.slice S.a4 N.wrs.length S.c4):=(CQ.cell (p:=⟨ab,4,none⟩) iu).trans (gO 4 _ rfl);have g5:w1.cell? ⟨ab,5,none⟩=some (.slice S.a5 N.outs.length S.c5):=(CQ.cell (p:=⟨ab,5,none⟩) iu).trans (gO 5 _ rfl);go_wp2_with fail
  go_at_call 7;refine Jq.mono ?_;rintro e w2 ⟨G,T,c,v,vt,rfl,QC,acI,bH⟩;have cc:=K QC;have Zr:=K acI;have zM:Hid (V I w2):=CQ.trans (bH.mono CQ.size);have t9:Hid (V w w2):=ot.trans (bH.mono ot.size)
  change Hid _ at vt
  clear bH Jq QC acI ot CQ;clear gq cy eX fH h3 g5;unfold jm.cells;go_upto_region 5 with fail
  generalize QL:World.alloc w2 _=aC;obtain⟨E,lh⟩:=cf (w2.heap.size);have JB:Hid (V w2 aC):=by rw[<-QL];exact(ax _ _).alloc (aL _) _
  have ld:Hid (aC.heap[E]?=some (.cells #[.int .i64 G.ins,.slice T.a1 G.lats.length T.c1,.slice T.a2 G.ands.length T.c2,.slice T.a3 G.outs.length T.c3] 38 (0,0))):=by rw[<-QL,lh];exact h8 _ _
  have zj:E<aC.heap.size:=by rw[<-QL,lh];simp
  rw[<-lh];have Pk:Hid (V w aC):=t9.trans (JB.mono t9.size);have Zj:Hid (V I aC):=zM.trans (JB.mono zM.size);have aw4:Hid (V aC aC):=ax _ _;have Ti:Hid (iB aC.heap.size aC T G):=(cc.to JB).mono JB.size;have YV:=K (alJ v c 0 aC (Zr.to JB) (jq.to Pk ut) (bL ut Pk.size));clear QL lh Zr cc JB t9 zM bR;obtain⟨b1,hR⟩:=cf (h4 N.regs+ha N.mems);obtain⟨b2,bH⟩:=cf (ki N N.outs);obtain⟨b3,b8⟩:=cf (Gc N)
  change Hid _ at hR bH b8
  have PP:Hid (∀B,V w B->Calls Tryz.prog 9 #[.agg #[.slice S.a0 N.ins.length S.c0,.slice S.a1 N.nodes.length S.c1,.slice S.a2 N.regs.length S.c2,.slice S.a3 N.mems.length S.c3,.slice S.a4 N.wrs.length S.c4,.slice S.a5 N.outs.length S.c5]] B fun e bs=>e = .returned (.int .i64 (b1:Int))∧V B bs):=fun B aV=>by
   rw[hR.out];exact arB Y B S N (f5.to (aV.mono aM)) (bL aM aV.size) kJ F O
  have T5:Hid (∀B,V w B->Calls Tryz.prog 10 #[.agg #[.slice S.a0 N.ins.length S.c0,.slice S.a1 N.nodes.length S.c1,.slice S.a2 N.regs.length S.c2,.slice S.a3 N.mems.length S.c3,.slice S.a4 N.wrs.length S.c4,.slice S.a5 N.outs.length S.c5]] B fun e bs=>e = .returned (.int .i64 (b2:Int))∧V B bs):=fun B aV=>by
   rw[bH.out];exact arE Y B S N (f5.to (aV.mono aM)) (bL aM aV.size) kJ cw
  have abd:Hid (∀B,V w B->Calls Tryz.prog 11 #[.agg #[.slice S.a0 N.ins.length S.c0,.slice S.a1 N.nodes.length S.c1,.slice S.a2 N.regs.length S.c2,.slice S.a3 N.mems.length S.c3,.slice S.a4 N.wrs.length S.c4,.slice S.a5 N.outs.length S.c5]] B fun e bs=>e = .returned (.int .i64 (b3:Int))∧V B bs):=fun B aV=>by
   rw[b8.out];exact arG Y B S N (f5.to (aV.mono aM)) (bL aM aV.size) kJ hY aW aI mX
  have Km:=vt.out;unfold GL at Km;rw[<-hR.out,<-bH.out,<-b8.out] at Km
  change Hid _ at Km
  clear vt;go_wp2_with fail
  go_at_call 8;refine YV.mono ?_;rintro e w3 ⟨rfl,gW⟩;have ER:Hid (V w w3):=Pk.trans (gW.mono Pk.size);have zL:=K gW;have yZ:Hid (V I w3):=Zj.trans (gW.mono Zj.size);clear gW YV;rcases Km.out with ⟨rA,jR,⟨n,hF,ag⟩,AA⟩ | ⟨rA,ze⟩
  ·clear Km T5 abd;subst rA;have ch:=K hF;obtain⟨eE,ek⟩:=cf (hH N.ins);have Q0:G.ins=(eE:Int):=by rw[ek];exact hF.ins
   have CY:Hid (∀k,hH (N.ins.take k)<=33554432):=RK kJ aI;have aaR:Hid (∀x,x∈N.ins->1<=x∧x<=32):=fun x J=>KW kJ J
   have Y8:Hid (∀B,V aC B->Calls Tryz.prog 12 #[.agg #[.int .i64 (eE:Int),.slice T.a1 G.lats.length T.c1,.slice T.a2 G.ands.length T.c2,.slice T.a3 G.outs.length T.c3]] B fun e bs=>e = .returned (.bool true)∧V B bs):=fun B aV=>by
    have:=am4 aC.heap.size B T G (Ti.to aV) aV.size
    rw[amz hF ag] at this;rw[<-Q0];exact this
   have Y7:Hid (∀B,V aC B->∀a c rows,z8 B a rows->rows.length=dq.length->Calls Tryz.prog 13 #[.agg #[.int .i64 (eE:Int),.slice T.a1 G.lats.length T.c1,.slice T.a2 G.ands.length T.c2,.slice T.a3 G.outs.length T.c3],.slice a dq.length c] B fun e bs=>∃v,∃XP:List g3,e = .returned v∧bs.ownsRow B.heap.size 82 1 v dq.length (XP.map g3.v)∧XP.map g3.l=runN G (rows.map g3.l) (tu G)∧(∀r,r∈XP->iJ bs r.v r.l)∧V B bs):=fun B aV a c rows ak hl=>by
    have:=am3 B.heap.size B T G ((Ti.to aV).mono aV.size) (aL _) (acq hF ag) (amx hF) (amy hF) (amA hF) a c (rows.map g3.tr) (avh ak (by rw[hl];exact aU))
    rw[avj,lb,hl] at this;rw[<-Q0];exact this
   have YS:Hid (∀B,V w B->Calls Tryz.prog 14 #[.slice nA dq.length nB,.slice S.a0 N.ins.length S.c0] B fun e bs=>∃v,∃rows:List g3,e = .returned v∧bs.ownsRow B.heap.size 82 1 v dq.length (rows.map g3.v)∧rows.map g3.l=(dq.map g2.l).map (fun l=>iE l N.ins)∧(∀r,r∈rows->iJ bs r.v r.l)∧V B bs):=fun B aV=>by
    have:=abN B nA nB (dq.map g2.l) (avg (jp.to (aV.mono aM)) (bL aM aV.size)) (by rw[lb];exact aU) S.a0 S.c0 N.ins ((f5.to (aV.mono aM)).i.mono (bL aM aV.size)) (fun x J=>by have:=aaR x J;omega) aI
    rw[lb] at this;exact this
   have abc:Hid (∀B,V w B->Calls Tryz.prog 15 #[.agg #[.slice S.a0 N.ins.length S.c0,.slice S.a1 N.nodes.length S.c1,.slice S.a2 N.regs.length S.c2,.slice S.a3 N.mems.length S.c3,.slice S.a4 N.wrs.length S.c4,.slice S.a5 N.outs.length S.c5],.slice nA dq.length nB] B fun e bs=>∃v,∃rows:List nh,e = .returned v∧bs.ownsRow B.heap.size 33 1 v dq.length (rows.map nh.v)∧rows.map nh.l=tB N (dq.map g2.l) (zv N)∧(∀r,r∈rows->mI bs r.v r.l)∧V B bs):=fun B aV =>
    arF Y B S N (f5.to (aV.mono aM)) (bL aM aV.size) kJ (by omega) nA nB dq (jp.to (aV.mono aM))
   have ajf:Hid (∀l,l∈tB N (dq.map g2.l) (zv N)->∀x,x∈l->x<18446744073709551616):=atz f5 kJ _ (WX f5 kJ);have j1:Hid (∀B,V w B->Calls Tryz.prog 16 #[.agg #[.slice S.a0 N.ins.length S.c0,.slice S.a1 N.nodes.length S.c1,.slice S.a2 N.regs.length S.c2,.slice S.a3 N.mems.length S.c3,.slice S.a4 N.wrs.length S.c4,.slice S.a5 N.outs.length S.c5]] B fun e bs=>∃v,e = .returned v∧bs.ownsRow B.heap.size 3 1 v N.outs.length ((pD N N.outs).map Ci)∧V B bs):=fun B aV =>
    awp Y B S N (f5.to (aV.mono aM)) (bL aM aV.size) kJ cw
   have YT:Hid (∀(B:World) a c (ls:List (List Nat)),Hy B a ls->ls.length=dq.length->∀mA wc,cm B.heap.size B mA 1 ((pD N N.outs).map fun x=>[Ci x])->Calls Tryz.prog 14 #[.slice a dq.length c,.slice mA N.outs.length wc] B fun e bs=>∃v,∃rows:List g3,e = .returned v∧bs.ownsRow B.heap.size 82 1 v dq.length (rows.map g3.v)∧rows.map g3.l=ls.map (fun l=>iE l (pD N N.outs))∧(∀r,r∈rows->iJ bs r.v r.l)∧V B bs):=fun B a c ls ak hl mA wc aw=>by
    have mM:(pD N N.outs).length=N.outs.length:=by unfold pD;simp
    have:=abN B a c ls ak (by rw[hl];exact aU) mA wc (pD N N.outs) aw (awm kJ) (by rw[mM];exact cw)
    rw[hl,mM] at this;exact this
   have xz:=ld.out;rw[Q0] at xz;have qt:∀r:List Bool,r∈runN G ((dq.map g2.l).map fun l=>iE l N.ins) (tu G)->r.length<cd:=fun r ak=>by
    rw[auu G _ _ r ak];have:=hF.lo;unfold cd;omega
   have hN:=K qt;have ayw:¬((6000:Int)<(b1:Int)):=by omega
   change Hid _ at AA ek xz
   clear hF Q0 qt Ti;have kT:w3.cell? ⟨E,0,none⟩=some (.int .i64 (eE:Int)):=(zL.cell (p:=⟨E,0,none⟩) zj).trans (f4 xz);have bY:w3.cell? ⟨E,1,none⟩=some (.slice T.a1 G.lats.length T.c1):=(zL.cell (p:=⟨E,1,none⟩) zj).trans (f4 xz);have bK:w3.cell? ⟨E,2,none⟩=some (.slice T.a2 G.ands.length T.c2):=(zL.cell (p:=⟨E,2,none⟩) zj).trans (f4 xz);have h7:w3.cell? ⟨E,3,none⟩=some (.slice T.a3 G.outs.length T.c3):=(zL.cell (p:=⟨E,3,none⟩) zj).trans (f4 xz);go_wp2_with fail
   go_at_call 12;refine(Y8 _ zL).mono ?_;rintro e f1 ⟨rfl,gW⟩;have yf:Hid (V w f1):=ER.trans (gW.mono ER.size);have yY:Hid (V aC f1):=zL.trans (gW.mono zL.size);have qH:Hid (V I f1):=yZ.trans (gW.mono yZ.size);clear gW Y8;clear kT bY bK h7;have gq:f1.cell? ⟨ab,0,none⟩=some (.slice S.a0 N.ins.length S.c0):=(qH.cell (p:=⟨ab,0,none⟩) iu).trans (gO 0 _ rfl);have cy:f1.cell? ⟨ab,1,none⟩=some (.slice S.a1 N.nodes.length S.c1):=(qH.cell (p:=⟨ab,1,none⟩) iu).trans (gO 1 _ rfl);have eX:f1.cell? ⟨ab,2,none⟩=some (.slice S.a2 N.regs.length S.c2):=(qH.cell (p:=⟨ab,2,none⟩) iu).trans (gO 2 _ rfl);have fH:f1.cell? ⟨ab,3,none⟩=some (.slice S.a3 N.mems.length S.c3):=(qH.cell (p:=⟨ab,3,none⟩) iu).trans (gO 3 _ rfl);have h3:f1.cell? ⟨ab,4,none⟩=some (.slice S.a4 N.wrs.length S.c4):=(qH.cell (p:=⟨ab,4,none⟩) iu).trans (gO 4 _ rfl);have g5:f1.cell? ⟨ab,5,none⟩=some (.slice S.a5 N.outs.length S.c5):=(qH.cell (p:=⟨ab,5,none⟩) iu).trans (gO 5 _ rfl);have kT:f1.cell? ⟨E,0,none⟩=some (.int .i64 (eE:Int)):=(yY.cell (p:=⟨E,0,none⟩) zj).trans (f4 xz);have bY:f1.cell? ⟨E,1,none⟩=some (.slice T.a1 G.lats.length T.c1):=(yY.cell (p:=⟨E,1,none⟩) zj).trans (f4 xz);have bK:f1.cell? ⟨E,2,none⟩=some (.slice T.a2 G.ands.length T.c2):=(yY.cell (p:=⟨E,2,none⟩) zj).trans (f4 xz);have h7:f1.cell? ⟨E,3,none⟩=some (.slice T.a3 G.outs.length T.c3):=(yY.cell (p:=⟨E,3,none⟩) zj).trans (f4 xz);go_wp2_with fail
   go_loopw [11,12] (fun o5 aq B=>∃(k:Nat),k<=N.ins.length∧aq = .int .i64 k∧o5 = .int .i64 ((hH (N.ins.take k):Nat):Int)∧f1=B) (fun _ aq _=>N.ins.length - (intOf aq).toNat)
   case atStart=>exact⟨0,cE _,rfl,rfl,rfl⟩
   case round =>
    obtain⟨k,X,rfl,rfl,rfl⟩:=hrel;by_cases aB:k<N.ins.length
    ·obtain⟨x,J⟩:=bS aB;obtain⟨bG,ck,kr,gK,cx⟩:=(f5.to (yf.mono aM)).i.el J;have c0:=cx 0 _ rfl;have sU:=aaR x (bn J);have bW:=K (aeH J);have fG:=CY k;generalize hH (N.ins.take k)=hb at *;have fa:(k:Int)<(N.ins.length:Int):=by omega
     have bM:=bF ((k:Int)+1);obtain⟨wd,dg⟩:∃m:Nat,x=(m:Int):=⟨x.toNat,by omega⟩
     rw[Nat.mul_one,Nat.add_zero,dg] at c0;rw[dg] at sU bW;have lg:=bF ((hb:Int)+(wd:Int));rw[kr] at gq;clear J cx dg;go_wp2;go_roundw
     case measure=>simp[intOf];omega
     exact⟨k+1,by omega,by simp,by rw[bW.out];simp,by first | trivial | rfl⟩
    ·have cQ:¬((k:Int)<(N.ins.length:Int)):=by omega
     have hB:hH (N.ins.take k)=eE:=by rw[fQ (by omega)];exact ek.symm
     rw[hB];clear hB;go_wp2_with fail
     go_at_call 9;refine(PP _ yf).mono ?_;rintro e al ⟨rfl,gW⟩;have zO:Hid (V w al):=yf.trans (gW.mono yf.size);have Bv:Hid (V aC al):=yY.trans (gW.mono yY.size);have t8:Hid (V I al):=qH.trans (gW.mono qH.size);clear gW PP;clear kT bY bK h7;clear gq cy eX fH h3 g5;go_upto_region 16 with fail
     have ox:Hid (∀B:World,V al B->B.cell? ⟨ab,0,none⟩=some (.slice S.a0 N.ins.length S.c0)∧B.cell? ⟨E,0,none⟩=some (.int .i64 (eE:Int))∧B.cell? ⟨E,1,none⟩=some (.slice T.a1 G.lats.length T.c1)∧B.cell? ⟨E,2,none⟩=some (.slice T.a2 G.ands.length T.c2)∧B.cell? ⟨E,3,none⟩=some (.slice T.a3 G.outs.length T.c3)):=fun B D=>by
      have F:=t8.trans (D.mono t8.size);have O:=Bv.trans (D.mono Bv.size);exact⟨(F.cell (p:=⟨ab,0,none⟩) iu).trans (gO 0 _ rfl),(O.cell (p:=⟨E,0,none⟩) zj).trans (f4 xz),(O.cell (p:=⟨E,1,none⟩) zj).trans (f4 xz),(O.cell (p:=⟨E,2,none⟩) zj).trans (f4 xz),(O.cell (p:=⟨E,3,none⟩) zj).trans (f4 xz)⟩
     refine mR ?_;refine ih (S:=(fun B=>B.cell? ⟨ab,0,none⟩=some (.slice S.a0 N.ins.length S.c0)∧B.cell? ⟨E,0,none⟩=some (.int .i64 (eE:Int))∧B.cell? ⟨E,1,none⟩=some (.slice T.a1 G.lats.length T.c1)∧B.cell? ⟨E,2,none⟩=some (.slice T.a2 G.ands.length T.c2)∧B.cell? ⟨E,3,none⟩=some (.slice T.a3 G.outs.length T.c3))) (by kernel_rfl) (by first | exact ox _ iK | exact ox _ (Below.drew (ax _ _)) | exact ox _ (ax _ _)) (fun ii=>?_);refine R 0 ?_;refine R 1 ?_;refine R 2 ?_;refine R 3 ?_;refine rd 4 fun aj W=>?_
     (try simp only[bf,bg,bh]);go_simp;go_at_call 14;refine(YS _ (zO.trans b7)).mono ?_;rintro e aH ⟨Bs,ra,rfl,Cb,Q7,ac3,Dw⟩;have iK:V al aH:=Ad (a:=al) b7 Dw;have Zn:Hid (V w aH):=zO.trans (iK.mono zO.size);have Zi:Hid (V aC aH):=Bv.trans (iK.mono Bv.size);have ais:Hid (V I aH):=t8.trans (iK.mono t8.size);obtain⟨aa,es,KQ,Rt,jT⟩:=XQ Cb ac3;subst KQ
     change Hid _ at Rt Q7
     clear Cb ac3 Dw;go_wp2_with fail
     go_wp2_with fail
     refine W.out _ _ (by first | exact ox _ iK | exact ox _ (Below.drew (ax _ _)) | exact ox _ (ax _ _)) (fun oC=>?_);clear W aj;try simp only[Act.put,mP,mh,mi]
     refine rd 5 fun aj W=>?_
     (try simp only[bf,bg,bh]);go_simp;go_at_call 13;refine(Y7 _ Zi aa es ra Rt jT).mono ?_;rintro e dN ⟨gs,bG,rfl,qt,pr,f0,Vy⟩;have iK:V al dN:=Ad (a:=al) iK Vy;have GW:Hid (V w dN):=zO.trans (iK.mono zO.size);have JD:Hid (V aC dN):=Bv.trans (iK.mono Bv.size);have EQ:Hid (V I dN):=t8.trans (iK.mono t8.size);obtain⟨bJ,a7,o1,gK,cR⟩:=XQ qt f0;subst o1;have mU:=K gK
     change Hid _ at pr
     clear qt f0 gK Vy;go_wp2_with fail
     go_wp2_with fail
     refine W.out _ _ (by first | exact ox _ iK | exact ox _ (Below.drew (ax _ _)) | exact ox _ (ax _ _)) (fun Ko=>?_);clear W aj;try simp only[Act.put,mP,mh,mi]
     refine R 6 ?_;refine gn (by kernel_rfl) ?_ _;refine j8 ?_;clear ox iK YS Y7;go_upto_region 17 with fail
     have ox:Hid (∀B:World,V dN B->B.cell? ⟨ab,0,none⟩=some (.slice S.a0 N.ins.length S.c0)∧B.cell? ⟨ab,1,none⟩=some (.slice S.a1 N.nodes.length S.c1)∧B.cell? ⟨ab,2,none⟩=some (.slice S.a2 N.regs.length S.c2)∧B.cell? ⟨ab,3,none⟩=some (.slice S.a3 N.mems.length S.c3)∧B.cell? ⟨ab,4,none⟩=some (.slice S.a4 N.wrs.length S.c4)∧B.cell? ⟨ab,5,none⟩=some (.slice S.a5 N.outs.length S.c5)):=fun B D=>by
      have F:=EQ.trans (D.mono EQ.size);exact⟨(F.cell (p:=⟨ab,0,none⟩) iu).trans (gO 0 _ rfl),(F.cell (p:=⟨ab,1,none⟩) iu).trans (gO 1 _ rfl),(F.cell (p:=⟨ab,2,none⟩) iu).trans (gO 2 _ rfl),(F.cell (p:=⟨ab,3,none⟩) iu).trans (gO 3 _ rfl),(F.cell (p:=⟨ab,4,none⟩) iu).trans (gO 4 _ rfl),(F.cell (p:=⟨ab,5,none⟩) iu).trans (gO 5 _ rfl)⟩
     refine mR ?_;refine ih (S:=(fun B=>B.cell? ⟨ab,0,none⟩=some (.slice S.a0 N.ins.length S.c0)∧B.cell? ⟨ab,1,none⟩=some (.slice S.a1 N.nodes.length S.c1)∧B.cell? ⟨ab,2,none⟩=some (.slice S.a2 N.regs.length S.c2)∧B.cell? ⟨ab,3,none⟩=some (.slice S.a3 N.mems.length S.c3)∧B.cell? ⟨ab,4,none⟩=some (.slice S.a4 N.wrs.length S.c4)∧B.cell? ⟨ab,5,none⟩=some (.slice S.a5 N.outs.length S.c5))) (by kernel_rfl) (by first | exact ox _ iK | exact ox _ (Below.drew (ax _ _)) | exact ox _ (ax _ _)) (fun ii=>?_);refine R 0 ?_;refine R 1 ?_;refine R 3 ?_;refine rd 2 fun aj W=>?_
     (try simp only[bf,bg,bh]);go_simp;go_at_call 15;refine(abc _ (GW.trans b7)).mono ?_;rintro e g0 ⟨vd,auq,rfl,kf,NG,zf,nn⟩;have iK:V dN g0:=Ad (a:=dN) b7 nn;have aiE:Hid (V w g0):=GW.trans (iK.mono GW.size);have aw5:Hid (V aC g0):=JD.trans (iK.mono JD.size);have aw8:Hid (V I g0):=EQ.trans (iK.mono EQ.size);obtain⟨Df,alG,rL,NV,KK⟩:=aus kf zf (fun r ak x J=>ajf r.l (by rw[<-NG];exact i6.2 ⟨r,ak,rfl⟩) x J);subst rL;have aat:Hid (z8 g0 bJ bG):=mU.to iK
     change Hid _ at NV NG
     clear kf zf nn mU;go_wp2_with fail
     go_wp2_with fail
     refine W.out _ _ (by first | exact ox _ iK | exact ox _ (Below.drew (ax _ _)) | exact ox _ (ax _ _)) (fun oC=>?_);clear W aj;try simp only[Act.put,mP,mh,mi]
     refine rd 4 fun aj W=>?_
     (try simp only[bf,bg,bh]);go_simp;go_at_call 16;refine(j1 _ aiE).mono ?_;rintro e gH ⟨YB,rfl,how,QR⟩;have aay:Hid (Hy gH Df (auq.map nh.l)):=aut NV QR;have aau:Hid (z8 gH bJ bG):=aat.to QR;have iK:V dN gH:=Ad (a:=dN) iK QR;have axb:Hid (V w gH):=GW.trans (iK.mono GW.size);have aw6:Hid (V aC gH):=JD.trans (iK.mono JD.size);have aw9:Hid (V I gH):=EQ.trans (iK.mono EQ.size);obtain⟨-,ee,ca,zn,qw⟩:=s0 how;subst zn
     change Hid _ at qw
     clear how QR NV aat;go_wp2_with fail
     go_wp2_with fail
     refine W.out _ _ (by first | exact ox _ iK | exact ox _ (Below.drew (ax _ _)) | exact ox _ (ax _ _)) (fun Ko=>?_);clear W aj;try simp only[Act.put,mP,mh,mi]
     refine rd 5 fun aj W=>?_
     (try simp only[bf,bg,bh]);go_simp;go_at_call 14;refine(YT _ Df alG _ aay (by simpa using KK) ee ca qw).mono ?_;rintro e eQ ⟨Jj,OC,rfl,nP,qX,Nq,Ky⟩;have ajp:Hid (z8 eQ bJ bG):=aau.to Ky;have iK:V dN eQ:=Ad (a:=dN) iK Ky;have aiF:Hid (V w eQ):=GW.trans (iK.mono GW.size);have aw7:Hid (V aC eQ):=JD.trans (iK.mono JD.size);have axa:Hid (V I eQ):=EQ.trans (iK.mono EQ.size);obtain⟨ac,oA,KR,cx,mc⟩:=XQ nP Nq;subst KR
     change Hid _ at cx qX
     clear nP Nq Ky aau aay qw;go_wp2_with fail
     go_wp2_with fail
     refine W.out _ _ (by first | exact ox _ iK | exact ox _ (Below.drew (ax _ _)) | exact ox _ (ax _ _)) (fun acK=>?_);clear W aj;try simp only[Act.put,mP,mh,mi]
     refine R 6 ?_;refine gn (by kernel_rfl) ?_ _;refine j8 ?_;clear ox iK abc j1 YT;have akh:Hid (Calls Tryz.prog 17 #[.slice bJ dq.length a7,.slice ac dq.length oA] eQ fun e B=>e = .returned (.bool true)∧∃q,B=eQ.drewN q) :=
      auz eQ bJ ac a7 oA bG OC dq.length cR mc (by unfold cd;omega) ajp cx (by
       show _=_;rw[pr.out,Q7.out,AA.out,qX.out,NG.out]) (fun r ak=>hN r.l (by
       rw[<-Q7.out,<-pr.out];exact i6.2 ⟨r,ak,rfl⟩))
     go_wp2_with fail
     go_at_call 17;refine akh.mono ?_;rintro e gH ⟨rfl,q,rfl⟩;go_wp2_with fail
     go_ret
     exact⟨rfl,Below.drewN aiF _⟩
  ·subst rA;clear Km;have gq:w3.cell? ⟨ab,0,none⟩=some (.slice S.a0 N.ins.length S.c0):=(yZ.cell (p:=⟨ab,0,none⟩) iu).trans (gO 0 _ rfl);have cy:w3.cell? ⟨ab,1,none⟩=some (.slice S.a1 N.nodes.length S.c1):=(yZ.cell (p:=⟨ab,1,none⟩) iu).trans (gO 1 _ rfl);have eX:w3.cell? ⟨ab,2,none⟩=some (.slice S.a2 N.regs.length S.c2):=(yZ.cell (p:=⟨ab,2,none⟩) iu).trans (gO 2 _ rfl);have fH:w3.cell? ⟨ab,3,none⟩=some (.slice S.a3 N.mems.length S.c3):=(yZ.cell (p:=⟨ab,3,none⟩) iu).trans (gO 3 _ rfl);have h3:w3.cell? ⟨ab,4,none⟩=some (.slice S.a4 N.wrs.length S.c4):=(yZ.cell (p:=⟨ab,4,none⟩) iu).trans (gO 4 _ rfl);have g5:w3.cell? ⟨ab,5,none⟩=some (.slice S.a5 N.outs.length S.c5):=(yZ.cell (p:=⟨ab,5,none⟩) iu).trans (gO 5 _ rfl);by_cases a1:6000<b1
   ·have IA:(6000:Int)<(b1:Int):=by omega
    go_wp2_with fail
    go_at_call 9;refine(PP _ ER).mono ?_;rintro e f1 ⟨rfl,gW⟩;have yf:Hid (V w f1):=ER.trans (gW.mono ER.size);have yY:Hid (V aC f1):=zL.trans (gW.mono zL.size);have qH:Hid (V I f1):=yZ.trans (gW.mono yZ.size);clear gW;go_wp2_with fail
    go_ret
    exact⟨rfl,yf⟩
   ·have IA:¬((6000:Int)<(b1:Int)):=by omega
    go_wp2_with fail
    go_at_call 9;refine(PP _ ER).mono ?_;rintro e f1 ⟨rfl,gW⟩;have yf:Hid (V w f1):=ER.trans (gW.mono ER.size);have yY:Hid (V aC f1):=zL.trans (gW.mono zL.size);have qH:Hid (V I f1):=yZ.trans (gW.mono yZ.size);clear gW;clear gq cy eX fH h3 g5;have gq:f1.cell? ⟨ab,0,none⟩=some (.slice S.a0 N.ins.length S.c0):=(qH.cell (p:=⟨ab,0,none⟩) iu).trans (gO 0 _ rfl);have cy:f1.cell? ⟨ab,1,none⟩=some (.slice S.a1 N.nodes.length S.c1):=(qH.cell (p:=⟨ab,1,none⟩) iu).trans (gO 1 _ rfl);have eX:f1.cell? ⟨ab,2,none⟩=some (.slice S.a2 N.regs.length S.c2):=(qH.cell (p:=⟨ab,2,none⟩) iu).trans (gO 2 _ rfl);have fH:f1.cell? ⟨ab,3,none⟩=some (.slice S.a3 N.mems.length S.c3):=(qH.cell (p:=⟨ab,3,none⟩) iu).trans (gO 3 _ rfl);have h3:f1.cell? ⟨ab,4,none⟩=some (.slice S.a4 N.wrs.length S.c4):=(qH.cell (p:=⟨ab,4,none⟩) iu).trans (gO 4 _ rfl);have g5:f1.cell? ⟨ab,5,none⟩=some (.slice S.a5 N.outs.length S.c5):=(qH.cell (p:=⟨ab,5,none⟩) iu).trans (gO 5 _ rfl);by_cases a2:60000<b2
    ·have lH:(60000:Int)<(b2:Int):=by omega
     go_wp2_with fail
     go_at_call 10;refine(T5 _ yf).mono ?_;rintro e al ⟨rfl,gW⟩;have zO:Hid (V w al):=yf.trans (gW.mono yf.size);have Bv:Hid (V aC al):=yY.trans (gW.mono yY.size);have t8:Hid (V I al):=qH.trans (gW.mono qH.size);clear gW;go_wp2_with fail
     go_ret
     exact⟨rfl,zO⟩
    ·have lH:¬((60000:Int)<(b2:Int)):=by omega
     have ev:(54000:Int)<(b3:Int):=by omega
     go_wp2_with fail
     go_at_call 10;refine(T5 _ yf).mono ?_;rintro e al ⟨rfl,gW⟩;have zO:Hid (V w al):=yf.trans (gW.mono yf.size);have Bv:Hid (V aC al):=yY.trans (gW.mono yY.size);have t8:Hid (V I al):=qH.trans (gW.mono qH.size);clear gW;clear gq cy eX fH h3 g5;have gq:al.cell? ⟨ab,0,none⟩=some (.slice S.a0 N.ins.length S.c0):=(t8.cell (p:=⟨ab,0,none⟩) iu).trans (gO 0 _ rfl);have cy:al.cell? ⟨ab,1,none⟩=some (.slice S.a1 N.nodes.length S.c1):=(t8.cell (p:=⟨ab,1,none⟩) iu).trans (gO 1 _ rfl);have eX:al.cell? ⟨ab,2,none⟩=some (.slice S.a2 N.regs.length S.c2):=(t8.cell (p:=⟨ab,2,none⟩) iu).trans (gO 2 _ rfl);have fH:al.cell? ⟨ab,3,none⟩=some (.slice S.a3 N.mems.length S.c3):=(t8.cell (p:=⟨ab,3,none⟩) iu).trans (gO 3 _ rfl);have h3:al.cell? ⟨ab,4,none⟩=some (.slice S.a4 N.wrs.length S.c4):=(t8.cell (p:=⟨ab,4,none⟩) iu).trans (gO 4 _ rfl);have g5:al.cell? ⟨ab,5,none⟩=some (.slice S.a5 N.outs.length S.c5):=(t8.cell (p:=⟨ab,5,none⟩) iu).trans (gO 5 _ rfl);go_wp2_with fail
     go_at_call 11;refine(abd _ zO).mono ?_;rintro e aH ⟨rfl,gW⟩;have Zn:Hid (V w aH):=zO.trans (gW.mono zO.size);have Zi:Hid (V aC aH):=Bv.trans (gW.mono Bv.size);have ais:Hid (V I aH):=t8.trans (gW.mono t8.size);clear gW;go_wp2_with fail
     go_ret
     exact⟨rfl,Zn⟩
end Go.Proofs.YtcbcenfjigcfkaaGreatDoor
