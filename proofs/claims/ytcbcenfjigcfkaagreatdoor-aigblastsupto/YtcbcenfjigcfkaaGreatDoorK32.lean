import Derived.Test.YtcbcenfjigcfkaaGreatDoorK31
import Derived.Deep.LoopGhost
set_option maxRecDepth 100000
set_option maxHeartbeats 40000000
namespace Go.Proofs.YtcbcenfjigcfkaaGreatDoor
open Go.RowKit
variable {B w:World} {C Y e gx n v x:Nat} {a:Option Addr} {gQ row:List Nat} {nd need:List Bool} {r:Option Nat} {xs:List Value}
theorem jy.below {aC:World} (h:jy gQ aC w) (eu:C<=aC.heap.size) (D:∀b,b∈gQ->C<=b):Below C aC w :=
 ⟨h.os,h.tape,h.output,h.size,fun k X=>h.block k (bk X eu) (fun ae=>by have:=D k ae;omega)⟩
theorem jy.wide {cs:List Nat} {a b:World} (h:jy gQ a b) (hs:∀x,x∈gQ->x∈cs):jy cs a b:=⟨h.os,h.tape,h.output,h.size,fun k X ak=>h.block k X (fun ae=>ak (hs k ae))⟩
theorem jy.grown {aC:World} (h:jy gQ aC w) (af:w.grownBy B r) (ak:∀x,r=some x->x∈gQ∨aC.heap.size<=x):jy gQ aC B :=
 ⟨af.os.trans h.os,af.tape.trans h.tape,af.output.trans h.output,bL h.size af.size,fun k X ag=>(af.block k (bk X h.size) (fun e=>by
  rcases ak k e.symm with J | J
  ·exact ag J
  ·omega)).trans (h.block k X ag)⟩
theorem am7 (w:World) (o:Obj) (r:Option Nat):w.grownBy (w.alloc o) r:=⟨rfl,rfl,rfl,by simp,fun k X _=>by unfold World.alloc;simp only[Array.getElem?_push];rw[if_neg (by omega)]⟩
theorem cm.grown {kS:List (List Value)} (h:cm Y w a gx kS) (af:w.grownBy B r) (cb:∀b o,a=some ⟨b,o,none⟩->r≠some b):cm Y B a gx kS:=fun ay=>by
 obtain⟨b,o,ad,aB,ar⟩:=h ay;exact⟨b,o,ad,aB,fun i cs F j x O=>af.cell (ar i cs F j x O) (by intro e;exact cb b o ad e.symm)⟩
theorem mG.mono {EM:Nat} {ms:List fF} (h:mG C w ms) (ar:EM<=C):mG EM w ms:=⟨fun m ae=>xN (h.own m ae) ar,h.apart⟩
theorem mG.kept {ms:List fF} (h:mG C w ms) (af:w.grownBy B r) (ak:∀m,m∈ms->r≠some m.b):mG C B ms:=⟨fun m ae=>(h.own m ae).kept af (.inr (fun e=>ak m ae e.symm)),h.apart⟩
theorem XB {m c:Nat} (h:w.ownsRow C e 1 (.slice a m c) n xs) (J:Value.ownBlock (.slice a m c)=some x):a=some ⟨x,0,none⟩:=by
 rcases h.2 with ⟨d9,_⟩ | ⟨g,cap,hV,d9,_⟩
 ·simp only[Value.slice.injEq] at d9;rw[d9.1] at J;cases J
 ·simp only[Value.slice.injEq] at d9;rw[d9.1] at J ⊢;cases J;rfl
theorem avM (am:List Nat) (l:List jz) (ms:List fF):(l.foldl (m8 am) ms).map fF.val=ms.map fF.val:=by
 obtain⟨F,O⟩:=UT am l ms;apply List.ext_getElem?;intro i;have bp:=congrArg (fun l=>l[i]?) F;have aS:=congrArg (fun l=>l[i]?) O;simp only[List.getElem?_map] at bp aS ⊢;cases ad:(l.foldl (m8 am) ms)[i]? with
 | none =>
  cases D:ms[i]? with
  | none=>rfl
  | some b=>rw[ad,D] at bp;simp at bp
 | some a =>
  cases D:ms[i]? with
  | none=>rw[ad,D] at bp;simp at bp
  | some b =>
   rw[ad,D] at bp aS;simp only[Option.map_some,Option.some.injEq] at bp aS ⊢;unfold fF.val;rw[bp,aS]
theorem mI.oth {v:Value} {l:List Nat} (h:mI w v l) (aY:jy gQ w B) (ag:∀x,v.ownBlock=some x->x∉gQ):mI B v l:=by
 rcases h with h | ⟨b,o,c,rfl,aB,ar⟩
 ·exact .inl h
 ·exact .inr ⟨b,o,c,rfl,bk aB aY.size,fun i x J=>(aY.cell (p:=⟨b,o+i,none⟩) aB (ag b rfl)).trans (ar i x J)⟩
structure z9 (Y:Nat) (w:World) (a:Option Addr) (dq:List g2):Prop where
 row:cm Y w a 1 (dq.map g2.cells)
 each:∀t,t∈dq->cm Y w t.a 1 (t.l.map k6)∧t.l.length<cd∧∀x,x∈t.l->x<18446744073709551616
 len:dq.length<=5864062014805
theorem z9.to {dq:List g2} (h:z9 Y w a dq) (D:Below Y w B):z9 Y B a dq:=⟨h.row.to D,fun t eg=>⟨(h.each t eg).1.to D,(h.each t eg).2⟩,h.len⟩
def fF.md (m:fF):g2:=⟨some ⟨m.b,0,none⟩,m.l.length,m.l⟩
theorem ae8 (ms:List fF):(ms.map fF.md).map g2.l=ms.map fF.l:=by rw[List.map_map];rfl
theorem aq2 (ms:List fF):(ms.map fF.md).map g2.cells=ms.map fun m=>[m.val]:=by rw[List.map_map];rfl
theorem arf {ms:List fF} {iR:Option Addr} (h:mG C w ms) (ak:cm w.heap.size w iR 1 (ms.map fun m=>[m.val])) (oY:∀m,m∈ms->m.l.length<cd):Hq w.heap.size w iR (ms.map fF.md):=by
 refine⟨by rw[aq2];exact ak,fun m ae=>?_⟩;obtain⟨x,J,rfl⟩:=i6.1 ae;have aY:=h.own x J;obtain⟨-,ee,ca,L,nR⟩:=s0 (g:=ib) aY;have e:some (⟨x.b,0,none⟩:Addr)=ee:=by
  have:x.val = .slice (some ⟨x.b,0,none⟩) x.l.length x.l.length:=rfl
  rw[this] at L;cases L;rfl
 refine⟨?_,oY x J⟩;show cm _ _ (some ⟨x.b,0,none⟩) 1 (x.l.map k6);rw[e];exact nR
theorem arF (Y:Nat) (w:World) (S:dp) (N:aR) (h:eM Y w S N) (aM:Y<=w.heap.size) (aG:er N=true) (rF:N.mems.length<=8796093022208) (nA:Option Addr) (nB:Nat) (dq:List g2) (eg:z9 Y w nA dq) :
  Calls Tryz.prog 15 #[.agg (S.cells N),.slice nA dq.length nB] w fun e B=>∃v,∃rows:List nh,e = .returned v∧B.ownsRow w.heap.size 33 1 v dq.length (rows.map nh.v)∧rows.map nh.l=tB N (dq.map g2.l) (zv N)∧(∀r,r∈rows->mI B r.v r.l)∧V w B:=by
 have P:=q1 aG;have PC:Hid (∀j6,xj N (zG N (zv N) j6)):=fun j6=>auM h aG j6 (WX h aG)
 have gg:=K h;have aaL:=K eg;have cl:=K P;have aU:=eg.len;have lI:=h.lr;have KY:=h.lw;have KZ:=h.lo;simp only[cd] at lI KY KZ
 change Hid _ at aG
 clear h eg P;obtain⟨WT,Ny,N9,NW,Np⟩:=aeF
 change Hid _ at Ny N9 NW Np
 obtain⟨mg,uf⟩:∃s,Hid (zv N=s):=⟨_,rfl⟩
 have ajx:Hid (mg.r=KV N):=by show _=_;rw[<-uf.out];rfl
 have ajw:Hid (mg.m=Od N):=by show _=_;rw[<-uf.out];rfl
 rw[uf.out] at PC ⊢;unfold dp.cells;go_enter Tryz.func15,Tryz.ntmps15
 go_upto_block 0 with fail
 generalize av:World.alloc w _=I;have aD:Hid (V w I):=by rw[<-av];exact(ax _ _).alloc (aL _) _
 have e8:Hid (∀j,I.cell? ⟨w.heap.size,j,none⟩=(#[.slice S.a0 N.ins.length S.c0,.slice S.a1 N.nodes.length S.c1,.slice S.a2 N.regs.length S.c2,.slice S.a3 N.mems.length S.c3,.slice S.a4 N.wrs.length S.c4,.slice S.a5 N.outs.length S.c5]:Array Value)[j]?):=by rw[<-av];intro j;simp
 have a8:w.heap.size<I.heap.size:=by rw[<-av];simp
 have gE:Y<=I.heap.size:=bL aM aD.size;have hU:=K ((gg.to (aD.mono aM)).mono gE);clear av;refine asn I I N w.heap.size S.a2 S.c2 (e8 2) a8 hU.r (fun z ao=>(gg.ra z ao).1) lI (ax _ _) _ _ ?_;intro w1 uP Gz Le Lf Lg Lh Li Gm Gn Gp Gq Cv Cw Gr Gs Lj Lk Ll hcut;obtain⟨Wg,hR⟩:=hcut;have bD:=K hR;obtain⟨-,kw,kx,apb,-⟩:=s0 (g:=ib) Wg;subst apb;have Mo:=K Wg;have Fy:=bD.size;clear Wg hR
 go_upto_block 2 with fail
 refine asi w1 N w.heap.size S.a3 S.c3 ((bD.cell (p:=⟨w.heap.size,3,none⟩) a8).trans (e8 3)) (bk a8 Fy) ((hU.m.to bD).mono Fy) (fun z ao=>(cl.mem z ao).2) rF _ _ ?_;intro aC rS Si Gt Gu Gv Cx Cy Cz Gw Gy Lm Ln Lo Lp Lq Lr Ls Lt Lu hcut;obtain⟨ms,V4,adE,Wf,aei,bH⟩:=hcut;obtain⟨-,iR,lf,FS,-⟩:=s0 (g:=fF.val) Wf;subst FS;have Ts:=K adE;have ud:=K Wf;have cg:=K bH;have ai4:Hid (ms.map fF.l=mg.m):=by show _=_;rw[ajw.out];exact V4
 have NK:ms.length=N.mems.length:=by have:=congrArg List.length V4;simpa using this
 have U2:=cg.size;obtain⟨gQ,S6⟩:∃gQ,Hid (ms.map fF.b=gQ):=⟨_,rfl⟩
 have yX:Hid (∀b,b∈gQ->w1.heap.size<=b∧b<aC.heap.size):=by
  intro b D;rw[<-S6.out] at D;obtain⟨m,ae,rfl⟩:=i6.1 D;exact(Ts.own m ae).lt m.b rfl
 have C0:Hid (∀b o,iR=some ⟨b,o,none⟩->b∉gQ∧w1.heap.size<=b∧b<aC.heap.size):=by
  intro b o e;subst e;refine⟨fun D=>?_,ud.lt b rfl⟩;rw[<-S6.out] at D;obtain⟨m,ae,rfl⟩:=i6.1 D;exact aei m ae rfl
 have mU:Hid (∀x,Value.ownBlock (.slice kw N.regs.length kx)=some x->I.heap.size<=x∧x<w1.heap.size):=fun x J=>Mo.lt x J
 obtain⟨La,TI⟩:∃l,Hid ((Value.ownBlock (.slice kw N.regs.length kx)).toList++gQ=l):=⟨_,rfl⟩
 have yk:Hid (∀b,b∈La->I.heap.size<=b∧b<aC.heap.size):=by
  intro b D;rw[<-TI.out] at D;rcases o7.1 D with D | D
  ·have:=mU b (Option.mem_toList.1 D)
   omega
  ·have:=yX b D
   omega
 have fE:Hid (V I aC):=bD.trans (cg.mono Fy);have E2:Hid (aC.ownsRow I.heap.size 32 1 (.slice kw N.regs.length kx) N.regs.length (mg.r.map ib)):=by rw[ajx.out];exact mx Mo cg
 have w8:Hid (aC.ownsRow I.heap.size 33 1 (.slice iR N.mems.length lf) N.mems.length (ms.map fF.val)):=xN ud Fy;have EW:Hid (mG I.heap.size aC ms):=Ts.mono Fy;clear V4 adE Wf aei bH Ts ud Mo;go_wp2_with fail
 go_loopw [9,10] (fun out aq B=>∃(k:Nat) (rows:List nh) (g4:List fF),k<=dq.length∧aq = .int .i64 k∧Hid (g4.map fF.b=gQ)∧Hid (g4.map fF.l=(zG N mg ((dq.take k).map g2.l)).m)∧Hid (mG I.heap.size B g4)∧Hid (B.ownsRow I.heap.size 32 1 (.slice kw N.regs.length kx) N.regs.length ((zG N mg ((dq.take k).map g2.l)).r.map ib))∧Hid (B.ownsRow I.heap.size 33 1 (.slice iR N.mems.length lf) N.mems.length (g4.map fF.val))∧Hid (B.ownsRow aC.heap.size 33 1 out k (rows.map nh.v))∧Hid (rows.map nh.l=tB N ((dq.take k).map g2.l) mg)∧Hid (∀q,q∈rows->mI B q.v q.l∧zK out q.v∧∀x,q.v.ownBlock=some x->aC.heap.size<=x)∧Hid (jy La aC B)) (fun _ aq _=>dq.length - (intOf aq).toNat)
 case atStart=>exact⟨0,[],ms,cE _,rfl,S6.out,ai4.out,EW.out,E2.out,w8.out,k8 _ _ _ _,rfl,fun q aJ=>(by simp at aJ),jy.refl _ _⟩
 case round =>
  obtain⟨k,rows,g4,X,rfl,CW,Pq,Tl,ZQ,Tm,a6,Pz,yl,xa⟩:=hrel;have rc:Hid (V I wr):=fE.trans (xa.below (bL Fy U2) (fun b D=>(yk b D).1));have sy:Hid (V w wr):=aD.trans (rc.mono aD.size);have ayp:=xa.size;have Am:w.heap.size<wr.heap.size:=by omega
  have gq:wr.cell? ⟨w.heap.size,0,none⟩=some (.slice S.a0 N.ins.length S.c0):=(rc.cell (p:=⟨w.heap.size,0,none⟩) a8).trans (e8 0);have cy:wr.cell? ⟨w.heap.size,1,none⟩=some (.slice S.a1 N.nodes.length S.c1):=(rc.cell (p:=⟨w.heap.size,1,none⟩) a8).trans (e8 1);have eX:wr.cell? ⟨w.heap.size,2,none⟩=some (.slice S.a2 N.regs.length S.c2):=(rc.cell (p:=⟨w.heap.size,2,none⟩) a8).trans (e8 2);have fH:wr.cell? ⟨w.heap.size,3,none⟩=some (.slice S.a3 N.mems.length S.c3):=(rc.cell (p:=⟨w.heap.size,3,none⟩) a8).trans (e8 3);have h3:wr.cell? ⟨w.heap.size,4,none⟩=some (.slice S.a4 N.wrs.length S.c4):=(rc.cell (p:=⟨w.heap.size,4,none⟩) a8).trans (e8 4);have g5:wr.cell? ⟨w.heap.size,5,none⟩=some (.slice S.a5 N.outs.length S.c5):=(rc.cell (p:=⟨w.heap.size,5,none⟩) a8).trans (e8 5);by_cases aB:k<dq.length
  ·obtain⟨t,ao⟩:∃t,dq[k]?=some t:=⟨dq[k],ct aB⟩
   obtain⟨EF,avf,bQ,NZ,F0⟩:=(aaL.to (sy.mono aM)).row.el ao;have apn:EF<wr.heap.size:=by have:=sy.size;omega
   have c0:wr.cell? ⟨EF,avf+k,none⟩=some (.slice t.a t.l.length t.c):=by have:=F0 0 _ rfl;simpa using this
   subst bQ;have fa:(k:Int)<(dq.length:Int):=by omega
   have bM:=bF ((k:Int)+1);obtain⟨s,qM⟩:∃s,Hid (zG N mg ((dq.take k).map g2.l)=s):=⟨_,rfl⟩
   have BG:Hid (xj N s):=by rw[<-qM.out];exact PC _
   have rj:Hid (zG N mg ((dq.take (k+1)).map g2.l)=v3 N t.l s):=by
    show _=_;rw[gM _ k t ao,g1,show[t].map g2.l=[t.l] from rfl,auN,qM.out]
   have yi:Hid (tB N ((dq.take (k+1)).map g2.l) mg=tB N ((dq.take k).map g2.l) mg++[uM N (nD N t.l s)]):=by
    show _=_;rw[gM _ k t ao,g1,show[t].map g2.l=[t.l] from rfl,auv,qM.out]
   have mr:=Pq.out;have ND:=ZQ.out;rw[qM.out] at mr ND;have Rd:g4.length=N.mems.length:=by have:=congrArg List.length mr;rw[lb] at this;rw[this];exact BG.ml
   have oY:∀m,m∈g4->m.l.length<cd:=by
    intro m ae;obtain⟨i,hi,rfl⟩:=List.getElem_of_mem ae;have F:s.m[i]?=some g4[i].l:=by rw[<-mr,fT,ct hi];rfl
    obtain⟨z,Oa⟩:∃z,N.mems[i]?=some z:=⟨N.mems[i]'(by omega),ct (by omega)⟩
    have O:=(BG.mm i _ z F Oa).1;have aW:=(cl.mem z (bn Oa)).2;simp only[cd];omega
   have Zg:=K oY;have GM:Hid (∀B,V wr B->Calls Tryz.prog 35 #[.agg #[.slice S.a0 N.ins.length S.c0,.slice S.a1 N.nodes.length S.c1,.slice S.a2 N.regs.length S.c2,.slice S.a3 N.mems.length S.c3,.slice S.a4 N.wrs.length S.c4,.slice S.a5 N.outs.length S.c5],.slice t.a t.l.length t.c,(.slice kw N.regs.length kx),(.slice iR N.mems.length lf)] B fun e bs=>∃v,e = .returned v∧bs.ownsRow B.heap.size 32 1 v N.nodes.length ((nD N t.l s).map ib)∧V B bs):=by
    intro B aV;have U8:=sy.trans (aV.mono (by have:=sy.size;omega));have fG:Y<=B.heap.size:=by have:=U8.size;omega
    have F1:=aaL.each t (bn ao);obtain⟨-,akH,axz,Wn,nR⟩:=s0 (g:=ib) (mx ND aV);have UI:kw=akH:=by cases Wn;rfl
    obtain⟨-,P3,acc,DD,apd⟩:=s0 (g:=fF.val) (mx Tm aV);have nk:iR=P3:=by cases DD;rfl
    have ik:vq N s.r ((g4.map fF.md).map g2.l):=by rw[ae8,mr];exact BG
    have:=arC B.heap.size B S N ((gg.to (U8.mono aM)).mono fG) (aL _) aG t.l s.r (g4.map fF.md) ik t.a kw iR t.c kx lf ((F1.1.to (U8.mono aM)).mono fG) F1.2.1 F1.2.2 (by rw[UI];exact nR) (by rw[nk];exact arf (Tl.to aV) apd oY)
    rw[BG.rl,lb,Rd,ae8,mr] at this;exact this
   clear ao F0 Pq ZQ
   change Hid _ at mr ND
   obtain⟨am,uh⟩:∃am,nD N t.l s=am:=⟨_,rfl⟩
   have sB:Hid (am.length=N.nodes.length):=by show _=_;rw[<-uh];exact YA _ _ _
   have Tx:Hid (v3 N t.l s=⟨AH N am,N.wrs.foldl (t5 am) s.m⟩):=by show _=_;rw[<-uh];rfl
   rw[uh] at GM yi;clear uh;generalize t.l.length=avb at *;generalize t.a=au6 at *;generalize t.c=au7 at *;go_wp2_with fail
   go_region_held3 (fun B=>V wr B∧(∀bw o,bw<wr.heap.size->B.cell? ⟨bw,o,none⟩=wr.cell? ⟨bw,o,none⟩))
    (first|assumption|exact gl (ax _ _)|exact gl (ax _ _).drew|exact lL (by assumption) (by assumption))
    (first|(go_at_call 35;refine(GM _ (And.left (by assumption))).mono ?_;rintro e w2 ⟨v,rfl,il,bH⟩))
   all_goals
    obtain⟨hD,n2,pf,Zh⟩:∃hD:World,Hid (V wr hD)∧Hid (w2.ownsRow hD.heap.size 32 1 v N.nodes.length (am.map ib))∧Hid (V hD w2):=by
     refine⟨_,?_,il,bH⟩
     first|exact And.left (by assumption)|exact(ax _ _).drew|exact ax _ _
    clear il bH GM;have il:=pf.out;rw[<-sB.out] at il;obtain⟨-,fX,gJ,apx,AB⟩:=s0 (g:=ib) il;subst apx;have L2:Hid (∀b o,fX=some ⟨b,o,none⟩->wr.heap.size<=b):=by
     intro b o e;subst e
     have:=(il.lt b rfl).1
     have:=n2.size
     omega
    have C4:Hid (cm w2.heap.size w2 fX 1 (am.map k6)):=AB;have zM:Hid (V wr w2):=n2.trans (Zh.mono n2.size);have anc:=zM.size;have aiq:Hid (V w w2):=sy.trans (zM.mono (by omega));have Ox:=(zM.cell (p:=⟨w.heap.size,5,none⟩) Am).trans g5;clear il AB pf n2 Zh gq cy eX fH h3 g5 c0
    go_upto_block 6 with fail
    refine asq w2 N w.heap.size S.a5 S.c5 Ox (by omega) ((gg.o.to (aiq.mono aM)).mono (by omega)) am fX gJ C4 (fun a ad=>by rw[sB.out];exact cl.out.out a ad) KZ _ _ ?_;intro w3 xP Ed vM vN vO vP vQ vR vS vT vU vV vW vX vY vZ v1 v2 yR Bk hcut;obtain⟨Ca,b8⟩:=hcut;obtain⟨-,kH,me,apg,-⟩:=s0 (g:=ib) Ca;subst apg;have TS:Hid (mI w3 (.slice kH N.outs.length me) (uM N am)):=mI.of Ca;have TV:Hid (∀x,Value.ownBlock (.slice kH N.outs.length me)=some x->w2.heap.size<=x):=fun x J=>(Ca.lt x J).1
    have GV:Hid (V wr w3):=zM.trans (b8.mono anc);have aaz:Hid (cm w3.heap.size w3 fX 1 (am.map k6)):=(C4.to b8).mono b8.size;have tc:Hid (w3.ownsRow aC.heap.size 33 1 u9 k (rows.map nh.v)):=mx a6 GV;have ax9:=GV.size;have hN:Hid (∀x,Value.ownBlock u9=some x->aC.heap.size<=x∧x<wr.heap.size):=fun x J=>a6.lt x J
    have aab:Hid (jy La aC w3):=xa.trans (jy.of_below GV);have ZK:=K (Tl.to GV);have ZR:=K (mx ND GV);have Tn:=K (mx Tm GV);have aaB:Hid (∀q,q∈rows->mI w3 q.v q.l∧zK u9 q.v∧∀x,q.v.ownBlock=some x->aC.heap.size<=x):=fun q aJ=>⟨(yl q aJ).1.to GV.out,(yl q aJ).2⟩
    have ax8:=b8.size;clear Ca b8 Tl ND Tm yl xa C4 Ox;have apf:aC.heap.size<=w3.heap.size:=by omega
    have cn:k+1<=maxLen:=by simp only[maxLen];omega
    have cq:(k+1)*24<=140737488355328:=by omega
    have cJ:aC.heap.size<=(w3.alloc (.cells #[.slice kH N.outs.length me] 33)).heap.size:=by simp;omega
    have tok:True:=trivial
    go_upto_block 8 with (have _t:=tok;at_builtin;(refine wpList_append_lies _ rfl (.tmp 82) (.tmp 84) 29 rfl aC.heap.size 33 WT _ 1 24 Tryz.underlying29 Ny N9 NW Np rfl (by decide) u9 k _ rfl (tc.alloc _) ⟨w3.heap.size,0,none⟩ 1 1 [.slice kH N.outs.length me] rfl rfl (i5 (h8 _ _)) (by simp[Value.oneCell']) (by decide) cn cq cJ _ rfl ?_;intro g cap al bc br kX cj;clear tok))
    have aZ:Hid (w3.grownBy al (Value.ownBlock u9)):=js (am7 w3 _ _) br;have i8:Hid (al.ownsRow aC.heap.size 33 1 (.slice (some ⟨g,0,none⟩) (k+1) cap) (k+1) ((rows++[nh.mk (.slice kH N.outs.length me) (uM N am)]).map nh.v)):=by
     show World.ownsRow _ _ _ _ _ _ _;rw[g1];exact bc
    have oq:Hid (∀v l,mI w3 v l->zK u9 v->mI al v l∧zK (.slice (some ⟨g,0,none⟩) (k+1) cap) v):=fun v l L ah=>by
     have hS:mI (w3.alloc (.cells #[.slice kH N.outs.length me] 33)) v l:=L.to ((ax _ _).alloc (aL _) _);exact⟨hS.kept br ah,ah.new hS kX (aL _)⟩
    have PA:Hid (∀q,q∈rows++[nh.mk (.slice kH N.outs.length me) (uM N am)]->mI al q.v q.l∧zK (.slice (some ⟨g,0,none⟩) (k+1) cap) q.v∧∀x,q.v.ownBlock=some x->aC.heap.size<=x):=by
     intro q aJ;rcases o7.1 aJ with aJ | aJ
     ·have aW:=aaB q aJ;exact⟨(oq _ _ aW.1 aW.2.1).1,(oq _ _ aW.1 aW.2.1).2,aW.2.2⟩
     ·rw[List.mem_singleton.1 aJ];have ah:zK u9 (.slice kH N.outs.length me):=fun x J aF=>by
       have:=TV x aF
       have:=hN x J
       omega
      exact⟨(oq _ _ TS ah).1,(oq _ _ TS ah).2,fun x J=>by have:=TV x J;omega⟩
    have TC:Hid (jy La aC al):=aab.grown aZ (fun x J=> .inr (hN x J).1);have ZL:Hid (mG I.heap.size al g4):=ZK.kept aZ (fun m ae e=>by
     have F:=(hN m.b e).1;have O:=(yX m.b (by rw[<-CW.out];exact i6.2 ⟨m,ae,rfl⟩)).2;omega)
    have ZS:Hid (al.ownsRow I.heap.size 32 1 (.slice kw N.regs.length kx) N.regs.length (s.r.map ib)):=ZR.kept aZ (by
     cases qt:Value.ownBlock (.slice kw N.regs.length kx) with
     | none=>exact .inl rfl
     | some x =>
      refine .inr (fun e=>?_);have F:=(hN x e.symm).1;have O:=(mU x qt).2;omega)
    have To:Hid (al.ownsRow I.heap.size 33 1 (.slice iR N.mems.length lf) N.mems.length (g4.map fF.val)):=Tn.kept aZ (by
     cases qt:Value.ownBlock (.slice iR N.mems.length lf) with
     | none=>exact .inl rfl
     | some x =>
      refine .inr (fun e=>?_);have F:=(hN x e.symm).1;have O:=(C0 x 0 (XB Tn qt)).2.2;omega)
    have TL:Hid (cm al.heap.size al fX 1 (am.map k6)):=(cm.grown aaz aZ (fun b o e J=>by
     have F:=L2 b o e;have O:=(hN b J).2;omega)).mono aZ.size
    have cV:Hid (V I al):=fE.trans (TC.below (bL Fy U2) (fun b D=>(yk b D).1));have aya:=aZ.size;have Qz:∀x,Value.ownBlock (.slice (some ⟨g,0,none⟩) (k+1) cap)=some x->aC.heap.size<=x:=fun x J=>(i8.lt x J).1
    change Hid _ at Qz
    clear bc br kX cj cn cq cJ tc aab ZK ZR Tn aaB aaz oq TS TV a6 aZ;have hI:=(cV.cell (p:=⟨w.heap.size,2,none⟩) a8).trans (e8 2);refine asm al N I.heap.size w.heap.size (by omega) S.a2 S.c2 hI a8 (hU.r.to cV) (.slice kw N.regs.length kx) s.r BG.rl ZS am fX gJ TL (fun b o e J=>by
     have F:=L2 b o e;have O:=(mU b J).2;omega) (fun z ao=>by
     have:=Jl (cl.next z ao)
     rw[sB.out];exact⟨this.1,this.2.1⟩) lI _ _ ?_
    intro aH yQ Bl Bm Eu Ev Jd Ew Ex Ey Ez EA EB EC Bn Bo AQ AR AU AV AW hcut;obtain⟨adW,uA⟩:=hcut;have ZT:=K adW;have ZM:Hid (mG I.heap.size aH g4):=ZL.kept uA (fun m ae e=>by
     have F:=(mU m.b e).2;have O:=(yX m.b (by rw[<-CW.out];exact i6.2 ⟨m,ae,rfl⟩)).1;omega)
    have Pr:Hid (aH.ownsRow I.heap.size 33 1 (.slice iR N.mems.length lf) N.mems.length (g4.map fF.val)):=To.kept uA (by
     cases qt:Value.ownBlock (.slice iR N.mems.length lf) with
     | none=>exact .inl rfl
     | some x =>
      refine .inr (fun e=>?_);have F:=(mU x e.symm).2;have O:=(C0 x 0 (XB To qt)).2.1;omega)
    have hM:Hid (aH.ownsRow aC.heap.size 33 1 (.slice (some ⟨g,0,none⟩) (k+1) cap) (k+1) ((rows++[nh.mk (.slice kH N.outs.length me) (uM N am)]).map nh.v)):=i8.kept uA (.inr (fun e=>by
     have F:=(mU g e.symm).2;have O:=Qz g rfl;omega))
    have PB:Hid (∀q,q∈rows++[nh.mk (.slice kH N.outs.length me) (uM N am)]->mI aH q.v q.l∧zK (.slice (some ⟨g,0,none⟩) (k+1) cap) q.v∧∀x,q.v.ownBlock=some x->aC.heap.size<=x):=fun q aJ=>⟨(PA q aJ).1.kept uA (fun x J e=>by
     have F:=(mU x J).2;have O:=(PA q aJ).2.2 x e;omega),(PA q aJ).2⟩
    have TD:Hid (jy La aC aH):=TC.grown uA (fun x J=> .inl (by rw[<-TI.out,J];simp));have aaA:Hid (cm aH.heap.size aH fX 1 (am.map k6)):=(cm.grown TL uA (fun b o e J=>by
     have F:=L2 b o e;have O:=(mU b J).2;omega)).mono uA.size
    have lx:Hid (V I aH):=fE.trans (TD.below (bL Fy U2) (fun b D=>(yk b D).1));have ayc:=uA.size;clear adW uA ZL To i8 PA TC TL cV ZS hI;have lk:=(lx.cell (p:=⟨w.heap.size,3,none⟩) a8).trans (e8 3);have Cs:=(lx.cell (p:=⟨w.heap.size,4,none⟩) a8).trans (e8 4);obtain⟨-,P3,acc,adD,aea⟩:=s0 (g:=fF.val) Pr.out;have Wp:cm aH.heap.size aH iR 1 (g4.map fun m=>[m.val]):=by
     have:iR=P3:=by cases adD;rfl
     rw[this];exact aea
    change Hid _ at Wp
    clear aea adD
    go_upto_block 10 with fail
    refine ah1 ?_;refine ast aH N I.heap.size w.heap.size (by omega) g4 gQ (fun b D=>by have:=yX b D;omega) CW.symm ZM S.a3 S.a4 S.c3 S.c4 lk Cs (by omega) (fun D=>by have:=yX _ D;omega) (hU.m.to lx) (hU.wr.to lx) iR N.mems.length lf Rd Wp (fun b o e=>(C0 b o e).1) am fX gJ aaA (fun b o e D=>by
     have F:=L2 b o e;have O:=yX b D;omega) Rd (fun m ae=>by have:=Zg m ae;simpa only[cd] using this) (fun b D=>by have:=yX b D;omega) (fun i m z ae ao=>by
     have F:s.m[i]?=some m.l:=by rw[<-mr.out,fT,ae];rfl
     have O:=(BG.mm i _ z F ao).1;have aW:=(cl.mem z (bn ao)).2;omega) (fun z ao=>by
     have F:=cl.wr z ao;have O:=Jl F.2.1;have aW:=Jl F.2.2;rw[sB.out];exact⟨F.1.1,F.1.2.1,O.1,O.2.1,F.1.2.2.1,F.1.2.2.2,aW.1,aW.2.1⟩) KY _ _ ?_
    intro dN Bh Bi AX AY AZ A0 D8 D9 Ea Eb Ec A1 A2 A3 A4 A5 A6 A7 A8 A9 Ba Bb Bc Bd Be Bf Bg Ee IX IY IZ I0 I1 I2 I3 I4 Ef Eg Eh Ei Ej Ek El Em Eo Ep Er Es Et I5 I6 I7 hcut;obtain⟨adB,KL⟩:=hcut;have ZU:Hid (dN.ownsRow I.heap.size 32 1 (.slice kw N.regs.length kx) N.regs.length ((AH N am).map ib)):=XD ZT KL (fun x J D=>by
     have F:=(mU x J).2;have O:=yX x D;omega)
    have aiU:Hid (dN.ownsRow I.heap.size 33 1 (.slice iR N.mems.length lf) N.mems.length ((N.wrs.foldl (m8 am) g4).map fF.val)):=by
     show World.ownsRow _ _ _ _ _ _ _;rw[avM];refine XD Pr KL (fun x J D=>?_);exact(C0 x 0 (XB Pr J)).1 D
    have Mn:Hid (dN.ownsRow aC.heap.size 33 1 (.slice (some ⟨g,0,none⟩) (k+1) cap) (k+1) ((rows++[nh.mk (.slice kH N.outs.length me) (uM N am)]).map nh.v)):=XD hM KL (fun x J D=>by
     have F:=Qz x J;have O:=yX x D;omega)
    have aju:Hid (∀q,q∈rows++[nh.mk (.slice kH N.outs.length me) (uM N am)]->mI dN q.v q.l∧zK (.slice (some ⟨g,0,none⟩) (k+1) cap) q.v∧∀x,q.v.ownBlock=some x->aC.heap.size<=x):=fun q aJ=>⟨(PB q aJ).1.oth KL (fun x J D=>by
     have F:=(PB q aJ).2.2 x J;have O:=yX x D;omega),(PB q aJ).2⟩
    have ajh:Hid (jy La aC dN):=TD.trans (KL.wide (fun x J=>by rw[<-TI.out];exact o7.2 (.inr J)));have aiR:Hid ((N.wrs.foldl (m8 am) g4).map fF.b=gQ):=(UT am N.wrs g4).2.trans CW.out;have aiT:Hid ((N.wrs.foldl (m8 am) g4).map fF.l=(zG N mg ((dq.take (k+1)).map g2.l)).m):=by
     show _=_;rw[rj.out,Tx.out,amP,mr.out]
    have aiV:Hid (dN.ownsRow I.heap.size 32 1 (.slice kw N.regs.length kx) N.regs.length ((zG N mg ((dq.take (k+1)).map g2.l)).r.map ib)):=by
     show World.ownsRow _ _ _ _ _ _ _;rw[rj.out,Tx.out];exact ZU
    have ajt:Hid ((rows++[nh.mk (.slice kH N.outs.length me) (uM N am)]).map nh.l=tB N ((dq.take (k+1)).map g2.l) mg):=by
     show _=_;rw[g1,yi.out,Pz.out];rfl
    change Hid _ at adB
    clear KL ZM Pr hM PB TD aaA lx ZT ZU Wp lk Cs mr CW Pz yi rj Tx BG qM Zg oY Qz hN L2 Rd;go_wp2;go_roundw
    case measure=>simp[intOf];omega
    exact⟨k+1,_,_,by omega,by simp,aiR.out,aiT.out,adB.out,aiV.out,aiU.out,Mn.out,ajt.out,aju.out,ajh⟩
  ·have cQ:¬((k:Int)<(dq.length:Int)):=by omega
   have Mn:Hid (wr.ownsRow aC.heap.size 33 1 u9 dq.length (rows.map nh.v)):=by
    have:=a6.out
    rwa [show k=dq.length by omega] at this
   have aiY:Hid (rows.map nh.l=tB N (dq.map g2.l) mg):=by
    have:=Pz.out
    rwa [fQ (by omega)] at this
   clear a6 Pz;go_wp2;go_ret
   exact⟨_,rfl,rows,xN Mn (by omega),aiY.out,fun r ak=>(yl r ak).1,sy⟩
theorem BT {α β:Type} (f g:α->List β):∀(l:List α),(∀x,x∈l->f x=g x)->l.flatMap f=l.flatMap g
 | [],_=>rfl
 | x::l,h=>by rw[List.flatMap_cons,List.flatMap_cons,h x (qe ..),BT f g l (fun y aF=>h y (qd _ aF))]
def iE (l:List Nat) (ws:List Int):List Bool:=(List.range ws.length).flatMap fun i=>aP (ws.getD i 0).toNat (l.getD i 0)
theorem ak0 (l:List Nat) (ws:List Int) (i:Nat) (x:Int) (h:ws[i]?=some x):iE l (ws.take (i+1))=iE l (ws.take i)++aP x.toNat (l.getD i 0):=by
 have hi:=(cr.1 h).1;unfold iE;rw[jx,jx,Nat.min_eq_left (by omega),Nat.min_eq_left (by omega),List.range_succ,s4]
 congr 1
 ·apply BT;intro j aT;have VT:j<i:=by simpa using aT
  simp only[List.getD_eq_getElem?_getD,List.getElem?_take];rw[if_pos (by omega),if_pos VT]
 ·simp only[List.flatMap_cons,List.flatMap_nil,List.append_nil,List.getD_eq_getElem?_getD,List.getElem?_take];rw[if_pos (by omega),h]
  rfl
theorem akZ (l:List Nat) (ws:List Int) (aw:∀x,x∈ws->0<=x∧x<=64):(iE l ws).length<=64*ws.length:=by
 unfold iE;rw[List.length_flatMap]
 have:∀n,n<=ws.length->((List.range n).map fun i=>(aP (ws.getD i 0).toNat (l.getD i 0)).length).sum<=64*n:=by
  intro n ag
  induction n with
  | zero=>simp
  | succ n aA =>
   rw[List.range_succ,g1,List.sum_append];have F:=aA (by omega);have J:ws.getD n 0∈ws:=by
    rw[iH,ct (by omega)];exact List.getElem_mem _
   have O:=aw _ J;have aW:(aP (ws.getD n 0).toNat (l.getD n 0)).length=(ws.getD n 0).toNat:=rT _ _;simp only[List.map_cons,List.map_nil,List.sum_cons,List.sum_nil];omega
 exact this ws.length (aL _)
theorem avd (w:World) (ra:Option Addr) (OC:Nat) (l:List Nat) (Hv:cm w.heap.size w ra 1 (l.map k6)) (J:∀x,x∈l->x<18446744073709551616) (mA:Option Addr) (wc:Nat) (ws:List Int) (Hw:cm w.heap.size w mA 1 (ws.map j4)) (hg:∀x,x∈ws->0<=x∧x<=64) (mM:ws.length<=1048576) :
  Calls Tryz.prog 34 #[.slice ra l.length OC,.slice mA ws.length wc] w fun e B=>∃v,e = .returned v∧B.ownsRow w.heap.size 4 1 v (iE l ws).length ((iE l ws).map gi)∧V w B:=by
 obtain⟨eE,ek,i1,jU,f0⟩:=IB
 change Hid _ at ek i1 jU f0
 have pd:=K Hv;have E3:=K Hw;have iC:=K J;have kP:Hid (∀k,(iE l (ws.take k)).length<=67108864):=fun k=>by
  have:=akZ l (ws.take k) (fun x J=>hg x (su J))
  rw[jx] at this;omega
 change Hid _ at hg
 clear Hv Hw J;go_enter Tryz.func34,Tryz.ntmps34
 go_wp2_with fail
 go_loopw [5,6] (fun Ov aq B=>∃(i:Nat),i<=ws.length∧aq = .int .i64 i∧Hid (B.ownsRow w.heap.size 4 1 Ov (iE l (ws.take i)).length ((iE l (ws.take i)).map gi))∧Hid (V w B)) (fun _ aq _=>ws.length - (intOf aq).toNat)
 case atStart=>exact⟨0,cE _,rfl,k8 _ _ _ _,ax _ _⟩
 case round =>
  obtain⟨i,hi,rfl,a6,aD⟩:=hrel;by_cases aB:i<ws.length
  ·have fa:(i:Int)<(ws.length:Int):=by omega
   have acj:=bF ((i:Int)+1);obtain⟨x,sU⟩:=bS aB;obtain⟨Ix,DQ⟩:=hg x (bn sU);obtain⟨aK,aQ,DP,vB,aeu⟩:=E3.intR sU;obtain⟨m,ae⟩:∃m:Nat,x=(m:Int):=⟨x.toNat,by omega⟩
   subst ae;have bW:Hid (iE l (ws.take (i+1))=iE l (ws.take i)++aP m (l.getD i 0)):=by
    show _=_;rw[ak0 l ws i _ sU,vg]
   obtain⟨val,ug⟩:∃v,Hid (v=l.getD i 0):=⟨_,rfl⟩
   rw[<-ug.out] at bW;have apv:val<18446744073709551616:=by
    rw[ug.out,iH];cases aJ:l[i]? with
    | none=>simp
    | some y=>exact iC y (bn aJ)
   have sR:=kP i;obtain⟨hD,ajj⟩:∃p,Hid (p=iE l (ws.take i)):=⟨_,rfl⟩
   rw[<-ajj.out] at a6 bW sR;have T0:Hid (∀B,V w B->B.cell? ⟨aK,aQ+i,none⟩=some (.int .i64 (m:Int))):=fun B aV=>(aV.cell (p:=⟨aK,aQ+i,none⟩) vB).trans aeu
   have ca:=T0 _ aD;have w9:Hid (wr.ownsRow w.heap.size 4 1 u5 (hD.length+0) ((hD++aP 0 val).map gi)):=by
    show World.ownsRow _ _ _ _ _ _ _;simpa[aP] using a6.out
   subst DP;clear sU aeu a6;by_cases bO:i<l.length
   ·have VS:(i:Int)<(l.length:Int):=by omega
    obtain⟨y,aF⟩:=bS bO;obtain⟨bG,ck,Rt,gK,cx⟩:=pd.el aF;have kx:wr.cell? ⟨bG,ck+i,none⟩=some (.int .u64 (val:Int)):=by
     have h:=(aD.cell (p:=⟨bG,ck+i*1+0,none⟩) gK).trans (cx 0 _ rfl);rw[ug.out,iH,aF];simpa using h
    subst Rt;clear aF cx;go_wp2_with fail
    clear ca kx;go_loopw [5,8] (fun Ov DT B=>∃(k:Nat),k<=m∧DT = .int .i64 k∧Hid (B.ownsRow w.heap.size 4 1 Ov (hD.length+k) ((hD++aP k val).map gi))∧Hid (V w B)) (fun _ DT _=>m - (intOf DT).toNat)
    case atStart=>exact⟨0,cE _,rfl,w9.out,aD⟩
    case round =>
     clear w9 aD;obtain⟨k,X,rfl,zW,rc⟩:=hrel;have ca:=T0 _ rc;by_cases oZ:k<m
     ·have KH:(k:Int)<(m:Int):=by omega
      have amj:=bF ((k:Int)+1);have QA:(k:Int)<=64:=by omega
      have bp:bits BinOp.and IntKind.u64 (((val:Nat):Int) / 2^k) 1=(((val:Nat) / 2^k%2:Nat):Int):=by
       have ko:((val:Nat):Int) / 2^k=(((val:Nat) / 2^k:Nat):Int):=by simp
       have adc:(val:Nat) / 2^k<18446744073709551616:=Nat.lt_of_le_of_lt (Nat.div_le_self _ _) apv;rw[ko,show(1:Int)=((1:Nat):Int) from rfl,Uj _ 1 adc (by decide),Nat.and_one_is_mod]
      obtain⟨HK,Pg⟩:∃b,Hid (b=decide ((val:Nat) / 2^k%2=1)):=⟨_,rfl⟩
      have aS:(((((val:Nat) / 2^k%2:Nat):Int))==1)=HK:=by
       rw[Pg.out,iI];simp only[beq_iff_eq,decide_eq_true_eq];omega
      have y3:Hid ((hD++aP (k+1) val).map gi=(hD++aP k val).map gi++[.bool HK]):=by
       show _=_;rw[agy,<-List.append_assoc,g1,Pg.out]
       rfl
      generalize (val:Nat) / 2^k%2=D5 at *;have cn:hD.length+k+1<=maxLen:=by simp only[maxLen];omega
      have cq:(hD.length+k+1)*1<=140737488355328:=by omega
      have gY:=rc.size;have cJ:w.heap.size<=(wr.alloc (.cells #[.bool HK] 4)).heap.size:=by simp;omega
      have tok:True:=trivial;go_wp2_with (have _t:=tok;at_builtin;(refine wpList_append_lies _ rfl (.tmp 31) (.tmp 38) 82 rfl w.heap.size 4 eE _ 1 1 Tryz.underlying82 ek i1 jU f0 rfl (by decide) u5 (hD.length+k) _ rfl (zW.alloc _) ⟨wr.heap.size,0,none⟩ 1 1 [.bool HK] rfl rfl (i5 (h8 _ _)) (by simp[Value.oneCell']) (by decide) cn cq cJ _ rfl ?_;intro g cap al bc br kX cj;clear tok))
      have i8:Hid (al.ownsRow w.heap.size 4 1 (.slice (some ⟨g,0,none⟩) (hD.length+k+1) cap) (hD.length+(k+1)) ((hD++aP (k+1) val).map gi)):=by
       show World.ownsRow _ _ _ _ _ _ _;rw[y3.out];exact bc
      have cV:Hid (V w al):=us rc zW br;clear bc br kX cj cn cq cJ zW rc y3;go_wp2;go_roundw
      case measure=>simp[intOf];omega
      exact⟨k+1,by omega,by simp,i8.out,cV⟩
     ·have As:¬((k:Int)<(m:Int)):=by omega
      have G9:Hid (wr.ownsRow w.heap.size 4 1 u5 (iE l (ws.take (i+1))).length ((iE l (ws.take (i+1))).map gi)):=by
       have h:=zW.out;rw[show k=m by omega] at h;show World.ownsRow _ _ _ _ _ _ _;rw[bW.out,jw,rT];exact h
      clear zW;go_wp2;go_roundw
      case measure=>simp[intOf];omega
      exact⟨i+1,by omega,by simp,G9.out,rc⟩
   ·have VS:¬(i:Int)<(l.length:Int):=by omega
    have Ce:val=0:=by rw[ug.out,iH,oN (by omega)];rfl
    subst Ce;go_wp2_with fail
    clear ca;go_loopw [5,8] (fun Ov DT B=>∃(k:Nat),k<=m∧DT = .int .i64 k∧Hid (B.ownsRow w.heap.size 4 1 Ov (hD.length+k) ((hD++aP k 0).map gi))∧Hid (V w B)) (fun _ DT _=>m - (intOf DT).toNat)
    case atStart=>exact⟨0,cE _,rfl,w9.out,aD⟩
    case round =>
     clear w9 aD;obtain⟨k,X,rfl,zW,rc⟩:=hrel;have ca:=T0 _ rc;by_cases oZ:k<m
     ·have KH:(k:Int)<(m:Int):=by omega
      have amj:=bF ((k:Int)+1);have bp:bits BinOp.and IntKind.u64 0 1=0:=by decide
      have Ka:((0:Int) / 2^k)=0:=by simp
      have Pg:Hid (false=decide ((0:Nat) / 2^k%2=1)):=by show _=_;simp
      have y3:Hid ((hD++aP (k+1) 0).map gi=(hD++aP k 0).map gi++[.bool false]):=by
       show _=_;rw[agy,<-List.append_assoc,g1,<-Pg.out]
       rfl
      have cn:hD.length+k+1<=maxLen:=by simp only[maxLen];omega
      have cq:(hD.length+k+1)*1<=140737488355328:=by omega
      have gY:=rc.size;have cJ:w.heap.size<=(wr.alloc (.cells #[.bool false] 4)).heap.size:=by simp;omega
      have tok:True:=trivial;go_wp2_with (have _t:=tok;at_builtin;(refine wpList_append_lies _ rfl (.tmp 31) (.tmp 38) 82 rfl w.heap.size 4 eE _ 1 1 Tryz.underlying82 ek i1 jU f0 rfl (by decide) u5 (hD.length+k) _ rfl (zW.alloc _) ⟨wr.heap.size,0,none⟩ 1 1 [.bool false] rfl rfl (i5 (h8 _ _)) (by simp[Value.oneCell']) (by decide) cn cq cJ _ rfl ?_;intro g cap al bc br kX cj;clear tok))
      have i8:Hid (al.ownsRow w.heap.size 4 1 (.slice (some ⟨g,0,none⟩) (hD.length+k+1) cap) (hD.length+(k+1)) ((hD++aP (k+1) 0).map gi)):=by
       show World.ownsRow _ _ _ _ _ _ _;rw[y3.out];exact bc
      have cV:Hid (V w al):=us rc zW br;clear bc br kX cj cn cq cJ zW rc y3;go_wp2;go_roundw
      case measure=>simp[intOf];omega
      exact⟨k+1,by omega,by simp,i8.out,cV⟩
     ·have As:¬((k:Int)<(m:Int)):=by omega
      have G9:Hid (wr.ownsRow w.heap.size 4 1 u5 (iE l (ws.take (i+1))).length ((iE l (ws.take (i+1))).map gi)):=by
       have h:=zW.out;rw[show k=m by omega] at h;show World.ownsRow _ _ _ _ _ _ _;rw[bW.out,jw,rT];exact h
      clear zW;go_wp2;go_roundw
      case measure=>simp[intOf];omega
      exact⟨i+1,by omega,by simp,G9.out,rc⟩
  ·have cQ:¬((i:Int)<(ws.length:Int)):=by omega
   have G9:Hid (wr.ownsRow w.heap.size 4 1 u5 (iE l ws).length ((iE l ws).map gi)):=by
    have:=a6.out
    rw[fQ (by omega)] at this;exact this
   clear a6;go_wp2;go_ret
   exact⟨_,rfl,G9.out,aD⟩
def m7 (wl:List (List Int)) (rs:List l4):List eA:=rs.flatMap fun r=>ju (wl.getD r.next.toNat []) r.init.toNat
def sZ (ms:List (List (List Int))):List eA:=ms.flatMap fun ws=>ws.flatMap fun l=>ju l 0
def rP (wl:List (List Int)) (os:List Int):List Int:=os.flatMap fun o=>wl.getD o.toNat []
def h6 (N:aR) (need:List Bool):List Z×List (List Int):=AL (fZ N) (uH N) (tA N) (nV N) N need [] N.nodes.length
def gU (N:aR) (need:List Bool):List Z×List (List (List Int)):=qF (fZ N) (h6 N need).2 N.wrs (h6 N need).1 (nV N)
def kc (N:aR) (need:List Bool):eq:=⟨((hH N.ins:Nat):Int),m7 (h6 N need).2 N.regs++sZ (gU N need).2,(gU N need).1,rP (h6 N need).2 N.outs⟩
def sL (xs ns:List Nat):List Bool:=(List.zipWith (fun x n=>aP n x) xs ns).flatten
def vs:List (List Nat)->List hf->List Bool
 | l::ls,m::ms=>l.flatMap (aP m.width.toNat)++vs ls ms
 | _,_=>[]
theorem MY (x n:Nat) (xs ns:List Nat):sL (x::xs) (n::ns)=aP n x++sL xs ns:=by unfold sL;simp
theorem MZ (xs ns:List Nat) (h:xs.length=ns.length):(sL xs ns).length=ns.sum:=by
 induction ns generalizing xs with
 | nil=>cases xs <;> simp[sL] at *
 | cons n ns aA =>
  cases xs with
  | nil=>simp at h
  | cons x xs=>rw[MY,jw,rT,aA xs (by simpa using h),List.sum_cons]
theorem XS (hD:List Bool) (xs ns:List Nat) (oH:List Bool) (h:xs.length=ns.length):rR (hD++(sL xs ns++oH)) hD.length ns=List.zipWith (fun x n=>x%2^n) xs ns:=by
 induction ns generalizing xs hD with
 | nil=>cases xs <;> simp[rR] at *
 | cons n ns aA =>
  cases xs with
  | nil=>simp at h
  | cons x xs =>
   have bp:Dh (hD++(sL (x::xs) (n::ns)++oH)) hD.length n=aP n x:=by
    unfold Dh;rw[List.drop_left,MY,List.append_assoc,List.take_left' (rT n x)]
   have aS:hD++(sL (x::xs) (n::ns)++oH)=(hD++aP n x)++(sL xs ns++oH):=by rw[MY];simp
   rw[rR,bp,avL,aS]
   have:=aA (hD++aP n x) xs (by simpa using h)
   rw[jw,rT] at this;rw[this]
   rfl
theorem aie (xs ns:List Nat) (h:xs.length=ns.length) (J:∀(i x n:Nat),xs[i]?=some x->ns[i]?=some n->x<2^n):List.zipWith (fun x n=>x%2^n) xs ns=xs:=by
 induction ns generalizing xs with
 | nil=>cases xs <;> simp at *
 | cons n ns aA =>
  cases xs with
  | nil=>simp at h
  | cons x xs =>
   rw[List.zipWith_cons_cons,Nat.mod_eq_of_lt (J 0 x n rfl rfl),aA xs (by simpa using h) (fun i y m F O=>J (i+1) y m (by simpa using F) (by simpa using O))]
theorem UR (l:List Nat) (w:Nat):l.flatMap (aP w)=sL l (List.replicate l.length w):=by
 induction l with
 | nil=>rfl
 | cons x l aA=>rw[yb,List.replicate_succ,MY,<-aA];rfl
theorem amm (ls:List (List Nat)) (ms:List hf) (h:ls.length=ms.length) (hl:∀(i:Nat) (l:List Nat) (m:hf),ls[i]?=some l->ms[i]?=some m->l.length=m.words.toNat):(vs ls ms).length=ha ms:=by
 induction ms generalizing ls with
 | nil=>cases ls <;> simp[vs,ha] at *
 | cons m ms aA =>
  cases ls with
  | nil=>simp at h
  | cons l ls =>
   have e:=hl 0 l m rfl rfl;rw[vs,jw,aA ls (by simpa using h) (fun i pw xJ F O=>hl (i+1) pw xJ (by simpa using F) (by simpa using O)),F9,UR,MZ _ _ (by simp),Yh,e]
theorem aq8 (hD:List Bool) (ls:List (List Nat)) (ms:List hf) (h:ls.length=ms.length) (hl:∀(i:Nat) (l:List Nat) (m:hf),ls[i]?=some l->ms[i]?=some m->l.length=m.words.toNat∧∀x,x∈l->x<2^m.width.toNat):Cm (hD++vs ls ms) hD.length ms=ls:=by
 induction ms generalizing ls hD with
 | nil=>cases ls <;> simp[Cm] at *
 | cons m ms aA =>
  cases ls with
  | nil=>simp at h
  | cons l ls =>
   obtain⟨e,J⟩:=hl 0 l m rfl rfl;have aS:hD++vs (l::ls) (m::ms)=(hD++sL l (List.replicate l.length m.width.toNat))++vs ls ms:=by rw[vs,UR];simp
   have bp:rR (hD++vs (l::ls) (m::ms)) hD.length (List.replicate m.words.toNat m.width.toNat)=l:=by
    rw[vs,UR,<-e,XS hD l (List.replicate l.length m.width.toNat) _ (by simp)];refine aie _ _ (by simp) (fun i x n F O=>?_)
    have:n=m.width.toNat:=(List.mem_replicate.1 (bn O)).2
    rw[this];exact J x (bn F)
   rw[Cm,bp,aS]
   have:=aA (hD++sL l (List.replicate l.length m.width.toNat)) ls (by simpa using h) (fun i pw xJ F O=>hl (i+1) pw xJ (by simpa using F) (by simpa using O))
   have aU:(hD++sL l (List.replicate l.length m.width.toNat)).length=hD.length+m.width.toNat*m.words.toNat:=by rw[jw,MZ _ _ (by simp),Yh,e]
   rw[aU] at this;rw[this]
def yO (row:List Nat) (n:Nat):List Nat:=(List.range n).map fun i=>row.getD i 0
theorem Uo (row:List Nat) (ws:List Int):iE row ws=sL (yO row ws.length) (ws.map Int.toNat):=by
 unfold iE sL yO;rw[List.flatMap_def]
 congr 1
 apply List.ext_getElem?;intro i;rw[List.getElem?_zipWith,fT,fT,fT];by_cases hi:i<ws.length
 ·rw[List.getElem?_range hi]
  have:ws[i]?=some ws[i]:=ct hi
  rw[this];simp[List.getD_eq_getElem?_getD,this]
 ·rw[oN (l:=List.range ws.length) (by simp;omega)]
  rfl
theorem P8 (row:List Nat) (ws:List Int):(iE row ws).length=hH ws:=by
 rw[Uo,MZ _ _ (by unfold yO;simp)]
 rfl
def yt (N:aR) (s:oT):List Bool:=sL s.r (rQ N)++vs s.m N.mems
theorem amn {N:aR} {s:oT} (h:xj N s):(yt N s).length=h4 N.regs+ha N.mems:=by
 unfold yt;rw[jw,MZ _ _ (by unfold rQ;rw[lb];exact h.rl),amm _ _ h.ml (fun i l m F O=>(h.mm i l m F O).1)]
 rfl
def oi (N:aR) (row:List Nat) (s:oT):List Bool:=[false]++iE row N.ins++yt N s
theorem avo {N:aR} {s:oT} (h:xj N s):iq (fZ N) (oi N row s):=by
 refine⟨?_,rfl⟩;unfold oi fZ;rw[jw,jw,P8,amn h];simp only[List.length_singleton];omega
theorem avq {N:aR} {s:oT}:xi N (oi N row s)=List.zipWith (fun x n=>x%2^n) (yO row N.ins.length) (oc N):=by
 unfold xi oi;rw[List.append_assoc,Uo];exact XS [false] _ _ _ (by unfold yO;simp)
theorem avp {N:aR} {s:oT} (h:xj N s):t7 N (oi N row s)=s.r:=by
 unfold t7 oi yt;have e:1+hH N.ins=([false]++iE row N.ins).length:=by rw[jw,P8];rfl
 rw[e,XS _ _ _ _ (by unfold rQ;rw[lb];exact h.rl)];refine aie _ _ (by unfold rQ;rw[lb];exact h.rl) (fun i x n F O=>?_);unfold rQ at O;rw[fT] at O;cases ao:N.regs[i]? with
 | none=>rw[ao] at O;cases O
 | some z =>
  rw[ao] at O
  have:z.width.toNat=n:=by simpa using O
  rw[<-this];exact h.rr i x z F ao
theorem agC {N:aR} {s:oT} (h:xj N s):ph N (oi N row s)=s.m:=by
 unfold ph oi yt;have e:1+hH N.ins+h4 N.regs=([false]++iE row N.ins++sL s.r (rQ N)).length:=by
  rw[jw,jw,P8,MZ _ _ (by unfold rQ;rw[lb];exact h.rl)]
  rfl
 rw[<-List.append_assoc,e];exact aq8 _ _ _ h.ml h.mm
theorem asd {N:aR} (aG:er N=true) {i:Nat} {d:eO} (U:N.nodes[i]?=some d) (yG:0<=d.num) (row rs:List Nat) (ms:List (List Nat)) (am:List Nat):lY N (List.zipWith (fun x n=>x%2^n) (yO row N.ins.length) (oc N)) rs ms am d=lY N row rs ms am d:=by
 unfold lY;by_cases kd:d.kind=30
 ·rw[if_pos kd,if_pos kd];have ay:=(ty (uL aG U)).2.2;unfold lj at ay;rw[if_pos kd] at ay;have ay:=jN ay;have J:N.ins[d.num.toNat]?=some d.width:=by rw[vr (l:=N.ins) (k:=d.num.toNat) (by omega),ay.2]
  have hl:d.num.toNat<N.ins.length:=(cr.1 J).1;have aU:(List.zipWith (fun x n=>x%2^n) (yO row N.ins.length) (oc N)).length=N.ins.length:=by unfold yO oc;simp
  rw[if_pos (by rw[aU];exact ay.1)];have bp:(List.zipWith (fun x n=>x%2^n) (yO row N.ins.length) (oc N))[d.num.toNat]?=some (row.getD d.num.toNat 0%2^d.width.toNat):=by
   rw[List.getElem?_zipWith];unfold yO oc;rw[fT,List.getElem?_range hl,fT,J]
   rfl
  rw[bp,Option.getD_some,Nat.mod_mod,iH];by_cases ak:d.num<(row.length:Int)
  ·rw[if_pos ak]
  ·rw[if_neg ak,oN (by omega)];simp
 ·rw[if_neg kd,if_neg kd]
theorem amv {N:aR} (aG:er N=true) (yG:∀d,d∈N.nodes->0<=d.num) (row rs:List Nat) (ms:List (List Nat)) (i:Nat):ky N (List.zipWith (fun x n=>x%2^n) (yO row N.ins.length) (oc N)) rs ms i=ky N row rs ms i:=by
 induction i with
 | zero=>rfl
 | succ i aA =>
  unfold ky;rw[aA];cases U:N.nodes[i]? with
  | none=>rfl
  | some d=>simp only[asd aG U (yG d (List.mem_of_getElem? U))]
theorem aeY (l:List Int) (x:Nat):(ju l x).map eA.next=l:=by
 unfold ju;rw[List.map_map]
 have:(eA.next ∘ fun(p:Int×Nat)=>(⟨p.1,decide (x / 2^p.2%2=1)⟩:eA))=Prod.fst:=rfl
 rw[this,List.zipIdx_map_fst]
theorem IH {α β γ:Type} (f:β->γ) (g:α->List β) (l:List α):(l.flatMap g).map f=l.flatMap fun x=>(g x).map f:=by
 induction l with
 | nil=>rfl
 | cons x l aA=>simp[List.flatMap_cons,aA]
theorem UG {α:Type} (l:List α) (f g:α->Nat):sL (l.map f) (l.map g)=l.flatMap fun x=>aP (g x) (f x):=by
 induction l with
 | nil=>rfl
 | cons x l aA=>rw[List.map_cons,List.map_cons,MY,aA];rfl
theorem amo (ws:List (List (List Int))) (v0:List Bool) (q:List Z) (ms:List hf) (a9:List (List Nat)) (F:ws.length=ms.length) (O:a9.length=ms.length) (h:∀(k:Nat) (z:hf),ms[k]?=some z->(ws.getD k []).map (cp v0 q)=((a9[k]?).getD []).map (aP z.width.toNat)):(ws.flatMap fun x=>x.flatMap fun l=>cp v0 q l)=vs a9 ms:=by
 induction ms generalizing ws a9 with
 | nil =>
  obtain rfl:ws=[]:=yc F;obtain rfl:a9=[]:=yc O
  rfl
 | cons m ms aA =>
  cases ws with
  | nil=>simp at F
  | cons x ws =>
   cases a9 with
   | nil=>simp at O
   | cons l a9 =>
    have e:=h 0 m rfl;have e:x.map (cp v0 q)=l.map (aP m.width.toNat):=e;rw[List.flatMap_cons,vs,aA ws a9 (by simpa using F) (by simpa using O) (fun k z ao=>by have:=h (k+1) z (by simpa using ao);simpa using this)];rw[List.flatMap_def,List.flatMap_def (l:=l)];rw[show(x.map fun l=>cp v0 q l)=x.map (cp v0 q) from rfl,e]
theorem ak8 {S:dp} {N:aR} (aO:eM Y w S N) (aG:er N=true) (gB:lR N need) (row:List Nat) (s:oT) (hs:xj N s) :
  zC (kc N need) (l7 (kc N need) (iE row N.ins) (yt N s))=iE (uM N (nD N row s)) (pD N N.outs)∧vI (kc N need) (l7 (kc N need) (iE row N.ins) (yt N s))=yt N (v3 N row s):=by
 have aM:=avo (row:=row) hs;have ah:1<=fZ N:=by unfold fZ;omega
 have V9:bI (fZ N) []:=⟨fun i d U=>by simp at U,fun i j d e U=>by simp at U⟩
 obtain⟨-,bK,h7,lS⟩:=Up ah V9 aO aG gB (K0 aG) (DZ aG) (fun v0 L=>OM v0 L) (h6 N need) rfl (gU N need) rfl;have aoc:l7 (kc N need) (iE row N.ins) (yt N s)=iS (oi N row s) (gU N need).1:=by
  unfold l7 oi;have e:sV (kc N need).ins.toNat (iE row N.ins)=iE row N.ins:=by
   show sV (((hH N.ins:Nat):Int)).toNat (iE row N.ins)=_;rw[vg,<-P8 row N.ins];unfold sV;apply List.ext_getElem?;intro i;rw[fT];by_cases hi:i<(iE row N.ins).length
   ·rw[List.getElem?_range hi,ct hi];simp[hi]
   ·rw[oN (l:=List.range _) (by simp;omega),oN (by omega)];rfl
  rw[e]
  rfl
 have L:nD N (xi N (oi N row s)) ⟨t7 N (oi N row s),ph N (oi N row s)⟩=nD N row s:=by
  unfold nD;rw[avq,avp hs,agC hs];exact amv aG (fun d U=>by have:=aO.na d U;omega) row s.r s.m _
 have aej:(v3 N (xi N (oi N row s)) ⟨t7 N (oi N row s),ph N (oi N row s)⟩).m=(v3 N row s).m:=by
  unfold v3;rw[L];show N.wrs.foldl _ (ph N (oi N row s))=_;rw[agC hs]
 rw[aoc]
 constructor
 ·show(rP (h6 N need).2 N.outs).map (gw (iS (oi N row s) (gU N need).1))=_
  unfold rP;rw[IH,Uo];have bp:yO (uM N (nD N row s)) (pD N N.outs).length=N.outs.map (gR (nD N row s)):=by
   unfold yO pD uM;rw[lb];apply List.ext_getElem?;intro i;rw[fT,fT];by_cases hi:i<N.outs.length
   ·rw[List.getElem?_range hi,ct hi];simp[List.getD_eq_getElem?_getD,hi]
   ·rw[oN (l:=List.range _) (by simp;omega),oN (by omega)];rfl
  rw[bp];unfold pD;rw[List.map_map,UG];refine BT _ _ _ (fun o aY=>?_)
  have:=(bK o aY).val _ aM
  rw[L] at this;exact this
 ·show(m7 (h6 N need).2 N.regs++sZ (gU N need).2).map (fun d=>gw (iS (oi N row s) (gU N need).1) d.next)=_
  rw[g1];unfold yt m7 sZ;have hl:∀(l:List Int) (x:Nat),(ju l x).map (fun d=>gw (iS (oi N row s) (gU N need).1) d.next)=cp (oi N row s) (gU N need).1 l:=fun l x=>by
   have:(fun d:eA=>gw (iS (oi N row s) (gU N need).1) d.next)=(gG (oi N row s) (gU N need).1) ∘ eA.next:=rfl
   rw[this,<-List.map_map,aeY]
   rfl
  congr 1
  ·rw[IH];have e:(v3 N row s).r=N.regs.map fun z=>gR (nD N row s) z.next:=rfl
   rw[e];unfold rQ;rw[UG];refine BT _ _ _ (fun r ak=>?_);rw[hl]
   have:=(h7 r ak).val _ aM
   rw[L] at this;exact this
  ·rw[IH];have e:∀ws:List (List Int),(ws.flatMap fun l=>ju l 0).map (fun d=>gw (iS (oi N row s) (gU N need).1) d.next)=ws.flatMap fun l=>cp (oi N row s) (gU N need).1 l:=fun ws=>by
    rw[IH];exact BT _ _ _ (fun l _=>hl l 0)
   rw[BT _ _ _ (fun ws _=>e ws)];have kV:(v3 N row s).m.length=N.mems.length:=by rw[<-aej];exact lS.ml _ aM
   refine amo _ _ _ _ _ lS.len kV (fun k z ao=>?_)
   have:=(lS.each k z ao).2.2.2 _ aM
   rw[aej] at this;exact this
theorem ald {S:dp} {N:aR} (aO:eM Y w S N) (aG:er N=true) (gB:lR N need) (j6:List (List Nat)) (s:oT) (hs:xj N s) :
  runN (kc N need) (j6.map fun l=>iE l N.ins) (yt N s)=(tB N j6 s).map fun l=>iE l (pD N N.outs):=by
 induction j6 generalizing s with
 | nil=>rfl
 | cons r t aA =>
  obtain⟨F,O⟩:=ak8 aO aG gB r s hs;simp only[List.map_cons,runN,tB,F,O];rw[aA (v3 N r s) (Yd aO aG r hs)]
theorem avc (n x:Nat):aP n x=(List.range n).map fun i=>decide (x / 2^i%2=1):=by
 induction n generalizing x with
 | zero=>rfl
 | succ n aA =>
  rw[List.range_succ_eq_map,List.map_cons,List.map_map,aP,aA]
  congr 1
  ·simp
  ·refine o8 (fun i _=>?_);simp only[Function.comp];rw[Nat.div_div_eq_div_mul,Nat.pow_succ,Nat.mul_comm]
theorem aeX (l:List Int) (x:Nat):(ju l x).map eA.init=aP l.length x:=by
 unfold ju;rw[List.map_map,avc];apply List.ext_getElem?;intro i;rw[fT,fT,List.getElem?_zipIdx];by_cases hi:i<l.length
 ·rw[ct hi,List.getElem?_range hi];simp
 ·rw[oN (by omega),oN (l:=List.range _) (by simp;omega)]
  rfl
theorem amN (x:List (List Int)) (n:Nat):(x.flatMap fun _=>aP n 0)=(List.replicate x.length 0).flatMap (aP n):=by
 induction x with
 | nil=>rfl
 | cons y x aA=>rw[List.flatMap_cons,yb,List.replicate_succ,List.flatMap_cons,aA]
theorem ala {S:dp} {N:aR} (aO:eM Y w S N) (aG:er N=true) (gB:lR N need):tu (kc N need)=yt N (zv N):=by
 have ah:1<=fZ N:=by unfold fZ;omega
 have V9:bI (fZ N) []:=⟨fun i d U=>by simp at U,fun i j d e U=>by simp at U⟩
 obtain⟨-,bK,h7,lS⟩:=Up ah V9 aO aG gB (K0 aG) (DZ aG) (fun v0 L=>OM v0 L) (h6 N need) rfl (gU N need) rfl
 show(m7 (h6 N need).2 N.regs++sZ (gU N need).2).map eA.init=_
 rw[g1];unfold yt m7 sZ
 congr 1
 ·rw[IH];unfold zv KV rQ;rw[UG];refine BT _ _ _ (fun r ak=>?_);rw[aeX,(h7 r ak).len]
 ·rw[IH];have e:∀ws:List (List Int),(ws.flatMap fun l=>ju l 0).map eA.init=ws.flatMap fun l=>aP l.length 0:=fun ws=>by
   rw[IH];exact BT _ _ _ (fun l _=>aeX l 0)
  rw[BT _ _ _ (fun ws _=>e ws)];have DV:∀(ws:List (List (List Int))) (ms:List hf),ws.length=ms.length->(∀(k:Nat) (z:hf),ms[k]?=some z->(ws.getD k []).length=z.words.toNat∧∀x,x∈ws.getD k []->x.length=z.width.toNat)->(ws.flatMap fun x=>x.flatMap fun l=>aP l.length 0)=vs (ms.map fun m=>List.replicate m.words.toNat 0) ms:=by
   intro ws ms F h
   induction ms generalizing ws with
   | nil =>
    obtain rfl:ws=[]:=yc F
    rfl
   | cons m ms aA =>
    cases ws with
    | nil=>simp at F
    | cons x ws =>
     obtain⟨bp,aS⟩:=h 0 m rfl;have bp:x.length=m.words.toNat:=bp;have aS:∀l,l∈x->l.length=m.width.toNat:=aS;rw[List.flatMap_cons,List.map_cons,vs,aA ws (by simpa using F) (fun k z ao=>by have:=h (k+1) z (by simpa using ao);simpa using this),BT _ (fun _=>aP m.width.toNat 0) x (fun l hl=>by rw[aS l hl]),<-bp]
     congr 1
     exact amN x _
  exact DV _ _ lS.len (fun k z ao=>⟨by have:=(lS.each k z ao).1;omega,fun x J=>((lS.each k z ao).2.2.1 x J).2⟩)
theorem alc {S:dp} {N:aR} (aO:eM Y w S N) (aG:er N=true) (gB:lR N need) (j6:List (List Nat)) :
  runN (kc N need) (j6.map fun l=>iE l N.ins) (tu (kc N need))=(tB N j6 (zv N)).map fun l=>iE l (pD N N.outs):=by
 rw[ala aO aG gB];exact ald aO aG gB j6 _ (WX aO aG)
structure lc (G:eq) (ni n:Nat):Prop where
 ins:G.ins=(ni:Int)
 first:jC G=1+ni+G.lats.length
 all:jC G+G.ands.length=n
 le:n<=100000000
 ll:G.lats.length<=6000
 lo:G.outs.length<=60000
 ands:∀(k:Nat) (d:Z),G.ands[k]?=some d->(0<=d.x∧d.x<2*((jC G+k:Nat):Int))∧(0<=d.y∧d.y<2*((jC G+k:Nat):Int))
 lats:∀z,z∈G.lats->0<=z.next∧z.next<2*(n:Int)
 outs:∀z,z∈G.outs->0<=z∧z<2*(n:Int)
def jG (nd:List Bool) (v:Nat):Prop:=nd[v]?=some true
def xH (x:Nat):Value:= .int .i64 (x:Int)
theorem Oq (h:jG nd v):jG (nd.set x true) v:=by
 unfold jG at *;rw[List.getElem?_set];split
 ·next e =>
  subst e
  have:=(cr.1 h).1
  simp[this]
 ·exact h
theorem afy (h:x<nd.length):jG (nd.set x true) x:=by
 unfold jG;simp[h]
theorem Xx (h:jG (nd.set x true) v):v=x∨jG nd v:=by
 unfold jG at *;rw[List.getElem?_set] at h;split at h
 ·next e=>exact .inl e.symm
 ·exact .inr h
def j5 (v:Nat) (s:List Bool×List Nat):List Bool×List Nat:=if s.1[v]?=some true then s else (s.1.set v true,s.2++[v])
theorem RZ {s:List Bool×List Nat} (h:v<s.1.length):jG (j5 v s).1 v:=by
 unfold j5;split
 ·next e=>exact e
 ·exact afy h
theorem K5 {s:List Bool×List Nat} (h:jG s.1 x):jG (j5 v s).1 x:=by
 unfold j5;split
 ·exact h
 ·exact Oq h
theorem afk (v:Nat) (s:List Bool×List Nat):(j5 v s).1.length=s.1.length:=by
 unfold j5;split <;> simp
def AG (s:List Bool×List Nat):Nat:=2*s.1.count false+s.2.length
theorem acd (L:v<nd.length) (ag:¬nd[v]?=some true):(nd.set v true).count false+1=nd.count false:=by
 induction nd generalizing v with
 | nil=>simp at L
 | cons x t aA =>
  cases v with
  | zero =>
   cases x
   ·simp
   ·simp at ag
  | succ v =>
   have:=aA (v:=v) (by simpa using L) (by simpa using ag)
   simp only[mi,List.count_cons];omega
theorem Xo {s:List Bool×List Nat} (L:v<s.1.length):AG (j5 v s)<=AG s:=by
 unfold j5;split
 ·exact aL _
 ·next ag =>
  have:=acd L ag
  unfold AG;simp only[List.length_append,List.length_singleton];omega
def qO (ins k n:Nat):List Bool×List Nat:=(List.replicate (1+ins+k) true++List.replicate n false,(List.range k).map fun i=>1+ins+i)
theorem akU (ins k n:Nat):j5 (1+ins+k) (qO ins k (n+1))=qO ins (k+1) n:=by
 have h:((qO ins k (n+1)).1)[1+ins+k]?=some false:=by
  unfold qO;rw[lu (by simp)];simp
 unfold j5;rw[if_neg (by rw[h];simp)];unfold qO;refine Prod.ext ?_ ?_
 ·show(List.replicate (1+ins+k) true++List.replicate (n+1) false).set (1+ins+k) true=_
  rw[List.set_append_right _ _ (by simp)];simp only[List.length_replicate,Nat.sub_self,List.replicate_succ,mh];rw[show 1+ins+(k+1)=(1+ins+k)+1 by omega,List.replicate_succ'];simp
 ·show _=(List.range (k+1)).map _;rw[List.range_succ,g1];rfl
theorem OO {α:Type} {l:List α} {k:Nat} {x:α} (h:l[k]?=some x):l.take (k+1)=l.take k++[x]:=by
 rw[List.take_add_one,h];rfl
def je (bm:Nat->Nat) (l:Int):Int:=2*(bm (l.toNat / 2):Nat)+l%2
def jd (bm:Nat->Nat) (bx:List Bool) (ands:List Z) (k:Nat):List Z:=((ands.zip bx).take k).filterMap fun x=>if x.2 then some ⟨je bm x.1.x,je bm x.1.y⟩ else none
def i2 (bm:Nat->Nat) (bx:List Bool) (lats:List eA) (k:Nat):List eA:=((lats.zip bx).take k).filterMap fun x=>if x.2 then some ⟨je bm x.1.next,x.1.init⟩ else none
theorem aeR {α β:Type} (f:α×Bool->β) (l:List (α×Bool)):(l.filterMap fun x=>if x.2 then some (f x) else none).length=(l.map Prod.snd).count true:=by
 induction l with
 | nil=>rfl
 | cons x t aA =>
  obtain⟨d,b⟩:=x;cases b
  ·simpa using aA
  ·simpa using aA
theorem RN (bm:Nat->Nat) (bx:List Bool) (ands:List Z) (k:Nat) (hl:bx.length=ands.length):(jd bm bx ands k).length=(bx.take k).count true:=by
 unfold jd;rw[aeR (fun(x:Z×Bool)=>(⟨je bm x.1.x,je bm x.1.y⟩:Z))]
 congr 1
 rw[List.map_take]
 congr 1
 rw[List.map_snd_zip];omega
theorem W6 (bm:Nat->Nat) (bx:List Bool) (lats:List eA) (k:Nat) (hl:bx.length=lats.length):(i2 bm bx lats k).length=(bx.take k).count true:=by
 unfold i2;rw[aeR (fun(x:eA×Bool)=>(⟨je bm x.1.next,x.1.init⟩:eA))]
 congr 1
 rw[List.map_take]
 congr 1
 rw[List.map_snd_zip];omega
theorem W5 (bm:Nat->Nat) (bx:List Bool) (ands:List Z) (k:Nat) (d:Z) (b:Bool) (U:ands[k]?=some d) (D:bx[k]?=some b):jd bm bx ands (k+1)=jd bm bx ands k++(if b then [⟨je bm d.x,je bm d.y⟩] else []):=by
 unfold jd;have ao:(ands.zip bx)[k]?=some (d,b):=by rw[List.getElem?_zip_eq_some];exact⟨U,D⟩
 rw[OO ao,List.filterMap_append];cases b <;> rfl
theorem aeQ (bm:Nat->Nat) (bx:List Bool) (lats:List eA) (k:Nat) (d:eA) (b:Bool) (U:lats[k]?=some d) (D:bx[k]?=some b):i2 bm bx lats (k+1)=i2 bm bx lats k++(if b then [⟨je bm d.next,d.init⟩] else []):=by
 unfold i2;have ao:(lats.zip bx)[k]?=some (d,b):=by rw[List.getElem?_zip_eq_some];exact⟨U,D⟩
 rw[OO ao,List.filterMap_append];cases b <;> rfl
def g6 (nd:List Bool) (v:Nat):Nat:=(nd.take v).count true
theorem Se {k:Nat} {b:Bool} (h:nd[k]?=some b):g6 nd (k+1)=g6 nd k+(if b then 1 else 0):=by
 unfold g6;rw[OO h,List.count_append];cases b <;> rfl
theorem atU (nd:List Bool) (v:Nat):g6 nd v<=nd.length:=by
 unfold g6
 have:=List.count_le_length (a:=true) (l:=nd.take v)
 have O:(nd.take v).length<=nd.length:=by rw[jx];omega
 omega
def kg (nd:List Bool) (G:eq):eq:=⟨G.ins,i2 (g6 nd) (nd.drop (1+G.ins.toNat)) G.lats G.lats.length,jd (g6 nd) (nd.drop (jC G)) G.ands G.ands.length,G.outs.map (je (g6 nd))⟩
theorem oW (w:World) (b j:Nat) (v:Value):w.grownBy (w.setCell ⟨b,j,none⟩ v) (some b):=by
 refine⟨rfl,rfl,rfl,by simp[World.setCell],fun k X cb=>?_⟩;have VW:k≠b:=fun e=>cb (by rw[e])
 simp[World.setCell,Array.getElem?_modify,Ne.symm VW]
theorem Al {a b c d:World} {row:Option Nat} (F:a.grownBy b (some x)) (O:b.grownBy c row) (aW:c.grownBy d (some x)) (ak:∀y,row=some y->a.heap.size<=y):a.grownBy d (some x) :=
 ⟨aW.os.trans (O.os.trans F.os),aW.tape.trans (O.tape.trans F.tape),aW.output.trans (O.output.trans F.output),bL F.size (bL O.size aW.size),fun k X cb=>by
  have s1:=F.size;have Bj:=O.size;rw[aW.block k (by omega) cb,O.block k (by omega) (fun e=>by have:=ak k e.symm;omega),F.block k X cb]⟩
theorem iZ (w:World) (o:Obj) (row:Option Nat):w.grownBy (w.alloc o).drew row:=⟨rfl,rfl,rfl,by simp,fun k X _=>heap_alloc_old w o X⟩
theorem Gh {v:Value} (h:w.ownsRow C e gx v n xs):∃a c,v = .slice a n c:=by
 rcases h.2 with ⟨aI,F⟩ | ⟨g,cap,hV,L,_⟩
 ·exact⟨none,0,by rw[aI,F]⟩
 ·exact⟨_,cap,L⟩
theorem jj (w:World) (o:Obj) (row:Option Nat):w.grownBy (w.alloc o) row:=⟨rfl,rfl,rfl,by simp,fun k X _=>heap_alloc_old w o X⟩
theorem Sk {b:Nat} {iU iG hT Ge:Value} (aI:w.cell? ⟨b,0,none⟩=some iU) (F:w.cell? ⟨b,1,none⟩=some iG) (O:w.cell? ⟨b,2,none⟩=some hT) (aW:w.cell? ⟨b,3,none⟩=some Ge) (bX dC en e1:Value) :
  ((((w.setCell ⟨b,0,none⟩ bX).setCell ⟨b,1,none⟩ dC).setCell ⟨b,2,none⟩ en).setCell ⟨b,3,none⟩ e1).cell? ⟨b,0,none⟩=some bX∧((((w.setCell ⟨b,0,none⟩ bX).setCell ⟨b,1,none⟩ dC).setCell ⟨b,2,none⟩ en).setCell ⟨b,3,none⟩ e1).cell? ⟨b,1,none⟩=some dC∧((((w.setCell ⟨b,0,none⟩ bX).setCell ⟨b,1,none⟩ dC).setCell ⟨b,2,none⟩ en).setCell ⟨b,3,none⟩ e1).cell? ⟨b,2,none⟩=some en∧((((w.setCell ⟨b,0,none⟩ bX).setCell ⟨b,1,none⟩ dC).setCell ⟨b,2,none⟩ en).setCell ⟨b,3,none⟩ e1).cell? ⟨b,3,none⟩=some e1:=by
 have n:∀i j:Nat,i≠j->(⟨b,i,none⟩:Addr)≠⟨b,j,none⟩:=fun i j h e=>h (by injection e)
 have o:∀(w:World) (i j:Nat) (x:Value),i≠j->(w.setCell ⟨b,i,none⟩ x).cell? ⟨b,j,none⟩=w.cell? ⟨b,j,none⟩:=fun w i j x h=>by apply oL;exact n i j h
 refine⟨?_,?_,?_,?_⟩
 ·rw[o _ 3 0 _ (by decide),o _ 2 0 _ (by decide),o _ 1 0 _ (by decide)];apply on;exact aI
 ·rw[o _ 3 1 _ (by decide),o _ 2 1 _ (by decide)];apply on;exact((o _ 0 1 _ (by decide)).trans F)
 ·rw[o _ 3 2 _ (by decide)];apply on;exact((o _ 1 2 _ (by decide)).trans ((o _ 0 2 _ (by decide)).trans O))
 ·apply on;exact((o _ 2 3 _ (by decide)).trans ((o _ 1 3 _ (by decide)).trans ((o _ 0 3 _ (by decide)).trans aW)))
theorem IP {v:Value} (h:w.ownsRow C e gx v n xs) (J:x<C):v.ownBlock=none∨v.ownBlock≠some x:=by
 refine .inr fun e=>?_
 have:=(h.lt x e).1
 omega
theorem OJ (w:World) (b:Nat) (bX dC en e1:Value):w.grownBy ((((w.setCell ⟨b,0,none⟩ bX).setCell ⟨b,1,none⟩ dC).setCell ⟨b,2,none⟩ en).setCell ⟨b,3,none⟩ e1) (some b) :=
 js (js (js (oW _ _ _ _) (oW _ _ _ _)) (oW _ _ _ _)) (oW _ _ _ _)
def zH (l:Int):Nat:=l.toNat / 2
def aru (l:eA):Nat:=l.next.toNat / 2
end Go.Proofs.YtcbcenfjigcfkaaGreatDoor
