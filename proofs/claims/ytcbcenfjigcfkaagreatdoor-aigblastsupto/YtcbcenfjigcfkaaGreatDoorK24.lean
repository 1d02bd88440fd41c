import Derived.Test.YtcbcenfjigcfkaaGreatDoorK23
set_option maxRecDepth 100000
set_option maxHeartbeats 40000000
namespace Go.Proofs.YtcbcenfjigcfkaaGreatDoor
open Go.RowKit
theorem alR (aC:World) (N:aR) (row regs:List Nat) (ms:List g2) (am:List Nat) (d:eO) (gP kw iR fX:Option Addr) (fY kx lf gJ eh gA:Nat) (jY:Hid (∀(j:Nat) (v:Value),d.cells[j]?=some v->aC.cell? ⟨gA,j,none⟩=some v)) (_hdb:gA<aC.heap.size) (X:d.kind≠30∧d.kind≠31∧d.kind≠32) (aG:Ht d.kind d.width.toNat d.num.toNat (vL N am d.args)) (aw:1<=d.width) (yF:0<=d.num) (Nk:cm aC.heap.size aC d.aa 1 (d.args.map j4)) (bO:∀a,a∈d.args->0<=a∧a<(am.length:Int)∧a<(N.nodes.length:Int)) (qY:cm aC.heap.size aC fX 1 (am.map k6)) (a1:Option Addr) (c1:Nat) (cy:aC.cell? ⟨eh,1,none⟩=some (.slice a1 N.nodes.length c1)) (uE:eh<aC.heap.size) (adQ:cm aC.heap.size aC a1 4 (N.nodes.map eO.cells)) (zs:∀z,z∈N.nodes->1<=z.width) (b9:Act->World->Prop) (eV:Exit->Act->World->Prop) {bX e2 ea ec dL cz eF ex ey cM cA cB cC cD cS cT cH cW cX cY cN cI c7 dD dE dF dh dO dP dr dt di dj c8 c9 db dd de df dG dH du cZ c6 dw dx dQ dy dz dI dJ dK dk dl dm dn dR dS dT dU dV dW dX dY dZ d0 d3 d4 d5 d6 d7 d8 ei ed eR eS eT eU fy fA e3 fM fC fD e4 e5 e6 e7 fN fO fP fB fc fd fe ff fg fh fi fj fk eY eZ e0 fJ fK fL fl fm fo fp fq fs ft fu fv fw eH eI eJ eK eL:Value}
  (dM:Hid (∀(s:Value) (B:World) {xV uS ww wx wy wz uT uU uW tG tH tI uX uY wA wB wD wE wF wG wH wI xW xX xY xZ x0 wJ wK uZ va vb tJ tK tL tM tN tO tP tQ tR tS tT tU tV tW tX tY tZ t0 t1 t2 t3 t4 wL wM wN wO wP wQ wR x1 x2 yV x3 x4 x5 x6 x7 x8 x9 wS wT v4 v5 v6 v7 v8 v9 wa wb we xQ xR xS xT xU wf wg wh wj wk wm wo wp wq wu wv:Value},s = .int .u64 ((lY N row regs (ms.map g2.l) am d:Nat):Int)->Hid (V aC B)->b9 ⟨#[bX,.slice gP row.length fY,.slice kw regs.length kx,.slice iR ms.length lf,.pointer (some ⟨eh,0,none⟩),e2,ea,ec,dL,.slice fX am.length gJ,cz,.pointer (some ⟨gA,0,none⟩),s,xV,uS,ww,cM,cA,cB,cC,cD,cS,cT,cH,cW,cX,cY,cN,cI,.int .i64 d.kind,wx,wy,wz,uT,uU,uW,tG,tH,tI,uX,uY,wA,wB,wD,wE,wF,wG,wH,wI,xW,xX,xY,xZ,x0,wJ,wK,uZ,va,vb,tJ,tK,tL,tM,tN,tO,tP,tQ,tR,tS,tT,tU,tV,tW,tX,tY,tZ,t0,t1,t2,t3,t4,wL,wM,wN,wO,wP,wQ,wR,x1,x2,yV,x3,x4,x5,x6,x7,x8,x9,wS,wT,v4,v5,v6,v7,v8,v9,wa,wb,we,xQ,xR,xS,xT,xU,wf,wg,wh,wj,wk,wm,wo,wp,wq,wu,wv,eH,eI,eJ,eK,eL],[]⟩ B)) :
  Code.wp Tryz.prog ((Tryz.f35.body.bind (jh 2)).getD .skip) (Exit.then b9 eV) ⟨#[bX,.slice gP row.length fY,.slice kw regs.length kx,.slice iR ms.length lf,.pointer (some ⟨eh,0,none⟩),e2,ea,ec,dL,.slice fX am.length gJ,cz,.pointer (some ⟨gA,0,none⟩),.int .u64 0,eF,ex,ey,cM,cA,cB,cC,cD,cS,cT,cH,cW,cX,cY,cN,cI,.int .i64 d.kind,c7,dD,dE,dF,dh,dO,dP,dr,dt,di,dj,c8,c9,db,dd,de,df,dG,dH,du,cZ,c6,dw,dx,dQ,dy,dz,dI,dJ,dK,dk,dl,dm,dn,dR,dS,dT,dU,dV,dW,dX,dY,dZ,d0,d3,d4,d5,d6,d7,d8,ei,ed,eR,eS,eT,eU,fy,fA,e3,fM,fC,fD,e4,e5,e6,e7,fN,fO,fP,fB,fc,fd,fe,ff,fg,fh,fi,fj,fk,eY,eZ,e0,fJ,fK,fL,fl,fm,fo,fp,fq,fs,ft,fu,fv,fw,eH,eI,eJ,eK,eL],[]⟩ aC:=by
 have nJ:aC.cell? ⟨gA,0,none⟩=some (.int .i64 d.kind):=jY 0 _ rfl;have d1:aC.cell? ⟨gA,1,none⟩=some (.int .i64 d.width):=jY 1 _ rfl;have d2:aC.cell? ⟨gA,2,none⟩=some (.int .u64 d.num):=jY 2 _ rfl;have qP:aC.cell? ⟨gA,3,none⟩=some (.slice d.aa d.args.length d.ac):=jY 3 _ rfl;clear jY
 conv=>arg 2;whnf
 obtain⟨val,ug⟩:∃val,Hid (lY N row regs (ms.map g2.l) am d=val):=⟨_,rfl⟩
 rw[ug.out] at dM;obtain⟨ps,He⟩:∃ps,Hid (vL N am d.args=ps):=⟨_,rfl⟩
 have xf:Hid (hh d.kind d.width.toNat d.num.toNat ps=val):=by
  show _=_;rw[<-ug.out,<-He.out];unfold lY;rw[if_neg X.1,if_neg X.2.1,if_neg X.2.2]
 have DF:=aG;rw[He.out] at DF;have sR:ps.length=d.args.length:=by rw[<-He.out];simp[vL]
 have aU:=DF.len;rw[sR] at aU;simp only[cd] at aU;have CM:=K Nk;have vn:=K adQ;have dg:=DF.w1;have azN:=DF.w2;have cl:Hid (∀(k:Nat) (a:Int),d.args[k]?=some a->ps[k]?=some (gR am a,(f2 N a).toNat)∧0<=a∧a<(am.length:Int)∧a<(N.nodes.length:Int)):=by
  intro k a ad;refine⟨?_,bO a (bn ad)⟩;rw[<-He.out];simp[vL,ad]
 obtain⟨ev,eB,fb,em,b8⟩:=WW;obtain⟨Ch,xA,xF,xD,xv⟩:=Oc
 change Hid _ at DF qY eB fb em b8 xA xF xD xv
 clear ug He aG Nk adQ bO;obtain⟨kind,width,num,args,aa,ac⟩:=d;simp only at *;obtain⟨kd,lD,kq⟩:=X;have axm:(kind==30)=false:=by simp[kd]
 have axn:(kind==31)=false:=by simp[lD]
 have axo:(kind==32)=false:=by simp[kq]
 have cs:args.length=0∨(∃bJ cP gs iW M im,aa=some ⟨bJ,cP,none⟩∧fX=some ⟨gs,iW,none⟩∧a1=some ⟨M,im,none⟩∧bJ<aC.heap.size∧gs<aC.heap.size∧M<aC.heap.size∧Hid (∀(i:Nat),i<args.length->aC.cell? ⟨bJ,cP+i,none⟩=some (.int .i64 (bi args i)))∧Hid (∀(i x:Nat),am[i]?=some x->aC.cell? ⟨gs,iW+i,none⟩=some (.int .u64 (x:Int)))∧Hid (∀(i:Nat) (z:eO),N.nodes[i]?=some z->aC.cell? ⟨M,im+i*4+1,none⟩=some (.int .i64 z.width))):=by
  rcases Nat.eq_zero_or_pos args.length with aI | aI
  ·exact .inl aI
  ·right
   have aE:=cl 0 _ (vr aI);obtain⟨bJ,cP,bQ,oa,pn⟩:=CM.int aI;obtain⟨y,aF⟩:∃y,am[(bi args 0).toNat]?=some y:=⟨am[(bi args 0).toNat]'(by omega),ct (by omega)⟩
   obtain⟨gs,iW,yu,o1,-⟩:=Ld qY aF;obtain⟨z,ao⟩:∃z,N.nodes[(bi args 0).toNat]?=some z:=⟨N.nodes[(bi args 0).toNat]'(by omega),ct (by omega)⟩
   obtain⟨M,im,nk,o0,-⟩:=vn.el ao;refine⟨bJ,cP,gs,iW,M,im,bQ,yu,nk,oa,o1,o0,pn,fun i x J=>?_,fun i z ao=>?_⟩
   ·obtain⟨b,o,e,-,ar⟩:=Ld qY J;rw[yu] at e;cases e;exact ar
   ·obtain⟨b,o,e,-,ar⟩:=vn.el ao;rw[nk] at e;cases e;exact ar 1 _ rfl
 clear CM qY vn;rcases cs with aI | ⟨bJ,cP,gs,iW,M,im,rfl,rfl,rfl,oa,o1,o0,ajL,ajU,ajT⟩
 ·go_wp2_with fail
  go_loopw [13,14,15] (fun a b aq B=>∃(k:Nat),k<=args.length∧aq = .int .i64 k∧Hid (B.ownsRow aC.heap.size 32 1 a k ((ps.take k).map (fun p:Nat×Nat=>Value.int .u64 (p.1:Int))))∧Hid (B.ownsRow aC.heap.size 3 1 b k ((ps.take k).map (fun p:Nat×Nat=>Value.int .i64 (p.2:Int))))∧Hid (Sep a b)∧Hid (V aC B)) (fun _ _ aq _=>args.length - (intOf aq).toNat)
  case atStart=>exact⟨0,cE _,rfl,k8 _ _ _ _,k8 _ _ _ _,.inl rfl,ax _ _⟩
  case round =>
   obtain⟨k,X,rfl,EZ,hN,z0,au⟩:=hrel;have lZ:=(au.cell (p:=⟨gA,3,none⟩) _hdb).trans qP;by_cases aB:k<args.length
   ·omega
   ·have cQ:¬((k:Int)<(args.length:Int)):=by omega
    have mz:=(au.cell (p:=⟨gA,0,none⟩) _hdb).trans nJ;have io:=(au.cell (p:=⟨gA,1,none⟩) _hdb).trans d1;have jM:=(au.cell (p:=⟨gA,2,none⟩) _hdb).trans d2;have NA:k=ps.length:=by omega
    have HY:=EZ.out;have HZ:=hN.out;rw[fQ (by omega)] at HY HZ;obtain⟨-,ee,ca,rfl,ra⟩:=s0 (g:=(fun p:Nat×Nat=>Value.int .u64 (p.1:Int))) HY;obtain⟨-,xm,MW,rfl,bG⟩:=s0 (g:=(fun p:Nat×Nat=>Value.int .i64 (p.2:Int))) HZ;have T9:Hid (Calls Tryz.prog 65 #[.int .i64 kind,.int .i64 width,.int .u64 num,.slice ee k ca,.slice xm k MW] wr fun e B=>e = .returned (.int .u64 (val:Int))∧∃q,B=wr.drewN q):=by
     have:=afE wr.heap.size wr kind width.toNat num.toNat ps DF ee xm ca MW ra bG
     rw[<-NA,show((width.toNat:Nat):Int)=width by omega,show((num.toNat:Nat):Int)=num by omega,xf.out] at this;exact this
    clear EZ hN z0 HY HZ ra bG xf DF cl NA sR X aI;go_wp2_with (go_at_call 65;refine T9.mono ?_;rintro e w2 ⟨rfl,q,rfl⟩)
    exact dM _ _ rfl (Below.drewN au _)
 ·go_wp2_with fail
  go_loopw [13,14,15] (fun a b aq B=>∃(k:Nat),k<=args.length∧aq = .int .i64 k∧Hid (B.ownsRow aC.heap.size 32 1 a k ((ps.take k).map (fun p:Nat×Nat=>Value.int .u64 (p.1:Int))))∧Hid (B.ownsRow aC.heap.size 3 1 b k ((ps.take k).map (fun p:Nat×Nat=>Value.int .i64 (p.2:Int))))∧Hid (Sep a b)∧Hid (V aC B)) (fun _ _ aq _=>args.length - (intOf aq).toNat)
  case atStart=>exact⟨0,cE _,rfl,k8 _ _ _ _,k8 _ _ _ _,.inl rfl,ax _ _⟩
  case round =>
   obtain⟨k,X,rfl,EZ,hN,z0,au⟩:=hrel;have lZ:=(au.cell (p:=⟨gA,3,none⟩) _hdb).trans qP;by_cases aB:k<args.length
   ·have es:=ajL k aB;have aE:=cl k _ (vr aB);obtain⟨y,aF⟩:∃y,am[(bi args k).toNat]?=some y:=⟨am[(bi args k).toNat]'(by omega),ct (by omega)⟩
    have un:=ajU _ y aF;obtain⟨z,ao⟩:∃z,N.nodes[(bi args k).toNat]?=some z:=⟨N.nodes[(bi args k).toNat]'(by omega),ct (by omega)⟩
    have ji:=ajT _ z ao;have bp:gR am (bi args k)=y:=by unfold gR;rw[aF];rfl
    have aS:f2 N (bi args k)=z.width:=by unfold f2;rw[ao];rfl
    have WP:=zs z (bn ao);rw[bp,aS] at aE;generalize bi args k=a at *;have Oa:z.width=((z.width.toNat:Nat):Int):=by omega
    rw[Oa] at ji;generalize z.width.toNat=wd at *;have alq:=(au.cell (p:=⟨bJ,cP+k,none⟩) oa).trans es;have ace:=(au.cell (p:=⟨gs,iW+a.toNat,none⟩) o1).trans un;have IR:=(au.cell (p:=⟨eh,1,none⟩) uE).trans cy;have alV:=(au.cell (p:=⟨M,im+a.toNat*4+1,none⟩) o0).trans ji;obtain⟨Wi,qp,ux,QP⟩:=aE;have fa:(k:Int)<(args.length:Int):=by omega
    have bM:=bF ((k:Int)+1);have cn:k+1<=maxLen:=by simp only[maxLen];omega
    have cq:(k+1)*8<=140737488355328:=by omega
    have gY:=au.size;have cJ:aC.heap.size<=(wr.alloc (.cells #[.int .u64 (y:Int)] 32)).heap.size:=by simp;omega
    change Hid _ at Wi
    clear aF ao bp aS WP Oa;have tok:True:=trivial;go_wp2_with (have _t:=tok;at_builtin;(refine wpList_append_lies _ rfl (.tmp 37) (.tmp 46) 33 rfl aC.heap.size 32 Ch _ 1 8 Tryz.underlying33 xA xF xD xv rfl (by decide) u13 k _ rfl (EZ.alloc _) ⟨wr.heap.size,0,none⟩ 1 1 [.int .u64 (y:Int)] rfl rfl (i5 (h8 _ _)) (by simp[Value.oneCell']) (by decide) cn cq cJ _ rfl ?_;intro g cap al bc br aO cj;clear tok))
    have cV:Hid (V aC al):=us au EZ br;have TB:Hid (al.ownsRow aC.heap.size 32 1 (.slice (some ⟨g,0,none⟩) (k+1) cap) (k+1) ((ps.take (k+1)).map (fun p:Nat×Nat=>Value.int .u64 (p.1:Int)))):=by
     have:=bc
     rw[gM _ k _ Wi,g1];exact this
    have Pv:Hid (al.ownsRow aC.heap.size 3 1 u14 k ((ps.take k).map (fun p:Nat×Nat=>Value.int .i64 (p.2:Int)))):=(hN.alloc _).kept br z0.other;have TP:Hid (Sep (.slice (some ⟨g,0,none⟩) (k+1) cap) u14):=z0.new (hN.alloc _) aO (aL _);have azH:=cV.size;have Rc:aC.heap.size<=((al.alloc (.cells #[.int .i64 (wd:Int)] 3)).drew).heap.size:=by simp;omega
    clear bc br aO cj cJ EZ hN z0 au alq ace IR alV lZ gY
    go_region_held3 (fun B=>V aC B∧(∀bw o,bw<aC.heap.size->B.cell? ⟨bw,o,none⟩=aC.cell? ⟨bw,o,none⟩))
     (first|assumption|exact gl cV|exact gl cV.drew|exact X9 cV _|exact Ya cV Pv (by assumption))
     ((refine step_append_lies _ rfl (.tmp 48) (.tmp 59) 22 rfl aC.heap.size 3 ev _ 1 8 Tryz.underlying22 eB fb em b8 rfl (by decide) u14 k _ rfl (Pv.alloc _).drew ⟨al.heap.size,0,none⟩ 1 1 [.int .i64 (wd:Int)] rfl rfl (i5 (h8 _ _)) (by simp[Value.oneCell']) (by decide) cn cq Rc _ rfl ?_;intro bK ab1 aH adX VP Nl ady))
    have lx:Hid (V aC aH):=Qv cV Pv VP;have aje:Hid (aH.ownsRow aC.heap.size 3 1 (.slice (some ⟨bK,0,none⟩) (k+1) ab1) (k+1) ((ps.take (k+1)).map (fun p:Nat×Nat=>Value.int .i64 (p.2:Int)))):=by
     have:=adX
     rw[gM _ k _ Wi,g1];exact this
    have ajd:Hid (aH.ownsRow aC.heap.size 32 1 (.slice (some ⟨g,0,none⟩) (k+1) cap) (k+1) ((ps.take (k+1)).map (fun p:Nat×Nat=>Value.int .u64 (p.1:Int)))):=((TB.alloc _).drew).kept VP TP.symm.other;have ajz:Hid (Sep (.slice (some ⟨g,0,none⟩) (k+1) cap) (.slice (some ⟨bK,0,none⟩) (k+1) ab1)):=(TP.symm.new (TB.alloc _).drew Nl (aL _)).symm;clear adX VP Nl ady TB Pv TP cV cn cq Rc;go_wp2;go_roundw
    case measure=>simp[intOf];omega
    exact⟨k+1,by omega,by simp,ajd.out,aje.out,ajz.out,lx⟩
   ·have cQ:¬((k:Int)<(args.length:Int)):=by omega
    have mz:=(au.cell (p:=⟨gA,0,none⟩) _hdb).trans nJ;have io:=(au.cell (p:=⟨gA,1,none⟩) _hdb).trans d1;have jM:=(au.cell (p:=⟨gA,2,none⟩) _hdb).trans d2;have NA:k=ps.length:=by omega
    have HY:=EZ.out;have HZ:=hN.out;rw[fQ (by omega)] at HY HZ;obtain⟨-,ee,ca,rfl,ra⟩:=s0 (g:=(fun p:Nat×Nat=>Value.int .u64 (p.1:Int))) HY;obtain⟨-,xm,MW,rfl,bG⟩:=s0 (g:=(fun p:Nat×Nat=>Value.int .i64 (p.2:Int))) HZ;have T9:Hid (Calls Tryz.prog 65 #[.int .i64 kind,.int .i64 width,.int .u64 num,.slice ee k ca,.slice xm k MW] wr fun e B=>e = .returned (.int .u64 (val:Int))∧∃q,B=wr.drewN q):=by
     have:=afE wr.heap.size wr kind width.toNat num.toNat ps DF ee xm ca MW ra bG
     rw[<-NA,show((width.toNat:Nat):Int)=width by omega,show((num.toNat:Nat):Int)=num by omega,xf.out] at this;exact this
    clear EZ hN z0 HY HZ ra bG xf DF cl NA sR X;go_wp2_with (go_at_call 65;refine T9.mono ?_;rintro e w2 ⟨rfl,q,rfl⟩)
    exact dM _ _ rfl (Below.drewN au _)
theorem alS (aC:World) (N:aR) (row regs:List Nat) (ms:List g2) (am:List Nat) (d:eO) (gP kw iR fX:Option Addr) (fY kx lf gJ eh gA:Nat) (jY:Hid (∀(j:Nat) (v:Value),d.cells[j]?=some v->aC.cell? ⟨gA,j,none⟩=some v)) (tn:gA<aC.heap.size) (Y:Nat) (S:dp) (aO:eM Y aC S N) (U9:Y<=aC.heap.size) (aG:er N=true) (i:Nat) (U:N.nodes[i]?=some d) (dB:vq N regs (ms.map g2.l)) (oF:am.length=i) (N2:De N am) (nR:cm aC.heap.size aC gP 1 (row.map k6)) (md:row.length<cd) (KN:∀x,x∈row->x<18446744073709551616) (Ip:cm aC.heap.size aC kw 1 (regs.map k6)) (yE:Hq aC.heap.size aC iR ms) (qY:cm aC.heap.size aC fX 1 (am.map k6)) (cy:aC.cell? ⟨eh,1,none⟩=some (.slice S.a1 N.nodes.length S.c1)) (uE:eh<aC.heap.size) (b9:Act->World->Prop) (eV:Exit->Act->World->Prop) {bX e2 ea ec dL cz eF ex ey cM cA cB cC cD cS cT cH cW cX cY cN cI c7 dD dE dF dh dO dP dr dt di dj c8 c9 db dd de df dG dH du cZ c6 dw dx dQ dy dz dI dJ dK dk dl dm dn dR dS dT dU dV dW dX dY dZ d0 d3 d4 d5 d6 d7 d8 ei ed eR eS eT eU fy fA e3 fM fC fD e4 e5 e6 e7 fN fO fP fB fc fd fe ff fg fh fi fj fk eY eZ e0 fJ fK fL fl fm fo fp fq fs ft fu fv fw eH eI eJ eK eL:Value}
  (dM:Hid (∀(s:Value) (B:World) {xV uS ww wx wy wz uT uU uW tG tH tI uX uY wA wB wD wE wF wG wH wI xW xX xY xZ x0 wJ wK uZ va vb tJ tK tL tM tN tO tP tQ tR tS tT tU tV tW tX tY tZ t0 t1 t2 t3 t4 wL wM wN wO wP wQ wR x1 x2 yV x3 x4 x5 x6 x7 x8 x9 wS wT v4 v5 v6 v7 v8 v9 wa wb we xQ xR xS xT xU wf wg wh wj wk wm wo wp wq wu wv:Value},s = .int .u64 ((lY N row regs (ms.map g2.l) am d:Nat):Int)->Hid (V aC B)->b9 ⟨#[bX,.slice gP row.length fY,.slice kw regs.length kx,.slice iR ms.length lf,.pointer (some ⟨eh,0,none⟩),e2,ea,ec,dL,.slice fX am.length gJ,cz,.pointer (some ⟨gA,0,none⟩),s,xV,uS,ww,cM,cA,cB,cC,cD,cS,cT,cH,cW,cX,cY,cN,cI,.int .i64 d.kind,wx,wy,wz,uT,uU,uW,tG,tH,tI,uX,uY,wA,wB,wD,wE,wF,wG,wH,wI,xW,xX,xY,xZ,x0,wJ,wK,uZ,va,vb,tJ,tK,tL,tM,tN,tO,tP,tQ,tR,tS,tT,tU,tV,tW,tX,tY,tZ,t0,t1,t2,t3,t4,wL,wM,wN,wO,wP,wQ,wR,x1,x2,yV,x3,x4,x5,x6,x7,x8,x9,wS,wT,v4,v5,v6,v7,v8,v9,wa,wb,we,xQ,xR,xS,xT,xU,wf,wg,wh,wj,wk,wm,wo,wp,wq,wu,wv,eH,eI,eJ,eK,eL],[]⟩ B)) :
  Code.wp Tryz.prog ((Tryz.f35.body.bind (jh 2)).getD .skip) (Exit.then b9 eV) ⟨#[bX,.slice gP row.length fY,.slice kw regs.length kx,.slice iR ms.length lf,.pointer (some ⟨eh,0,none⟩),e2,ea,ec,dL,.slice fX am.length gJ,cz,.pointer (some ⟨gA,0,none⟩),.int .u64 0,eF,ex,ey,cM,cA,cB,cC,cD,cS,cT,cH,cW,cX,cY,cN,cI,.int .i64 d.kind,c7,dD,dE,dF,dh,dO,dP,dr,dt,di,dj,c8,c9,db,dd,de,df,dG,dH,du,cZ,c6,dw,dx,dQ,dy,dz,dI,dJ,dK,dk,dl,dm,dn,dR,dS,dT,dU,dV,dW,dX,dY,dZ,d0,d3,d4,d5,d6,d7,d8,ei,ed,eR,eS,eT,eU,fy,fA,e3,fM,fC,fD,e4,e5,e6,e7,fN,fO,fP,fB,fc,fd,fe,ff,fg,fh,fi,fj,fk,eY,eZ,e0,fJ,fK,fL,fl,fm,fo,fp,fq,fs,ft,fu,fv,fw,eH,eI,eJ,eK,eL],[]⟩ aC:=by
 obtain⟨aY,bO,ay⟩:=ty (uL aG U);have aw:=O1 aY;have aV:=CH aY;have jT:=aO.na d (bn U);have aB:i<N.nodes.length:=(cr.1 U).1;unfold lj at ay;by_cases kd:d.kind=30
 ·exact alO aC N row regs ms am d gP kw iR fX fY kx lf gJ eh gA jY tn kd aw jT.2.1 nR md KN b9 eV dM
 ·rw[if_neg kd] at ay;by_cases lD:d.kind=31
  ·rw[if_pos lD,s5] at ay;exact alP aC N row regs ms am d gP kw iR fX fY kx lf gJ eh gA jY tn lD jT.2.1 (by rw[dB.rl];exact ay.1) Ip b9 eV dM
  ·rw[if_neg lD] at ay;by_cases kq:d.kind=32
   ·rw[if_pos kq,s5] at ay;have hl:=zy aY (n:=1) (by rw[kq];rfl) (by decide);have hC:0<d.args.length:=by omega
    have rF:ms.length=N.mems.length:=by have:=dB.ml;simpa using this
    have ae:=bO _ (bn (vr hC));exact alQ aC N row regs ms am d gP kw iR fX fY kx lf gJ eh gA jY tn kq jT.2.1 (by rw[rF];exact ay.1) yE (jT.1.mono U9) (by omega) ⟨ae.1,by omega⟩ qY b9 eV dM
   ·exact alR aC N row regs ms am d gP kw iR fX fY kx lf gJ eh gA jY tn ⟨kd,lD,kq⟩ (afF aO aG U am (by omega) N2 ⟨kd,lD,kq⟩) aV.1 jT.2.1 (jT.1.mono U9) (fun a ad=>by have:=bO a ad;omega) qY S.a1 S.c1 cy uE (aO.n.mono U9) (fun z ao=>by
     obtain⟨j,aT,rfl⟩:=List.getElem_of_mem ao;exact(CH (ty (uL aG (ct aT))).1).1) b9 eV dM
theorem alt {w:World} {cs:Array Value} {t b j:Nat} (h:b=w.heap.size):(w.alloc (.cells cs t)).cell? ⟨b,j,none⟩=cs[j]?:=by
 subst h;simp
theorem arC (Y:Nat) (w:World) (S:dp) (N:aR) (aO:eM Y w S N) (aM:Y<=w.heap.size) (aG:er N=true) (row regs:List Nat) (ms:List g2) (dB:vq N regs (ms.map g2.l)) (gP kw iR:Option Addr) (fY kx lf:Nat) (nR:cm Y w gP 1 (row.map k6)) (md:row.length<cd) (KN:∀x,x∈row->x<18446744073709551616) (Ip:cm Y w kw 1 (regs.map k6)) (yE:Hq Y w iR ms) :
  Calls Tryz.prog 35 #[.agg (S.cells N),.slice gP row.length fY,.slice kw regs.length kx,.slice iR ms.length lf] w fun e B=>∃v,e = .returned v∧B.ownsRow w.heap.size 32 1 v N.nodes.length ((ky N row regs (ms.map g2.l) N.nodes.length).map ib)∧V w B:=by
 unfold dp.cells;obtain⟨Ch,xA,xF,xD,xv⟩:=Oc;have NG:=aO.ln;simp only[cd] at NG;go_enter Tryz.func35,Tryz.ntmps35
 go_wp2_with fail
 generalize av:World.alloc w _=I;have aD:Hid (V w I):=by rw[<-av];exact(ax _ _).alloc (aL _) _
 have e8:Hid (∀j,I.cell? ⟨w.heap.size,j,none⟩=(#[.slice S.a0 N.ins.length S.c0,.slice S.a1 N.nodes.length S.c1,.slice S.a2 N.regs.length S.c2,.slice S.a3 N.mems.length S.c3,.slice S.a4 N.wrs.length S.c4,.slice S.a5 N.outs.length S.c5]:Array Value)[j]?):=by rw[<-av];intro j;simp
 have a8:w.heap.size<I.heap.size:=by rw[<-av];simp
 have gE:Y<=I.heap.size:=bL aM aD.size;have gg:=K (aO.to (aD.mono aM));have ajr:=K (nR.to (aD.mono aM));have km:=K (Ip.to (aD.mono aM));have Ml:=K (yE.to (aD.mono aM))
 change Hid _ at xA xF xD xv KN md dB aG
 clear av aO nR Ip yE;have cy:I.cell? ⟨w.heap.size,1,none⟩=some (.slice S.a1 N.nodes.length S.c1):=e8 1;go_loopw [9,10] (fun v aq B=>∃(k:Nat),k<=N.nodes.length∧aq = .int .i64 k∧Hid (B.ownsRow I.heap.size 32 1 v k ((ky N row regs (ms.map g2.l) k).map ib))∧Hid (V I B)) (fun _ aq _=>N.nodes.length - (intOf aq).toNat)
 case atStart=>exact⟨0,cE _,rfl,k8 _ _ _ _,ax _ _⟩
 case round =>
  obtain⟨k,X,rfl,a6,au⟩:=hrel;have IR:=(au.cell (p:=⟨w.heap.size,1,none⟩) a8).trans cy;by_cases aB:k<N.nodes.length
  ·obtain⟨d,U⟩:∃d,N.nodes[k]?=some d:=⟨N.nodes[k],ct aB⟩
   obtain⟨ab,bj,bQ,cR,mc⟩:=gg.n.el U;have Ri:ab<I.heap.size:=bk cR gE;have n0:wr.cell? ⟨ab,bj+k*4,none⟩=_:=(au.cell (p:=⟨ab,bj+k*4,none⟩) Ri).trans (mc 0 _ rfl);have n1:=(au.cell (p:=⟨ab,bj+k*4+1,none⟩) Ri).trans (mc 1 _ rfl);have mv:=(au.cell (p:=⟨ab,bj+k*4+2,none⟩) Ri).trans (mc 2 _ rfl);have og:=(au.cell (p:=⟨ab,bj+k*4+3,none⟩) Ri).trans (mc 3 _ rfl);have atO:=IR;rw[bQ] at IR;have fa:(k:Int)<(N.nodes.length:Int):=by omega
   have bM:=bF ((k:Int)+1)
   change Hid _ at U bQ
   clear mc;obtain⟨am,uh⟩:∃am,Hid (ky N row regs (ms.map g2.l) k=am):=⟨_,rfl⟩
   have oF:am.length=k:=by rw[<-uh.out];exact Ai _ _ _ _ _
   have l9:=a6.out;rw[uh.out] at l9;obtain⟨-,fX,gJ,bb,AB⟩:=s0 (g:=ib) l9;rw[<-oF] at bb;subst bb;have C4:=K AB
   change Hid _ at oF l9
   clear AB a6
   go_upto_block 2 with fail
   generalize hy:World.alloc wr _=aC;have fE:Hid (V wr aC):=by rw[<-hy];exact(ax _ _).alloc (aL _) _
   have Zq:Hid (∀(j:Nat) (v:Value),d.cells[j]?=some v->aC.cell? ⟨wr.heap.size,j,none⟩=some v):=by
    intro j v L;rw[<-hy,alt rfl,<-Array.getElem?_toList];exact L
   have tn:wr.heap.size<aC.heap.size:=by rw[<-hy];simp
   clear hy;have BH:Hid (V I aC):=au.trans (fE.mono au.size);have H0:=BH.size;have afT:aC.cell? ⟨w.heap.size,1,none⟩=some (.slice S.a1 N.nodes.length S.c1):=(BH.cell (p:=⟨w.heap.size,1,none⟩) a8).trans cy;have aaP:Hid (De N am):=by rw[<-uh.out];exact M0 gg aG row regs _ dB k
   have tc:Hid (aC.ownsRow I.heap.size 32 1 (.slice fX am.length gJ) k (am.map ib)):=mx l9 fE;have bW:Hid (ky N row regs (ms.map g2.l) (k+1)=am++[lY N row regs (ms.map g2.l) am d]):=by
    show _=_;rw[UJ _ _ _ _ _ d U,uh.out]
   refine alS aC N row regs ms am d gP kw iR fX fY kx lf gJ w.heap.size wr.heap.size Zq tn Y S (gg.to (BH.mono gE)) (bL gE H0) aG k U dB oF aaP ((ajr.to (BH.mono gE)).mono (bL gE H0)) md KN ((km.to (BH.mono gE)).mono (bL gE H0)) ⟨(Ml.1.to (BH.mono gE)).mono (bL gE H0),fun m ae=>⟨((Ml.2 m ae).1.to (BH.mono gE)).mono (bL gE H0),(Ml.2 m ae).2⟩⟩ ((C4.to fE).mono fE.size) afT (bk a8 H0) _ _ ?_;intro s f1 xV uS ww wx wy wz uT uU uW tG tH tI uX uY wA wB wD wE wF wG wH wI xW xX xY xZ x0 wJ wK uZ va vb tJ tK tL tM tN tO tP tQ tR tS tT tU tV tW tX tY tZ t0 t1 t2 t3 t4 wL wM wN wO wP wQ wR x1 x2 yV x3 x4 x5 x6 x7 x8 x9 wS wT v4 v5 v6 v7 v8 v9 wa wb we xQ xR xS xT xU wf wg wh wj wk wm wo wp wq wu wv hs nL;subst hs;generalize lY N row regs (ms.map g2.l) am d=val at *;have jF:Hid (V I f1):=BH.trans (nL.mono BH.size);have TA:Hid (f1.ownsRow I.heap.size 32 1 (.slice fX am.length gJ) k (am.map ib)):=mx tc nL;have Ir:=jF.size;have cn:k+1<=maxLen:=by simp only[maxLen];omega
   have cq:(k+1)*8<=140737488355328:=by omega
   have cJ:I.heap.size<=(f1.alloc (.cells #[.int .u64 (val:Int)] 32)).heap.size:=by simp;omega
   clear nL tc l9 au fE BH H0 Zq aaP n0 n1 mv og IR atO afT C4 tn;have tok:True:=trivial;go_wp2_with (have _t:=tok;at_builtin;(refine wpList_append_lies _ rfl (.tmp 125) (.tmp 127) 33 rfl I.heap.size 32 Ch _ 1 8 Tryz.underlying33 xA xF xD xv rfl (by decide) (.slice fX am.length gJ) k _ rfl (TA.alloc _) ⟨f1.heap.size,0,none⟩ 1 1 [.int .u64 (val:Int)] rfl rfl (i5 (h8 _ _)) (by simp[Value.oneCell']) (by decide) cn cq cJ _ rfl ?_;intro g cap al bc br kX cj;clear tok))
   have i8:Hid (al.ownsRow I.heap.size 32 1 (.slice (some ⟨g,0,none⟩) (k+1) cap) (k+1) ((ky N row regs (ms.map g2.l) (k+1)).map ib)):=by
    show World.ownsRow _ _ _ _ _ _ _;rw[bW.out,g1];exact bc
   have cV:Hid (V I al):=us jF TA br;clear bc br kX cj cn cq cJ TA jF bW uh oF U bQ;go_wp2;go_roundw
   case measure=>simp[intOf];omega
   exact⟨k+1,by omega,by simp,i8.out,cV⟩
  ·have cQ:¬((k:Int)<(N.nodes.length:Int)):=by omega
   have hM:Hid (wr.ownsRow I.heap.size 32 1 u9 N.nodes.length ((ky N row regs (ms.map g2.l) N.nodes.length).map ib)):=by
    have:=a6.out
    rw[show k=N.nodes.length by omega] at this;exact this
   clear a6;go_wp2;go_ret
   exact⟨_,rfl,xN hM aD.size,aD.trans (au.mono aD.size)⟩
end Go.Proofs.YtcbcenfjigcfkaaGreatDoor
