import Derived.Test.YtcbcenfjigcfkaaGreatDoorK13
import Derived.Test.YtcbcenfjigcfkaaGreatDoorK10
import Derived.Deep.CutBlock
set_option maxRecDepth 100000
set_option maxHeartbeats 40000000
namespace Go.Proofs.YtcbcenfjigcfkaaGreatDoor
open Go.RowKit
variable {B w:World} {Ps an:Nat->Prop} {ab k:Nat} {v:Value} {ws:List (List Int)}
theorem arX (Y:Nat) (w:World) (S:dp) (N:aR) (h:eM Y w S N) (aM:Y<=w.heap.size) (i:Nat) (d:eO) (U:N.nodes[i]?=some d) (aY:¬oh d) (aE:Hid (∀j y,j<i->N.nodes[j]?=some y->1<=y.width∧y.width<=32)) (gV:ew d.kind<0) (r:Bool) (bR:Hid (r=if d.args.any (jH i) then false else lj N d)) :
  Calls Tryz.prog 20 #[.agg (S.cells N),.int .i64 i] w fun e B=>e = .returned (.bool r)∧V w B:=by
 unfold dp.cells;obtain⟨b,o,ad,aB,ar⟩:=h.n.el U;have hi:i<N.nodes.length:=by
  rcases Nat.lt_or_ge i N.nodes.length with d9 | d9
  ·exact d9
  ·rw[oN d9] at U;cases U
 have c0:w.cell? ⟨b,o+i*4,none⟩=_:=ar 0 _ rfl;have c1:=ar 1 _ rfl;have c2:=ar 2 _ rfl;have c3:=ar 3 _ rfl;have D:b<w.heap.size:=bk aB aM;have KF:(i:Int)<(N.nodes.length:Int):=by omega
 have gg:Hid (eM Y w S N):=h;have jT:=h.na d (bn U);have j1:Hid (∀w,Calls Tryz.prog 18 #[.int .i64 d.width] w fun e B=>e = .returned (.bool true)∧B=w):=by
  have:=fun w=>LK d.width w
  have e:cL d.width=true:=by cases ay:cL d.width with
   | true=>rfl
   | false=>exact absurd (.inl ay) aY
  rw[e] at this;exact this
 have dg:1<=d.width∧d.width<=32:=by
  have e:cL d.width=true:=by cases ay:cL d.width with
   | true=>rfl
   | false=>exact absurd (.inl ay) aY
  simpa[cL] using e
 have Aa:Hid (∀w,Calls Tryz.prog 37 #[.int .i64 d.kind] w fun e B=>e = .returned (.int .i64 (ew d.kind))∧B=w):=fun w=>YC d.kind w
 have X:ew d.kind≠-2:=fun e=>aY (.inr (.inl e))
 have kK:0<=ew d.kind->(d.args.length:Int)=ew d.kind:=fun e=>Classical.byContradiction fun aS=>aY (.inr (.inr (.inl ⟨e,aS⟩)))
 have bz:ew d.kind=-1->d.args.length≠0:=fun e aS=>aY (.inr (.inr (.inr ⟨e,aS⟩)))
 have lV:-2<=ew d.kind:=by unfold ew;(repeat' split);all_goals omega
 rw[ad];have CL:=K ad
 change Hid _ at U
 clear ad ar h aY;obtain⟨kind,width,num,args,aa,ac⟩:=d;simp only at c0 c1 c2 c3 j1 Aa jT dg X kK bz lV bR gV;have EX:=K kK;have JK:=K bz;have Tk:∃aj,Hid (ew kind=aj):=⟨_,rfl⟩
 obtain⟨aj,dM⟩:=Tk;rw[dM.out] at Aa X kK bz lV gV;have jD:(0<=aj∧(args.length:Int)=aj)∨(aj=-1∧(args.length:Int)≠0):=by
  by_cases aI:0<=aj
  ·exact .inl ⟨aI,kK aI⟩
  ·have:aj=-1:=by omega
   exact .inr ⟨this,by have:=bz this;omega⟩
 obtain⟨ev,eB,fb,em,b8⟩:=WW
 change Hid _ at eB fb em b8 jT
 clear kK bz lV;rcases jD with ⟨F,O⟩ | ⟨rfl,O⟩
 ·omega
 ·clear gV;have Q5:kind=7:=by
   have:=dM.out
   unfold ew at this
   repeat' split at this
   all_goals omega
  subst Q5;have ayl:((args.length:Int)==0)=false:=by simpa using O
  go_enter Tryz.func20,Tryz.ntmps20
  go_wp2_with (first | (go_at_call 18;refine(j1 _).mono ?_;rintro e B ⟨rfl,rfl⟩) | (go_at_call 37;refine(Aa _).mono ?_;rintro e B ⟨rfl,rfl⟩))
  have jX:=K O;clear O;generalize av:(w.alloc (.cells #[.slice S.a0 N.ins.length S.c0,.slice (some ⟨b,o,none⟩) N.nodes.length S.c1,.slice S.a2 N.regs.length S.c2,.slice S.a3 N.mems.length S.c3,.slice S.a4 N.wrs.length S.c4,.slice S.a5 N.outs.length S.c5] 28)).alloc (.cells #[.int .i64 7,.int .i64 width,.int .u64 num,.slice aa args.length ac] 54)=I;have aD:Hid (V w I):=by rw[<-av];exact((ax _ _).alloc (aL _) _).alloc (by simp) _
  have gY:I.heap.size=w.heap.size+2:=by rw[<-av];simp
  have e8:Hid (∀j,I.cell? ⟨w.heap.size,j,none⟩=(#[.slice S.a0 N.ins.length S.c0,.slice (some ⟨b,o,none⟩) N.nodes.length S.c1,.slice S.a2 N.regs.length S.c2,.slice S.a3 N.mems.length S.c3,.slice S.a4 N.wrs.length S.c4,.slice S.a5 N.outs.length S.c5]:Array Value)[j]?):=by rw[<-av];intro j;simp
  have z6:Hid (∀j,I.cell? ⟨w.heap.size+1,j,none⟩=(#[.int .i64 7,.int .i64 width,.int .u64 num,.slice aa args.length ac]:Array Value)[j]?):=by rw[<-av];intro j;simp
  have hU:Hid (eM Y I S N):=gg.to (aD.mono aM);have JV:Hid (cm Y I aa 1 (args.map j4)):=jT.1.to (aD.mono aM);clear av c0 c1 c2 c3;have a8:w.heap.size<I.heap.size:=by omega
  have mY:w.heap.size+1<I.heap.size:=by omega
  have yz:b<I.heap.size:=by omega
  change Hid _ at gY
  go_loopw [8,9] (fun v aq B=>∃(k:Nat),k<=args.length∧aq = .int .i64 k∧Hid (B.ownsRow I.heap.size 3 1 v k (((cG N args).take k).map vE))∧Hid ((args.take k).any (jH i)=false)∧Hid (V I B)) (fun _ aq _=>args.length - (intOf aq).toNat)
  case atStart=>exact⟨0,cE _,rfl,by show World.ownsRow _ _ _ _ _ _ _;simpa using k8 _ _ _ _,by show _=_;simp,ax _ _⟩
  case round =>
   obtain⟨k,X,rfl,a6,cc,au⟩:=hrel;have cy:wr.cell? ⟨w.heap.size,1,none⟩=some (.slice (some ⟨b,o,none⟩) N.nodes.length S.c1):=(au.cell (p:=⟨w.heap.size,1,none⟩) a8).trans (e8 1);have qP:wr.cell? ⟨w.heap.size+1,3,none⟩=some (.slice aa args.length ac):=(au.cell (p:=⟨w.heap.size+1,3,none⟩) mY).trans (z6 3);have V0:I.heap.size<=wr.heap.size:=au.size;by_cases Ij:k<args.length
   ·obtain⟨bJ,cP,rfl,oa,pn⟩:=JV.int Ij;have es:wr.cell? ⟨bJ,cP+k,none⟩=some (.int .i64 (bi args k)):=(au.cell (p:=⟨bJ,cP+k,none⟩) (bk oa (bL aM aD.size))).trans (pn k Ij);have Q6:(k:Int)<(args.length:Int):=by omega
    have iC:Hid (args[k]?=some (bi args k)):=by show _=_;simp[bi,List.getElem?_eq_getElem Ij]
    generalize bi args k=x at es iC;have Vv:bJ<I.heap.size:=bk oa (bL aM aD.size);clear pn;by_cases Ix:x<0
    ·have ze:args.any (jH i)=true:=List.any_eq_true.2 ⟨x,bn iC,by simp[jH,Ix]⟩
     change Hid _ at ze
     go_wp2;go_ret
     exact⟨ia (by rw[bR.out,ze.out];rfl),aD.trans (au.mono aD.size)⟩
    ·by_cases DQ:(i:Int)<=x
     ·have ze:args.any (jH i)=true:=List.any_eq_true.2 ⟨x,bn iC,by simp[jH,DQ]⟩
      change Hid _ at ze
      go_wp2;go_ret
      exact⟨ia (by rw[bR.out,ze.out];rfl),aD.trans (au.mono aD.size)⟩
     ·obtain⟨y,aF⟩:∃y,N.nodes[x.toNat]?=some y:=⟨N.nodes[x.toNat]'(by omega),ct (by omega)⟩
      obtain⟨bw,kG,xu,V1,H7⟩:=hU.n.el aF;rw[CL.out] at xu;obtain⟨rfl,rfl⟩:b=bw∧o=kG:=by cases xu;exact⟨rfl,rfl⟩
      have ca:wr.cell? ⟨b,o+x.toNat*4+1,none⟩=some (.int .i64 y.width):=(au.cell (p:=⟨b,o+x.toNat*4+1,none⟩) yz).trans (H7 1 _ rfl);have BI:Hid ((cG N args)[k]?=some y.width):=by show _=_;simp[cG,iC.out,f2,aF]
      have apH:x<(N.nodes.length:Int):=by omega
      have apF:(0:Int)<=x:=by omega
      clear H7 xu aF V1;generalize y.width=wd at ca BI;go_wp2_with fail
      have XH:I.cell? ⟨w.heap.size,1,none⟩=some (.slice (some ⟨b,o,none⟩) N.nodes.length S.c1):=e8 1;have Uz:I.cell? ⟨w.heap.size+1,3,none⟩=some (.slice (some ⟨bJ,cP,none⟩) args.length ac):=z6 3;have Us:I.cell? ⟨bJ,cP+k,none⟩=some (.int .i64 x):=(au.cell (p:=⟨bJ,cP+k,none⟩) Vv).symm.trans es;have Uy:I.cell? ⟨b,o+x.toNat*4+1,none⟩=some (.int .i64 wd):=(au.cell (p:=⟨b,o+x.toNat*4+1,none⟩) yz).symm.trans ca;have oY:=jT.2.2.2;simp only[cd] at oY;have cn:k+1<=maxLen:=by simp only[maxLen];omega
      have cq:(k+1)*8<=140737488355328:=by omega
      have cJ:I.heap.size<=((wr.alloc (.cells #[.int .i64 wd] 3)).drew).heap.size:=by simp;omega
      go_region_held_law (fun B=>V I B∧(∀bw o,bw<I.heap.size->B.cell? ⟨bw,o,none⟩=I.cell? ⟨bw,o,none⟩))
       (first|assumption|exact gl au|exact gl au.drew|exact X9 au _|exact Ya au a6 (by assumption))
       ((refine step_append_lies _ rfl (.tmp 70) (.tmp 81) 22 rfl I.heap.size 3 ev _ 1 8 Tryz.underlying22 eB fb em b8 rfl (by decide) u8 k _ rfl (a6.alloc _).drew ⟨wr.heap.size,0,none⟩ 1 1 [.int .i64 wd] rfl rfl (i5 (h8 _ _)) (by simp[Value.oneCell']) (by decide) cn cq cJ _ rfl ?_;intro g cap al bc br aO cj))
      have cV:Hid (V I al):=Qv au a6 br;have i8:Hid (al.ownsRow I.heap.size 3 1 (.slice (some ⟨g,0,none⟩) (k+1) cap) (k+1) (((cG N args).take (k+1)).map vE)):=by
       have:=bc
       rw[gM _ k wd BI,g1];exact this
      have aZ:Hid ((args.take (k+1)).any (jH i)=false):=by
       show _=_;rw[gM _ k x iC,List.any_append,cc.out];simp[jH];omega
      clear bc br aO cj cn cq cJ cy qP es ca XH Uz Us Uy a6 cc au BI iC;go_wp2;go_roundw
      case measure=>simp[intOf];omega
      exact⟨k+1,by omega,by simp,i8.out,aZ.out,cV⟩
   ·have cQ:¬((k:Int)<(args.length:Int)):=by omega
    have Mi:Hid (k=(cG N args).length):=by show _=_;simp[cG];omega
    have sA:Hid (wr.ownsRow I.heap.size 3 1 u8 k ((cG N args).map vE)):=by
     have:=a6.out;rw[fQ (by have:=Mi.out;omega)] at this;exact this
    obtain⟨_,ee,ca,bb,nR⟩:=afH sA;have mF:Hid (args.any (jH i)=false):=by
     have:=cc.out;rw[fQ (by omega)] at this;exact this
    have km:Hid (r=lj N ⟨7,width,num,args,aa,ac⟩):=by show _=_;rw[bR.out,mF.out];rfl
    have hg:∀x,x∈cG N args->1<=x∧x<=32:=by
     intro x J;obtain⟨a,ad,rfl⟩:=i6.1 J;have af:jH i a=false:=by
      have:=mF.out;rw[List.any_eq_false] at this;simpa using this a ad
     simp[jH] at af;have hl:a.toNat<N.nodes.length:=by omega
     have:=aE a.toNat _ (by omega) (ct hl)
     simp only[f2,List.getElem?_eq_getElem hl];simpa using this
    have aU:(cG N args).length=args.length:=by simp[cG]
    have vi:Hid (Calls Tryz.prog 38 #[.agg #[.int .i64 7,.int .i64 width,.int .u64 num,.slice aa args.length ac],u8] wr fun e B=>e = .returned (.bool (hX 7 width num (cG N args)))∧V wr B):=by
     have:=acr wr 7 width num dg.1 dg.2 jT.2.1 aa args.length ac ee (cG N args) ca nR hg (by rw[aU];exact jT.2.2.2) (by rw[aU];exact EX) (by intro e aS;have bM:=JK e;rw[aS] at aU;simp at aU;omega)
     rw[bb,Mi.out];exact this
    have nJ:wr.cell? ⟨w.heap.size+1,0,none⟩=some (.int .i64 7):=(au.cell (p:=⟨w.heap.size+1,0,none⟩) mY).trans (z6 0);have d1:wr.cell? ⟨w.heap.size+1,1,none⟩=some (.int .i64 width):=(au.cell (p:=⟨w.heap.size+1,1,none⟩) mY).trans (z6 1);have d2:wr.cell? ⟨w.heap.size+1,2,none⟩=some (.int .u64 num):=(au.cell (p:=⟨w.heap.size+1,2,none⟩) mY).trans (z6 2);have gq:wr.cell? ⟨w.heap.size,0,none⟩=some (.slice S.a0 N.ins.length S.c0):=(au.cell (p:=⟨w.heap.size,0,none⟩) a8).trans (e8 0);have eX:wr.cell? ⟨w.heap.size,2,none⟩=some (.slice S.a2 N.regs.length S.c2):=(au.cell (p:=⟨w.heap.size,2,none⟩) a8).trans (e8 2);have fH:wr.cell? ⟨w.heap.size,3,none⟩=some (.slice S.a3 N.mems.length S.c3):=(au.cell (p:=⟨w.heap.size,3,none⟩) a8).trans (e8 3);have li:=hU.li;have lr:=hU.lr;have lm:=hU.lm;simp only[cd] at li lr lm;have yF:0<=num:=jT.2.1;have nX:Hid (V w wr):=aD.trans (au.mono aD.size);have H4:∀bw q tF,bw<Y->I.cell? ⟨bw,q,none⟩=some tF->wr.cell? ⟨bw,q,none⟩=some tF:=fun bw q tF F O=>(au.cell (p:=⟨bw,q,none⟩) (bk F (bL aM aD.size))).trans O
    change Hid _ at bb H4
    clear nR hg aU cc a6 sA bR;have kd:¬(7:Int)=30:=by decide
    have lD:¬(7:Int)=31:=by decide
    have kq:¬(7:Int)=32:=by decide
    have nK:¬((7:Int)=1∨(7:Int)=5):=by decide
    by_cases ag:num=0
    ·have ez:Hid (r=hX 7 width num (cG N args)):=by show _=_;rw[km.out];simp only[lj];rw[if_neg kd,if_neg lD,if_neg kq,if_neg nK];rw[iI];simp[ag]
     clear km nK kd lD kq;generalize hX 7 width num (cG N args)=acm at vi ez;subst ag;go_wp2_with (go_at_call 38;refine vi.mono ?_;rintro e B ⟨rfl,bH⟩)
     go_ret
     exact⟨ia ez.symm,nX.trans (bH.mono nX.size)⟩
    ·have ez:Hid (r=false):=by show _=_;rw[km.out];simp only[lj];rw[if_neg kd,if_neg lD,if_neg kq,if_neg nK];simp[ag]
     clear km nK kd lD kq vi;go_wp2;go_ret
     exact⟨ia ez.symm,nX⟩
theorem arU (Y:Nat) (w:World) (S:dp) (N:aR) (h:eM Y w S N) (aM:Y<=w.heap.size) (i:Nat) (d:eO) (U:N.nodes[i]?=some d) (aE:Hid (∀j y,j<i->N.nodes[j]?=some y->1<=y.width∧y.width<=32)) :
  Calls Tryz.prog 20 #[.agg (S.cells N),.int .i64 i] w fun e B=>e = .returned (.bool (pz N i d))∧V w B:=by
 by_cases aY:oh d
 ·have e:pz N i d=false:=by unfold pz;rw[if_pos aY]
  rw[e];exact arV Y w S N h aM i d U aY
 ·have e:pz N i d=(if d.args.any (jH i) then false else lj N d):=by unfold pz;rw[if_neg aY]
  by_cases gV:0<=ew d.kind
  ·exact arW Y w S N h aM i d U aY aE gV _ e
  ·exact arX Y w S N h aM i d U aY aE (by omega) _ e
def i3 (x:Int):Int:=((2^x.toNat:Nat):Int) - 1
def yP (r:l4):Bool:=cL r.width&&decide (r.init<=i3 r.width)
def xL (m:hf):Bool:=cL m.width&&decide (1<=m.words∧m.words<=256)
def qA (N:aR) (i:Nat):Bool:=match N.nodes[i]? with | some d=>pz N i d | none=>true
def vJ (N:aR) (r:l4):Bool:=j7 N r.next r.width
def qy (N:aR) (m:Int):Int:=(N.mems[m.toNat]?.map hf.width).getD 0
def o6 (N:aR) (x:jz):Bool:=decide (0<=x.mem∧x.mem<(N.mems.length:Int)∧0<=x.addr∧x.addr<(N.nodes.length:Int))&&j7 N x.when_ 1&&j7 N x.data (qy N x.mem)
def mO (N:aR) (x:Int):Bool:=decide (0<=x∧x<(N.nodes.length:Int))
def er (N:aR):Bool:=N.ins.all cL&&N.regs.all yP&&N.mems.all xL&&(List.range N.nodes.length).all (qA N)&&N.regs.all (vJ N)&&N.wrs.all (o6 N)&&N.outs.all (mO N)
theorem vr {l:List Int} (h:k<l.length):l[k]?=some (bi l k):=by simp[bi,List.getElem?_eq_getElem h]
theorem RM (x:Int) (w:World) :
  Calls Tryz.prog 41 #[.int .i64 x] w fun e B=>e = .returned (.bool (cL x))∧B=w:=by
 have e:cL x=decide (1<=x∧x<=32):=rfl;by_cases F:(1:Int)<=x
 ·by_cases O:x<=32
  ·have U:cL x=true:=by rw[e];simp;omega
   rw[U];clear U e;go_enter Tryz.func41,Tryz.ntmps41
   go_wp2;go_ret
   exact⟨rfl,rfl⟩
  ·have U:cL x=false:=by rw[e];simp;omega
   rw[U];clear U e;go_enter Tryz.func41,Tryz.ntmps41
   go_wp2;go_ret
   exact⟨rfl,rfl⟩
 ·have U:cL x=false:=by rw[e];simp;omega
  rw[U];clear U e;go_enter Tryz.func41,Tryz.ntmps41
  go_wp2;go_ret
  exact⟨rfl,rfl⟩
theorem atI (n:Nat) (F:1<=n) (O:n<=32) (w:World) :
  Calls Tryz.prog 69 #[.int .i64 (n:Int)] w fun e B=>e = .returned (.int .u64 ((2^n:Nat) - 1:Int))∧B=w:=by
 go_enter Tryz.func69,Tryz.ntmps69
 go_wp2;go_ret
 refine⟨qB ?_,rfl⟩;have aE:(2:Nat)^n<=2^32:=q7 (by decide) O;have aJ:1<=(2:Nat)^n:=Nat.one_le_two_pow;have e:((2:Int)^n)=((2^n:Nat):Int):=by push_cast;rfl
 have bQ:IntKind.u64.wrap ((2^n:Nat):Int)=((2^n:Nat):Int):=qD _ (by omega) (by omega);rw[e,bQ,qD _ (by omega) (by omega)]
theorem afO (x:Int) (h:cL x=true) (w:World):Calls Tryz.prog 69 #[.int .i64 x] w fun e B=>e = .returned (.int .u64 (i3 x))∧B=w:=by
 have aw:1<=x∧x<=32:=by simpa[cL] using h
 have:=atI x.toNat (by omega) (by omega) w
 have yv:((x.toNat:Nat):Int)=x:=by omega
 rw[yv] at this;exact this
def DY (k n:Int):Bool:=decide (ew k≠-2∧(0<=ew k->n=ew k)∧(ew k=-1->1<=n))
theorem aq1 (k n:Int) (w:World) :
  Calls Tryz.prog 66 #[.int .i64 k,.int .i64 n] w fun e B=>e = .returned (.bool (DY k n))∧B=w:=by
 rcases LJ k with h | ⟨F,O,aW,cw,hY,mX,Dp,zc,B2,M5,UW,M6,UX,UY,nK,UZ,Qw,Qx,U0,acA,acB,Kl⟩
 ·rcases h with rfl | rfl | rfl | rfl | rfl | rfl | rfl | rfl | rfl | rfl | rfl | rfl | rfl | rfl | rfl | rfl | rfl | rfl | rfl | rfl | rfl | rfl
  all_goals
   go_enter Tryz.func66,Tryz.ntmps66
   go_wp2;go_ret
   exact⟨ia (by rw[iI];simp[DY,ew]),rfl⟩
 ·have U:DY k n=false:=by
   have:ew k=-2:=by unfold ew;simp only[*];simp;omega
   unfold DY;rw[this];simp
  rw[U];clear U;go_enter Tryz.func66,Tryz.ntmps66
  go_wp2;go_ret
  exact⟨rfl,rfl⟩
structure mn (Y:Nat) (w:World) (a7:Nat) (S:dp) (N:aR):Prop where
 net:eM Y w S N
 lt:a7<Y
 cells:∀j,w.cell? ⟨a7,j,none⟩=(S.cells N)[j]?
theorem mn.to {Y a7:Nat} {S:dp} {N:aR} (h:mn Y w a7 S N) (D:Below Y w B):mn Y B a7 S N :=
 ⟨h.net.to D,h.lt,fun j=>(D.cell (p:=⟨a7,j,none⟩) h.lt).trans (h.cells j)⟩
def iF (a7:Nat):Value:= .agg #[.pointer (some ⟨a7,0,none⟩)]
theorem W1 (Y:Nat) (w:World) (a7:Nat) (S:dp) (N:aR) (h:mn Y w a7 S N) (aM:Y<=w.heap.size) (i:Int) :
  Calls Tryz.prog 47 #[iF a7,.int .i64 i] w fun e B=>e = .returned (.bool (mO N i))∧V w B:=by
 unfold iF;have cy:w.cell? ⟨a7,1,none⟩=some (.slice S.a1 N.nodes.length S.c1):=h.cells 1;have xx:a7<w.heap.size:=bk h.lt aM;clear h;have e:mO N i=decide (0<=i∧i<(N.nodes.length:Int)):=rfl;by_cases aI:(0:Int)<=i
 ·have U:mO N i=decide (i<(N.nodes.length:Int)):=by rw[e,iI];simp[aI]
  rw[U];clear U e;go_enter Tryz.func47,Tryz.ntmps47
  go_wp2;go_ret
  exact⟨rfl,(ax _ _).alloc (aL _) _⟩
 ·have U:mO N i=false:=by rw[e];simp;omega
  rw[U];clear U e;go_enter Tryz.func47,Tryz.ntmps47
  go_wp2;go_ret
  exact⟨rfl,(ax _ _).alloc (aL _) _⟩
theorem Ug {α:Type} (p:α->Bool) (l:List α) (k:Nat):l.all p=((l.take k).all p&&(l.drop k).all p):=by
 conv=>lhs;rw[<-List.take_append_drop k l,List.all_append]
theorem akt (p:Nat->Bool) {n:Nat} (h:k<=n):(List.range n).all p=((List.range k).all p&&((List.range n).drop k).all p):=by
 have:=Ug p (List.range n) k
 rw[List.take_range,Nat.min_eq_left h] at this;exact this
theorem lL {I a b:World} (h:V I a∧(∀bw o,bw<I.heap.size->a.cell? ⟨bw,o,none⟩=I.cell? ⟨bw,o,none⟩)) (D:V a b):V I b∧(∀bw o,bw<I.heap.size->b.cell? ⟨bw,o,none⟩=I.cell? ⟨bw,o,none⟩) :=
 gl (h.1.trans (D.mono h.1.size))
theorem aky {a b:Bool} (h:true=(a&&b)):b=true:=by cases a <;> cases b <;> simp_all
theorem oe (x:Int) (h:cL x=true) (w:World) :
  Calls Tryz.prog 19 #[.int .i64 x] w fun e B=>e = .returned (.int .u64 (i3 x))∧B=w:=by
 have J:1<=x∧x<=32:=by simpa[cL] using h
 have:=ae6 x.toNat (by omega) (by omega) w
 rw[show((x.toNat:Nat):Int)=x by omega] at this;exact this
def jh (n:Nat):Code->Option Code
 | .block m c=>if m=n then some (.block m c) else jh n c
 | .seq a b=>match jh n a with
  | some c=>some c
  | none=>jh n b
 | .loop c=>jh n c
 | .scope c=>jh n c
 | .cond _ a b=>match jh n a with
  | some c=>some c
  | none=>jh n b
 | _=>none
theorem Vw (Y:Nat) (w:World) (a7:Nat) (S:dp) (N:aR) (h:mn Y w a7 S N) (aM:Y<=w.heap.size) (i x:Int) :
  Calls Tryz.prog 70 #[iF a7,.int .i64 i,.int .i64 x] w fun e B=>e = .returned (.bool (j7 N i x))∧V w B:=by
 have IN:Hid (∀B,V w B->Calls Tryz.prog 47 #[iF a7,.int .i64 i] B fun e bs=>e = .returned (.bool (mO N i))∧V B bs):=fun B aV=>W1 Y B a7 S N (h.to (aV.mono aM)) (bL aM aV.size) i
 unfold iF at *;by_cases hi:0<=i∧i<(N.nodes.length:Int)
 ·obtain⟨d,U⟩:∃d,N.nodes[i.toNat]?=some d:=⟨N.nodes[i.toNat]'(by omega),ct (by omega)⟩
  obtain⟨b,o,ad,aB,ar⟩:=h.net.n.el U;have c1:=ar 1 _ rfl;have D:b<w.heap.size:=bk aB aM;have cy:w.cell? ⟨a7,1,none⟩=some (.slice S.a1 N.nodes.length S.c1):=h.cells 1;rw[ad] at cy;have xx:a7<w.heap.size:=bk h.lt aM;have e:j7 N i x=decide (d.width=x):=by unfold j7;rw[U];simp[hi.1]
  have aS:mO N i=true:=by unfold mO;simp[hi]
  rw[aS] at IN;rw[e];clear e aS ad ar h U;obtain⟨aI,F⟩:=hi;go_enter Tryz.func70,Tryz.ntmps70
  go_wp2_with fail
  generalize av:w.alloc (.cells #[.pointer (some ⟨a7,0,none⟩)] 94)=I;have aD:Hid (V w I):=by rw[<-av];exact(ax _ _).alloc (aL _) _
  have Cu:I.cell? ⟨w.heap.size,0,none⟩=some (.pointer (some ⟨a7,0,none⟩)):=by rw[<-av];simp
  have a8:w.heap.size<I.heap.size:=by rw[<-av];simp
  clear av;go_wp2_with (go_at_call 47;refine(IN _ aD).mono ?_;rintro e w2 ⟨rfl,bH⟩;have aAf:=(bH.cell (p:=⟨w.heap.size,0,none⟩) a8).trans Cu;have az6:=((aD.trans (bH.mono aD.size)).cell (p:=⟨a7,1,none⟩) xx).trans cy;have axs:=((aD.trans (bH.mono aD.size)).cell (p:=⟨b,o+i.toNat*4+1,none⟩) D).trans c1;have cg:=K (aD.trans (bH.mono aD.size));clear Cu cy c1 bH)
  go_ret
  exact⟨rfl,cg⟩
 ·have e:j7 N i x=false:=by
   unfold j7;rw[vf];rintro⟨aI,d,U,-⟩
   have:=(cr.1 U).1
   omega
  have aS:mO N i=false:=by unfold mO;rw[vf];omega
  rw[aS] at IN;rw[e];clear e aS hi h;go_enter Tryz.func70,Tryz.ntmps70
  go_wp2_with fail
  generalize av:w.alloc (.cells #[.pointer (some ⟨a7,0,none⟩)] 94)=I;have aD:Hid (V w I):=by rw[<-av];exact(ax _ _).alloc (aL _) _
  have Cu:I.cell? ⟨w.heap.size,0,none⟩=some (.pointer (some ⟨a7,0,none⟩)):=by rw[<-av];simp
  have a8:w.heap.size<I.heap.size:=by rw[<-av];simp
  clear av;go_wp2_with (go_at_call 47;refine(IN _ aD).mono ?_;rintro e w2 ⟨rfl,bH⟩;have cg:=K (aD.trans (bH.mono aD.size));clear bH)
  go_ret
  exact⟨rfl,cg⟩
theorem aq7 (Y:Nat) (w:World) (a7:Nat) (S:dp) (N:aR) (h:mn Y w a7 S N) (aM:Y<=w.heap.size) (k:Nat) (z:hf) (ao:N.mems[k]?=some z) :
  Calls Tryz.prog 42 #[iF a7,.int .i64 k] w fun e B=>e = .returned (.bool (xL z))∧V w B:=by
 unfold iF;obtain⟨b,o,ad,aB,ar⟩:=h.net.m.el ao;have X:(k:Int)<(N.mems.length:Int):=by have:=(cr.1 ao).1;omega
 have c0:w.cell? ⟨b,o+k*2,none⟩=_:=ar 0 _ rfl;have c1:=ar 1 _ rfl;have D:b<w.heap.size:=bk aB aM;have fH:w.cell? ⟨a7,3,none⟩=some (.slice S.a3 N.mems.length S.c3):=h.cells 3;rw[ad] at fH;have xx:a7<w.heap.size:=bk h.lt aM;have gT:=K (show xL z=(cL z.width&&decide (1<=z.words∧z.words<=256)) from rfl);have j1:Hid (∀w,Calls Tryz.prog 41 #[.int .i64 z.width] w fun e B=>e = .returned (.bool (cL z.width))∧B=w):=fun w=>RM z.width w
 rw[gT.out];clear gT ad ar h ao;obtain⟨wd,nw⟩:=z;simp only at c0 c1 j1 ⊢;generalize cL wd=aQ at *;have jD:aQ=false∨(aQ=true∧¬1<=nw)∨(aQ=true∧1<=nw∧¬nw<=256)∨(aQ=true∧1<=nw∧nw<=256):=by
  cases aQ <;> simp;omega
 rcases jD with rfl | ⟨rfl,bY⟩ | ⟨rfl,bY,bK⟩ | ⟨rfl,bY,bK⟩
 all_goals
  go_enter Tryz.func42,Tryz.ntmps42
  go_wp2_with (go_at_call 41;refine(j1 _).mono ?_;rintro e B ⟨rfl,rfl⟩)
  go_ret
  exact⟨ia (by first | rfl | (symm;simp;omega)),(ax _ _).alloc (aL _) _⟩
structure oR (Y:Nat) (w:World) (N:aR) (ab bj:Nat) (d:eO):Prop where
 lt:ab<Y
 cells:∀(j:Nat) (v:Value),d.cells[j]?=some v->w.cell? ⟨ab,bj+j,none⟩=some v
 args:cm Y w d.aa 1 (d.args.map j4)
 len:d.args.length<cd
 n0:0<=d.num
 n1:d.num<18446744073709551616
theorem oR.to {Y:Nat} {N:aR} {bj:Nat} {d:eO} (h:oR Y w N ab bj d) (D:Below Y w B):oR Y B N ab bj d :=
 ⟨h.lt,fun j v L=>(D.cell (p:=⟨ab,bj+j,none⟩) h.lt).trans (h.cells j v L),h.args.to D,h.len,h.n0,h.n1⟩
theorem abG {N:aR} {l:List Int} (X:k<l.length):bi (cG N l) k=f2 N (bi l k):=by
 simp[bi,cG,List.getElem?_eq_getElem X]
theorem OZ (Y:Nat) (w:World) (a7:Nat) (S:dp) (N:aR) (h:mn Y w a7 S N) (ab bj:Nat) (d:eO) (U:oR Y w N ab bj d) (bO:∀a,a∈d.args->0<=a∧a<(N.nodes.length:Int)) (kI gs:Nat)
  (bb:w.cell? ⟨kI,0,none⟩=some (.pointer (some ⟨a7,0,none⟩))) (L:w.cell? ⟨gs,0,none⟩=some (.pointer (some ⟨ab,bj,none⟩))) (k:Nat) (X:k<d.args.length) (x:Int) (J:x=(k:Int)) :
  Calls Tryz.prog 89 #[.int .i64 x,.pointer (some ⟨kI,0,none⟩),.pointer (some ⟨gs,0,none⟩)] w fun e B=>e = .returned (.int .i64 (bi (cG N d.args) k))∧V w B:=by
 subst J;have ae:bi d.args k∈d.args:=bn (vr X);have ak:=bO _ ae;rw[abG X];obtain⟨bJ,cP,bQ,oa,pn⟩:=U.args.int X;have es:=pn k X;have c3:=U.cells 3 _ rfl;rw[bQ] at c3;have cy:w.cell? ⟨a7,1,none⟩=some (.slice S.a1 N.nodes.length S.c1):=h.cells 1;generalize bi d.args k=a at *;obtain⟨y,aF⟩:∃y,N.nodes[a.toNat]?=some y:=⟨N.nodes[a.toNat]'(by omega),ct (by omega)⟩
 obtain⟨b,o,sI,aB,ar⟩:=h.net.n.el aF;have c1:=ar 1 _ rfl;rw[sI] at cy;have e:f2 N a=y.width:=by unfold f2;rw[aF];rfl
 rw[e];generalize y.width=wd at *;have Q6:(k:Int)<(d.args.length:Int):=by omega
 obtain⟨aI,F⟩:=ak;clear e sI ar aF pn bQ ae U h bO X;go_enter Tryz.func89,Tryz.ntmps89
 go_wp2_with fail
 go_quiet (fail)
 go_wp2;go_ret
 exact⟨rfl,Below.drewN (ax _ _) _⟩
theorem ap0:(Tryz.prog.info? 22).map (fun i=>(i.zero,i.size,i.bytes))=some (some (.slice none 0 0),1,24):=by kernel_rfl
theorem KU:∃i,Tryz.prog.info? 22=some i∧i.zero=some (.slice none 0 0)∧i.size=1∧i.bytes=24:=by
 have h:=ap0;cases hi:Tryz.prog.info? 22 with
 | none=>rw[hi] at h;cases h
 | some i=>rw[hi] at h;simp at h;exact⟨i,rfl,h.1,h.2.1,h.2.2⟩
def qm (Ps:Nat->Prop) (w:World) (v:Value) (ws:List (List Int)):Prop :=
 ∃a c,v = .slice a ws.length c∧∀(i:Nat) (l:List Int),ws[i]?=some l->∃b o x,a=some ⟨b,o,none⟩∧Ps b∧w.cell? ⟨b,o+i,none⟩=some x∧cv Ps w x l
theorem qm.keep (h:qm Ps w v ws) (X:∀b,Ps b->B.heap[b]?=w.heap[b]?):qm Ps B v ws:=by
 obtain⟨a,c,F,O⟩:=h;refine⟨a,c,F,fun i l hl=>?_⟩;obtain⟨b,o,x,ad,aE,J,aw⟩:=O i l hl;exact⟨b,o,x,ad,aE,(dA (a:=⟨b,o+i,none⟩) (X b aE)).trans J,aw.keep X⟩
theorem qm.more (h:qm Ps w v ws) (aE:∀b,Ps b->an b):qm an w v ws:=by
 obtain⟨a,c,F,O⟩:=h;refine⟨a,c,F,fun i l hl=>?_⟩;obtain⟨b,o,x,ad,D,J,aw⟩:=O i l hl;exact⟨b,o,x,ad,aE b D,J,aw.more aE⟩
def ro (Ps:Nat->Prop) (w:World) (v:Value) (ms:List (List (List Int))):Prop :=
 ∃a c,v = .slice a ms.length c∧∀(i:Nat) (ws:List (List Int)),ms[i]?=some ws->∃b o x,a=some ⟨b,o,none⟩∧Ps b∧w.cell? ⟨b,o+i,none⟩=some x∧ql Ps w x ws
theorem ro.keep {ms:List (List (List Int))} (h:ro Ps w v ms) (X:∀b,Ps b->B.heap[b]?=w.heap[b]?):ro Ps B v ms:=by
 obtain⟨a,c,F,O⟩:=h;refine⟨a,c,F,fun i l hl=>?_⟩;obtain⟨b,o,x,ad,aE,J,aw⟩:=O i l hl;exact⟨b,o,x,ad,aE,(dA (a:=⟨b,o+i,none⟩) (X b aE)).trans J,aw.keep X⟩
theorem ro.more {ms:List (List (List Int))} (h:ro Ps w v ms) (aE:∀b,Ps b->an b):ro an w v ms:=by
 obtain⟨a,c,F,O⟩:=h;refine⟨a,c,F,fun i l hl=>?_⟩;obtain⟨b,o,x,ad,D,J,aw⟩:=O i l hl;exact⟨b,o,x,ad,aE b D,J,aw.more aE⟩
structure wY (w:World) (ai E ab aK:Nat) (Ps:Nat->Prop) (ins regs:List (List Int)) (mems:List (List (List Int))) (ws:List (List Int)):Prop where
 b0:w.cell? ⟨ai,0,none⟩=some (.pointer (some ⟨E,0,none⟩))
 b1:w.cell? ⟨ai,1,none⟩=some (.pointer (some ⟨ab,0,none⟩))
 b2:∃v,w.cell? ⟨ai,2,none⟩=some v∧qm Ps w v ins
 b3:∃v,w.cell? ⟨ai,3,none⟩=some v∧qm Ps w v regs
 b4:∃v,w.cell? ⟨ai,4,none⟩=some v∧ro Ps w v mems
 b5:w.cell? ⟨ai,5,none⟩=some (.slice (some ⟨aK,0,none⟩) ws.length ws.length)
 b6:∀(i:Nat) (l:List Int),ws[i]?=some l->l≠[]->∃x,w.cell? ⟨aK,i,none⟩=some x∧cv Ps w x l
 p:Ps ai∧Ps aK
theorem wY.keep {ai E aK:Nat} {ins regs:List (List Int)} {mems:List (List (List Int))} (h:wY w ai E ab aK Ps ins regs mems ws) (X:∀b,Ps b->B.heap[b]?=w.heap[b]?):wY B ai E ab aK Ps ins regs mems ws:=by
 have c:∀j,B.cell? ⟨ai,j,none⟩=w.cell? ⟨ai,j,none⟩:=fun j=>dA (a:=⟨ai,j,none⟩) (X ai h.p.1)
 obtain⟨gZ,c2,jM⟩:=h.b2;obtain⟨nC,c3,lZ⟩:=h.b3;obtain⟨Ji,c4,oG⟩:=h.b4;refine⟨(c 0).trans h.b0,(c 1).trans h.b1,⟨gZ,(c 2).trans c2,jM.keep X⟩,⟨nC,(c 3).trans c3,lZ.keep X⟩,⟨Ji,(c 4).trans c4,oG.keep X⟩,(c 5).trans h.b5,fun i l hl cb=>?_,h.p⟩;obtain⟨x,J,aw⟩:=h.b6 i l hl cb;exact⟨x,(dA (a:=⟨aK,i,none⟩) (X aK h.p.2)).trans J,aw.keep X⟩
theorem wY.more {ai E aK:Nat} {ins regs:List (List Int)} {mems:List (List (List Int))} (h:wY w ai E ab aK Ps ins regs mems ws) (aE:∀b,Ps b->an b):wY w ai E ab aK an ins regs mems ws:=by
 obtain⟨gZ,c2,jM⟩:=h.b2;obtain⟨nC,c3,lZ⟩:=h.b3;obtain⟨Ji,c4,oG⟩:=h.b4;refine⟨h.b0,h.b1,⟨gZ,c2,jM.more aE⟩,⟨nC,c3,lZ.more aE⟩,⟨Ji,c4,oG.more aE⟩,h.b5,fun i l hl cb=>?_,aE _ h.p.1,aE _ h.p.2⟩;obtain⟨x,J,aw⟩:=h.b6 i l hl cb;exact⟨x,J,aw.more aE⟩
def fW (ws:List (List Int)) (l:List Int):List (List Int):=l.map fun a=>ws.getD a.toNat []
theorem awq (wc:World) (ai E ab aK nd bj n dc:Nat) (da:Option Addr) (Ps:Nat->Prop) (ins regs:List (List Int)) (mems:List (List (List Int))) (ws:List (List Int)) (args:List Int) (aD:Hid (wY wc ai E ab aK Ps ins regs mems ws)) (bR:Hid (cm wc.heap.size wc da 1 (args.map j4))) (bP:Hid (n=args.length)) (ag:n<=64) (f5:Hid (∀a,a∈args->0<=a∧∃l,ws[a.toNat]?=some l∧l≠[])) (b9:Act->World->Prop) (eV:Exit->Act->World->Prop) {en e1 fx ea ec dL ep cz ex ey cM cA cB cC cD cS cT cH cW cX cY cN cI eo c7 dD dE dF dh dO dP dr dt di dj c8 c9 db dd de df dG dH du cZ c6 dw dx dQ dy dz dI dJ dK dk dl dm dn dR dS dT dU dV dW dX dY dZ d0 d3 d4 d5 d6 d7 d8 ei ed eR eS eT eU fy fA e3 fM fC fD e4 e5 e6 e7 fN fO fP fB fc fd fe ff fg fh fi fj fk eY eZ e0 fJ fK fL fl fm fo fp fq fs ft fu fv fw eH eI eJ eK eL gm f8 f9 ga gb gc gf gu gv hE hj hk hm hn ho hp hq hr ht hu hv hw hd iy iz ig pE pF pG pH pI pJ pK pL pM pN pO pP pQ pR pS pT pU pV pW pX pY pZ p0 p1 p2 p3 p4 p5 p6 p7 p8 p9:Value}
  (dM:Hid (∀(B:World) {uP Gz Ed yQ Bh Bi Le Lf Lg Lh Li Gm Gn Gp Gq Cv Cw:Value},(∃am:List Value,am.length=n∧B.ownsRow wc.heap.size 22 1 uP n am∧(∀(i:Nat) (l:List Int),(fW ws args)[i]?=some l->∃x,am[i]?=some x∧cv Ps wc x l)∧V wc B)->b9 ⟨#[.pointer (some ⟨ai,0,none⟩),.pointer (some ⟨nd,bj,none⟩),en,e1,fx,uP,ea,Gz,dL,ep,cz,.slice da n dc,.int .i64 n,Ed,yQ,Bh,Bi,Le,Lf,Lg,Lh,Li,Gm,Gn,Gp,Gq,Cv,Cw,cI,eo,c7,dD,dE,dF,dh,dO,dP,dr,dt,di,dj,c8,c9,db,dd,de,df,dG,dH,du,cZ,c6,dw,dx,dQ,dy,dz,dI,dJ,dK,dk,dl,dm,dn,dR,dS,dT,dU,dV,dW,dX,dY,dZ,d0,d3,d4,d5,d6,d7,d8,ei,ed,eR,eS,eT,eU,fy,fA,e3,fM,fC,fD,e4,e5,e6,e7,fN,fO,fP,fB,fc,fd,fe,ff,fg,fh,fi,fj,fk,eY,eZ,e0,fJ,fK,fL,fl,fm,fo,fp,fq,fs,ft,fu,fv,fw,eH,eI,eJ,eK,eL,gm,f8,f9,ga,gb,gc,gf,gu,gv,hE,hj,hk,hm,hn,ho,hp,hq,hr,ht,hu,hv,hw,hd,iy,iz,ig,pE,pF,pG,pH,pI,pJ,pK,pL,pM,pN,pO,pP,pQ,pR,pS,pT,pU,pV,pW,pX,pY,pZ,p0,p1,p2,p3,p4,p5,p6,p7,p8,p9],[]⟩ B)) :
  Code.wp Tryz.prog ((Tryz.f52.body.bind (jh 0)).getD .skip) (Exit.then b9 eV) ⟨#[.pointer (some ⟨ai,0,none⟩),.pointer (some ⟨nd,bj,none⟩),en,e1,fx,.slice none 0 0,ea,ec,dL,ep,cz,.slice da n dc,.int .i64 n,.int .i64 0,ex,ey,cM,cA,cB,cC,cD,cS,cT,cH,cW,cX,cY,cN,cI,eo,c7,dD,dE,dF,dh,dO,dP,dr,dt,di,dj,c8,c9,db,dd,de,df,dG,dH,du,cZ,c6,dw,dx,dQ,dy,dz,dI,dJ,dK,dk,dl,dm,dn,dR,dS,dT,dU,dV,dW,dX,dY,dZ,d0,d3,d4,d5,d6,d7,d8,ei,ed,eR,eS,eT,eU,fy,fA,e3,fM,fC,fD,e4,e5,e6,e7,fN,fO,fP,fB,fc,fd,fe,ff,fg,fh,fi,fj,fk,eY,eZ,e0,fJ,fK,fL,fl,fm,fo,fp,fq,fs,ft,fu,fv,fw,eH,eI,eJ,eK,eL,gm,f8,f9,ga,gb,gc,gf,gu,gv,hE,hj,hk,hm,hn,ho,hp,hq,hr,ht,hu,hv,hw,hd,iy,iz,ig,pE,pF,pG,pH,pI,pJ,pK,pL,pM,pN,pO,pP,pQ,pR,pS,pT,pU,pV,pW,pX,pY,pZ,p0,p1,p2,p3,p4,p5,p6,p7,p8,p9],[]⟩ wc:=by
 conv=>arg 2;whnf
 obtain⟨ev,eB,fb,em,b8⟩:=KU
 change Hid _ at eB fb em b8
 go_wp2_with fail
 go_loopw [5,13] (fun eP aq B=>∃(k:Nat) (am:List Value),k<=n∧aq = .int .i64 k∧Hid (am.length=k)∧Hid (B.ownsRow wc.heap.size 22 1 eP k am)∧Hid (∀(i:Nat) (l:List Int),i<k->(fW ws args)[i]?=some l->∃x,am[i]?=some x∧cv Ps wc x l)∧Hid (V wc B)) (fun _ aq _=>n - (intOf aq).toNat)
 case atStart=>exact⟨0,[],cE _,rfl,rfl,k8 _ _ _ _,fun i l hi=>absurd hi (Nat.not_lt_zero _),ax _ _⟩
 case round =>
  obtain⟨k,am,X,rfl,sB,a6,jq,oO⟩:=hrel;by_cases aB:k<n
  ·obtain⟨a,ad⟩:=bS (l:=args) (k:=k) (by have:=bP.out;omega);obtain⟨bG,ck,kr,gK,cx⟩:=bR.intR ad;obtain⟨qp,l,hl,cb⟩:=f5 a (bn ad);have kB:=(cr.1 hl).1;obtain⟨x,J,aw⟩:=aD.b6 _ l hl cb;have c0:=(oO.cell (p:=⟨bG,ck+k,none⟩) gK).trans cx;have c5:=iP oO aD.b5;have ru:=iP oO J;have zr:(fW ws args)[k]?=some l:=by unfold fW;rw[fT,ad];simp[List.getD_eq_getElem?_getD,hl]
   have ajE:Hid (∀(i:Nat) (l:List Int),i<k+1->(fW ws args)[i]?=some l->∃y,(am++[x])[i]?=some y∧cv Ps wc y l):=fun i pw hi hC=>by
    by_cases e:i=k
    ·subst e;rw[zr] at hC;cases hC;exact⟨x,by rw[lu (by rw[sB.out];exact aL _),sB.out,Nat.sub_self];rfl,aw⟩
    ·obtain⟨y,aF,vC⟩:=jq i pw (by omega) hC;exact⟨y,by rw[mS (cr.1 aF).1];exact aF,vC⟩
   obtain⟨Yi,Jf,X7,apl,-,-,-⟩:=aw;subst apl;generalize l.length=ll at *;obtain⟨m,ae⟩:∃m:Nat,a=(m:Int):=⟨a.toNat,by omega⟩
   subst ae;rw[vg] at ru kB;have azf:((m:Nat):Int)<(ws.length:Int):=by omega
   subst kr;have fa:(k:Int)<(n:Int):=by omega
   have bM:=bF ((k:Int)+1);have cn:k+1<=maxLen:=by simp only[maxLen];omega
   have cq:(k+1)*24<=140737488355328:=by omega
   have cJ:wc.heap.size<=(wr.alloc (.cells #[.slice (some ⟨Yi,Jf,none⟩) ll X7] 22)).heap.size:=by have:=oO.size;simp;omega
   have tok:True:=trivial;generalize ws.length=aAy at *;clear ad cx hl J zr;go_upto_region 5 with fail
   go_wp2_with (have _t:=tok;at_builtin;(refine wpList_append_lies _ rfl (.tmp 17) (.tmp 25) 99 rfl wc.heap.size 22 ev _ 1 24 Tryz.underlying99 eB fb em b8 rfl (by decide) u5 k _ rfl (a6.alloc _) ⟨wr.heap.size,0,none⟩ 1 1 [.slice (some ⟨Yi,Jf,none⟩) ll X7] rfl rfl (i5 (h8 _ _)) (by simp[Value.oneCell']) (by decide) cn cq cJ _ rfl ?_;intro g cap al bc br aO cj;have Hl:=K bc;have cV:Hid (V wc al):=(oO.alloc oO.size _).grown br cJ (fun z ao=>(a6.lt z ao).1);clear tok bc br aO cj))
   go_wp2;go_roundw
   case measure=>simp[intOf];omega
   exact⟨k+1,am++[Value.slice (some ⟨Yi,Jf,none⟩) ll X7],by omega,by simp,by show _=_;rw[jw,sB.out];rfl,Hl.out,ajE.out,cV⟩
  ·have cQ:¬((k:Int)<(n:Int)):=by omega
   have hB:k=n:=by omega
   subst hB;go_wp2;exact dM _ ⟨am,sB.out,a6.out,fun i l hl=>jq i l (by have:=(cr.1 hl).1;unfold fW at this;rw[lb] at this;have:=bP.out;omega) hl,oO⟩
end Go.Proofs.YtcbcenfjigcfkaaGreatDoor
