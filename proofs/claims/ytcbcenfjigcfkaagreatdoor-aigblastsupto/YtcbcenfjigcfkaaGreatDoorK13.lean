import Derived.Test.YtcbcenfjigcfkaaGreatDoorK12
set_option maxRecDepth 100000
set_option maxHeartbeats 40000000
namespace Go.Proofs.YtcbcenfjigcfkaaGreatDoor
open Go.RowKit
theorem arW (Y:Nat) (w:World) (S:dp) (N:aR) (h:eM Y w S N) (aM:Y<=w.heap.size) (i:Nat) (d:eO) (U:N.nodes[i]?=some d) (aY:¬oh d) (aE:Hid (∀j y,j<i->N.nodes[j]?=some y->1<=y.width∧y.width<=32)) (gV:0<=ew d.kind) (r:Bool) (bR:Hid (r=if d.args.any (jH i) then false else lj N d)) :
  Calls Tryz.prog 20 #[.agg (S.cells N),.int .i64 i] w fun e B=>e = .returned (.bool r)∧V w B:=by
 unfold dp.cells;obtain⟨b,o,ad,aB,ar⟩:=h.n.el U;have hi:i<N.nodes.length:=by
  rcases Nat.lt_or_ge i N.nodes.length with d9 | d9
  ·exact d9
  ·rw[oN d9] at U;cases U
 have c0:w.cell? ⟨b,o+i*4,none⟩=_:=ar 0 _ rfl;have c1:=ar 1 _ rfl;have c2:=ar 2 _ rfl;have c3:=ar 3 _ rfl;have D:b<w.heap.size:=bk aB aM;have KF:(i:Int)<(N.nodes.length:Int):=by omega
 have gg:Hid (eM Y w S N):=h;have jT:=h.na d (bn U);have j1:Hid (∀w,Calls Tryz.prog 18 #[.int .i64 d.width] w fun e B=>e = .returned (.bool true)∧B=w):=by
  have:=fun w=>LK d.width w
  have e:cL d.width=true:=by cases ay:cL d.width with
   | true=>rfl
   | false=>exact absurd (.inl ay) aY
  rw[e] at this;exact this
 have dg:1<=d.width∧d.width<=32:=by
  have e:cL d.width=true:=by cases ay:cL d.width with
   | true=>rfl
   | false=>exact absurd (.inl ay) aY
  simpa[cL] using e
 have Aa:Hid (∀w,Calls Tryz.prog 37 #[.int .i64 d.kind] w fun e B=>e = .returned (.int .i64 (ew d.kind))∧B=w):=fun w=>YC d.kind w
 have X:ew d.kind≠-2:=fun e=>aY (.inr (.inl e))
 have kK:0<=ew d.kind->(d.args.length:Int)=ew d.kind:=fun e=>Classical.byContradiction fun aS=>aY (.inr (.inr (.inl ⟨e,aS⟩)))
 have bz:ew d.kind=-1->d.args.length≠0:=fun e aS=>aY (.inr (.inr (.inr ⟨e,aS⟩)))
 have lV:-2<=ew d.kind:=by unfold ew;(repeat' split);all_goals omega
 rw[ad];have CL:=K ad;have jY:=K U;clear ad ar h U aY;obtain⟨kind,width,num,args,aa,ac⟩:=d;simp only at c0 c1 c2 c3 j1 Aa jT dg X kK bz lV bR gV;have EX:=K kK;have JK:=K bz;have Tk:∃aj,Hid (ew kind=aj):=⟨_,rfl⟩
 obtain⟨aj,dM⟩:=Tk;rw[dM.out] at Aa X kK bz lV gV;have jD:(0<=aj∧(args.length:Int)=aj)∨(aj=-1∧(args.length:Int)≠0):=by
  by_cases aI:0<=aj
  ·exact .inl ⟨aI,kK aI⟩
  ·have:aj=-1:=by omega
   exact .inr ⟨this,by have:=bz this;omega⟩
 obtain⟨ev,eB,fb,em,b8⟩:=WW
 change Hid _ at eB fb em b8 jT
 clear kK bz lV;rcases jD with ⟨F,O⟩ | ⟨rfl,O⟩
 ·clear gV;have ayj:(aj==-1)=false:=by simp;omega
  have ayk:(aj==-2)=false:=by simp;omega
  go_enter Tryz.func20,Tryz.ntmps20
  go_wp2_with (first | (go_at_call 18;refine(j1 _).mono ?_;rintro e B ⟨rfl,rfl⟩) | (go_at_call 37;refine(Aa _).mono ?_;rintro e B ⟨rfl,rfl⟩))
  have jX:=K O;clear O;generalize av:(w.alloc (.cells #[.slice S.a0 N.ins.length S.c0,.slice (some ⟨b,o,none⟩) N.nodes.length S.c1,.slice S.a2 N.regs.length S.c2,.slice S.a3 N.mems.length S.c3,.slice S.a4 N.wrs.length S.c4,.slice S.a5 N.outs.length S.c5] 28)).alloc (.cells #[.int .i64 kind,.int .i64 width,.int .u64 num,.slice aa args.length ac] 54)=I;have aD:Hid (V w I):=by rw[<-av];exact((ax _ _).alloc (aL _) _).alloc (by simp) _
  have gY:I.heap.size=w.heap.size+2:=by rw[<-av];simp
  have e8:Hid (∀j,I.cell? ⟨w.heap.size,j,none⟩=(#[.slice S.a0 N.ins.length S.c0,.slice (some ⟨b,o,none⟩) N.nodes.length S.c1,.slice S.a2 N.regs.length S.c2,.slice S.a3 N.mems.length S.c3,.slice S.a4 N.wrs.length S.c4,.slice S.a5 N.outs.length S.c5]:Array Value)[j]?):=by rw[<-av];intro j;simp
  have z6:Hid (∀j,I.cell? ⟨w.heap.size+1,j,none⟩=(#[.int .i64 kind,.int .i64 width,.int .u64 num,.slice aa args.length ac]:Array Value)[j]?):=by rw[<-av];intro j;simp
  have hU:Hid (eM Y I S N):=gg.to (aD.mono aM);have JV:Hid (cm Y I aa 1 (args.map j4)):=jT.1.to (aD.mono aM);clear av c0 c1 c2 c3;have a8:w.heap.size<I.heap.size:=by omega
  have mY:w.heap.size+1<I.heap.size:=by omega
  have yz:b<I.heap.size:=by omega
  change Hid _ at gY
  go_loopw [8,9] (fun v aq B=>∃(k:Nat),k<=args.length∧aq = .int .i64 k∧Hid (B.ownsRow I.heap.size 3 1 v k (((cG N args).take k).map vE))∧Hid ((args.take k).any (jH i)=false)∧Hid (V I B)) (fun _ aq _=>args.length - (intOf aq).toNat)
  case atStart=>exact⟨0,cE _,rfl,by show World.ownsRow _ _ _ _ _ _ _;simpa using k8 _ _ _ _,by show _=_;simp,ax _ _⟩
  case round =>
   obtain⟨k,X,rfl,a6,cc,au⟩:=hrel;have cy:wr.cell? ⟨w.heap.size,1,none⟩=some (.slice (some ⟨b,o,none⟩) N.nodes.length S.c1):=(au.cell (p:=⟨w.heap.size,1,none⟩) a8).trans (e8 1);have qP:wr.cell? ⟨w.heap.size+1,3,none⟩=some (.slice aa args.length ac):=(au.cell (p:=⟨w.heap.size+1,3,none⟩) mY).trans (z6 3);have V0:I.heap.size<=wr.heap.size:=au.size;by_cases Ij:k<args.length
   ·obtain⟨bJ,cP,rfl,oa,pn⟩:=JV.int Ij;have es:wr.cell? ⟨bJ,cP+k,none⟩=some (.int .i64 (bi args k)):=(au.cell (p:=⟨bJ,cP+k,none⟩) (bk oa (bL aM aD.size))).trans (pn k Ij);have Q6:(k:Int)<(args.length:Int):=by omega
    have iC:Hid (args[k]?=some (bi args k)):=by show _=_;simp[bi,List.getElem?_eq_getElem Ij]
    generalize bi args k=x at es iC;have Vv:bJ<I.heap.size:=bk oa (bL aM aD.size);clear pn;by_cases Ix:x<0
    ·have ze:args.any (jH i)=true:=List.any_eq_true.2 ⟨x,bn iC,by simp[jH,Ix]⟩
     change Hid _ at ze
     go_wp2;go_ret
     exact⟨ia (by rw[bR.out,ze.out];rfl),aD.trans (au.mono aD.size)⟩
    ·by_cases DQ:(i:Int)<=x
     ·have ze:args.any (jH i)=true:=List.any_eq_true.2 ⟨x,bn iC,by simp[jH,DQ]⟩
      change Hid _ at ze
      go_wp2;go_ret
      exact⟨ia (by rw[bR.out,ze.out];rfl),aD.trans (au.mono aD.size)⟩
     ·obtain⟨y,aF⟩:∃y,N.nodes[x.toNat]?=some y:=⟨N.nodes[x.toNat]'(by omega),ct (by omega)⟩
      obtain⟨bw,kG,xu,V1,H7⟩:=hU.n.el aF;rw[CL.out] at xu;obtain⟨rfl,rfl⟩:b=bw∧o=kG:=by cases xu;exact⟨rfl,rfl⟩
      have ca:wr.cell? ⟨b,o+x.toNat*4+1,none⟩=some (.int .i64 y.width):=(au.cell (p:=⟨b,o+x.toNat*4+1,none⟩) yz).trans (H7 1 _ rfl);have BI:Hid ((cG N args)[k]?=some y.width):=by show _=_;simp[cG,iC.out,f2,aF]
      have apH:x<(N.nodes.length:Int):=by omega
      have apF:(0:Int)<=x:=by omega
      clear H7 xu aF V1;generalize y.width=wd at ca BI;go_wp2_with fail
      have XH:I.cell? ⟨w.heap.size,1,none⟩=some (.slice (some ⟨b,o,none⟩) N.nodes.length S.c1):=e8 1;have Uz:I.cell? ⟨w.heap.size+1,3,none⟩=some (.slice (some ⟨bJ,cP,none⟩) args.length ac):=z6 3;have Us:I.cell? ⟨bJ,cP+k,none⟩=some (.int .i64 x):=(au.cell (p:=⟨bJ,cP+k,none⟩) Vv).symm.trans es;have Uy:I.cell? ⟨b,o+x.toNat*4+1,none⟩=some (.int .i64 wd):=(au.cell (p:=⟨b,o+x.toNat*4+1,none⟩) yz).symm.trans ca;have oY:=jT.2.2.2;simp only[cd] at oY;have cn:k+1<=maxLen:=by simp only[maxLen];omega
      have cq:(k+1)*8<=140737488355328:=by omega
      have cJ:I.heap.size<=((wr.alloc (.cells #[.int .i64 wd] 3)).drew).heap.size:=by simp;omega
      go_region_held_law (fun B=>V I B∧(∀bw o,bw<I.heap.size->B.cell? ⟨bw,o,none⟩=I.cell? ⟨bw,o,none⟩))
       (first|assumption|exact gl au|exact gl au.drew|exact X9 au _|exact Ya au a6 (by assumption))
       ((refine step_append_lies _ rfl (.tmp 70) (.tmp 81) 22 rfl I.heap.size 3 ev _ 1 8 Tryz.underlying22 eB fb em b8 rfl (by decide) u8 k _ rfl (a6.alloc _).drew ⟨wr.heap.size,0,none⟩ 1 1 [.int .i64 wd] rfl rfl (i5 (h8 _ _)) (by simp[Value.oneCell']) (by decide) cn cq cJ _ rfl ?_;intro g cap al bc br aO cj))
      have cV:Hid (V I al):=Qv au a6 br;have i8:Hid (al.ownsRow I.heap.size 3 1 (.slice (some ⟨g,0,none⟩) (k+1) cap) (k+1) (((cG N args).take (k+1)).map vE)):=by
       have:=bc
       rw[gM _ k wd BI,g1];exact this
      have aZ:Hid ((args.take (k+1)).any (jH i)=false):=by
       show _=_;rw[gM _ k x iC,List.any_append,cc.out];simp[jH];omega
      clear bc br aO cj cn cq cJ cy qP es ca XH Uz Us Uy a6 cc au BI iC;go_wp2;go_roundw
      case measure=>simp[intOf];omega
      exact⟨k+1,by omega,by simp,i8.out,aZ.out,cV⟩
   ·have cQ:¬((k:Int)<(args.length:Int)):=by omega
    have Mi:Hid (k=(cG N args).length):=by show _=_;simp[cG];omega
    have sA:Hid (wr.ownsRow I.heap.size 3 1 u8 k ((cG N args).map vE)):=by
     have:=a6.out;rw[fQ (by have:=Mi.out;omega)] at this;exact this
    obtain⟨_,ee,ca,bb,nR⟩:=afH sA;have mF:Hid (args.any (jH i)=false):=by
     have:=cc.out;rw[fQ (by omega)] at this;exact this
    have km:Hid (r=lj N ⟨kind,width,num,args,aa,ac⟩):=by show _=_;rw[bR.out,mF.out];rfl
    have hg:∀x,x∈cG N args->1<=x∧x<=32:=by
     intro x J;obtain⟨a,ad,rfl⟩:=i6.1 J;have af:jH i a=false:=by
      have:=mF.out;rw[List.any_eq_false] at this;simpa using this a ad
     simp[jH] at af;have hl:a.toNat<N.nodes.length:=by omega
     have:=aE a.toNat _ (by omega) (ct hl)
     simp only[f2,List.getElem?_eq_getElem hl];simpa using this
    have aU:(cG N args).length=args.length:=by simp[cG]
    have vi:Hid (Calls Tryz.prog 38 #[.agg #[.int .i64 kind,.int .i64 width,.int .u64 num,.slice aa args.length ac],u8] wr fun e B=>e = .returned (.bool (hX kind width num (cG N args)))∧V wr B):=by
     have:=acr wr kind width num dg.1 dg.2 jT.2.1 aa args.length ac ee (cG N args) ca nR hg (by rw[aU];exact jT.2.2.2) (by rw[aU];exact EX) (by intro e aS;have bM:=JK e;rw[aS] at aU;simp at aU;omega)
     rw[bb,Mi.out];exact this
    have nJ:wr.cell? ⟨w.heap.size+1,0,none⟩=some (.int .i64 kind):=(au.cell (p:=⟨w.heap.size+1,0,none⟩) mY).trans (z6 0);have d1:wr.cell? ⟨w.heap.size+1,1,none⟩=some (.int .i64 width):=(au.cell (p:=⟨w.heap.size+1,1,none⟩) mY).trans (z6 1);have d2:wr.cell? ⟨w.heap.size+1,2,none⟩=some (.int .u64 num):=(au.cell (p:=⟨w.heap.size+1,2,none⟩) mY).trans (z6 2);have gq:wr.cell? ⟨w.heap.size,0,none⟩=some (.slice S.a0 N.ins.length S.c0):=(au.cell (p:=⟨w.heap.size,0,none⟩) a8).trans (e8 0);have eX:wr.cell? ⟨w.heap.size,2,none⟩=some (.slice S.a2 N.regs.length S.c2):=(au.cell (p:=⟨w.heap.size,2,none⟩) a8).trans (e8 2);have fH:wr.cell? ⟨w.heap.size,3,none⟩=some (.slice S.a3 N.mems.length S.c3):=(au.cell (p:=⟨w.heap.size,3,none⟩) a8).trans (e8 3);have li:=hU.li;have lr:=hU.lr;have lm:=hU.lm;simp only[cd] at li lr lm;have yF:0<=num:=jT.2.1;have nX:Hid (V w wr):=aD.trans (au.mono aD.size);have H4:∀bw q tF,bw<Y->I.cell? ⟨bw,q,none⟩=some tF->wr.cell? ⟨bw,q,none⟩=some tF:=fun bw q tF F O=>(au.cell (p:=⟨bw,q,none⟩) (bk F (bL aM aD.size))).trans O
    change Hid _ at bb H4
    clear nR hg aU cc a6 sA bR;by_cases kd:kind=30
    ·subst kd;have bp:IntKind.u64.wrap (N.ins.length:Int)=(N.ins.length:Int):=qD _ (by omega) (by omega);by_cases ag:num<(N.ins.length:Int)
     ·obtain⟨eE,Cj,bQ,ek,nO⟩:=hU.i.int (i:=num.toNat) (by omega);have fY:=H4 eE _ _ ek (nO num.toNat (by omega));have ez:Hid (r=decide (bi N.ins num.toNat=width)):=by show _=_;rw[km.out];simp[lj,ag]
      rw[bQ] at gq;generalize bi N.ins num.toNat=x at fY ez;clear nO bQ km vi;go_wp2;go_quiet (fail)
      go_wp2;go_ret
      exact⟨ia (by rw[ez.out,iI];simp),Below.drewN nX _⟩
     ·have U:decide (num<(N.ins.length:Int))=false:=by simp[ag]
      have ez:Hid (r=false):=by show _=_;rw[km.out];simp[lj,ag]
      clear km vi;go_wp2;go_quiet (fail)
      go_wp2;go_ret
      exact⟨ia ez.symm,Below.drewN nX _⟩
    ·by_cases lD:kind=31
     ·subst lD;have bp:IntKind.u64.wrap (N.regs.length:Int)=(N.regs.length:Int):=qD _ (by omega) (by omega);by_cases ag:num<(N.regs.length:Int)
      ·obtain⟨z,ao⟩:∃z,N.regs[num.toNat]?=some z:=⟨N.regs[num.toNat]'(by omega),ct (by omega)⟩
       obtain⟨eE,Cj,bQ,ek,nO⟩:=hU.r.el ao;have fY:wr.cell? ⟨eE,Cj+num.toNat*3,none⟩=some (.int .i64 z.width):=H4 eE _ _ ek (nO 0 _ rfl);have ez:Hid (r=decide (z.width=width)):=by show _=_;rw[km.out];simp[lj,ag,ao]
       rw[bQ] at eX;generalize z.width=x at fY ez;clear nO bQ km vi ao;go_wp2;go_quiet (fail)
       go_wp2;go_ret
       exact⟨ia (by rw[ez.out,iI];simp),Below.drewN nX _⟩
      ·have U:decide (num<(N.regs.length:Int))=false:=by simp[ag]
       have ez:Hid (r=false):=by show _=_;rw[km.out];simp[lj,ag]
       clear km vi;go_wp2;go_quiet (fail)
       go_wp2;go_ret
       exact⟨ia ez.symm,Below.drewN nX _⟩
     ·by_cases kq:kind=32
      ·subst kq;have bp:IntKind.u64.wrap (N.mems.length:Int)=(N.mems.length:Int):=qD _ (by omega) (by omega);by_cases ag:num<(N.mems.length:Int)
       ·obtain⟨z,ao⟩:∃z,N.mems[num.toNat]?=some z:=⟨N.mems[num.toNat]'(by omega),ct (by omega)⟩
        obtain⟨eE,Cj,bQ,ek,nO⟩:=hU.m.el ao;have fY:wr.cell? ⟨eE,Cj+num.toNat*2,none⟩=some (.int .i64 z.width):=H4 eE _ _ ek (nO 0 _ rfl);have ez:Hid (r=decide (z.width=width)):=by show _=_;rw[km.out];simp[lj,ag,ao]
        rw[bQ] at fH;generalize z.width=x at fY ez;clear nO bQ km vi ao;go_wp2;go_quiet (fail)
        go_wp2;go_ret
        exact⟨ia (by rw[ez.out,iI];simp),Below.drewN nX _⟩
       ·have U:decide (num<(N.mems.length:Int))=false:=by simp[ag]
        have ez:Hid (r=false):=by show _=_;rw[km.out];simp[lj,ag]
        clear km vi;go_wp2;go_quiet (fail)
        go_wp2;go_ret
        exact⟨ia ez.symm,Below.drewN nX _⟩
      ·by_cases nK:kind=1∨kind=5
       ·have ez:Hid (r=hX kind width num (cG N args)):=by show _=_;rw[km.out];simp only[lj];rw[if_neg kd,if_neg lD,if_neg kq,if_pos nK]
        clear km;generalize hX kind width num (cG N args)=acm at vi ez;rcases nK with rfl | rfl
        all_goals
         go_wp2_with (go_at_call 38;refine vi.mono ?_;rintro e B ⟨rfl,bH⟩)
         go_ret
         exact⟨ia ez.symm,nX.trans (bH.mono nX.size)⟩
       ·have F:kind≠1:=fun e=>nK (.inl e)
        have hY:kind≠5:=fun e=>nK (.inr e)
        by_cases ag:num=0
        ·have ez:Hid (r=hX kind width num (cG N args)):=by show _=_;rw[km.out];simp only[lj];rw[if_neg kd,if_neg lD,if_neg kq,if_neg nK];rw[iI];simp[ag]
         clear km nK;generalize hX kind width num (cG N args)=acm at vi ez;subst ag;go_wp2_with (go_at_call 38;refine vi.mono ?_;rintro e B ⟨rfl,bH⟩)
         go_ret
         exact⟨ia ez.symm,nX.trans (bH.mono nX.size)⟩
        ·have ez:Hid (r=false):=by show _=_;rw[km.out];simp only[lj];rw[if_neg kd,if_neg lD,if_neg kq,if_neg nK];simp[ag]
         clear km nK vi;go_wp2;go_ret
         exact⟨ia ez.symm,nX⟩
 ·omega
end Go.Proofs.YtcbcenfjigcfkaaGreatDoor
