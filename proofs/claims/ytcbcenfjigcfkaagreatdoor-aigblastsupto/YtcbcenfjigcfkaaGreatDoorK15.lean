import Derived.Test.YtcbcenfjigcfkaaGreatDoorK14
set_option maxRecDepth 100000
set_option maxHeartbeats 40000000
namespace Go.Proofs.YtcbcenfjigcfkaaGreatDoor
open Go.RowKit
def iM (first:Nat) (ins regs:List (List Int)) (mems:List (List (List Int))) (hs:List Z) (d:eO) (bv:List (List Int)):List Z×List Int :=
 if d.kind=1 then (hs,yM d.width.toNat d.num.toNat)
 else if d.kind=30 then (hs,ins.getD d.num.toNat [])
 else if d.kind=31 then (hs,regs.getD d.num.toNat [])
 else if d.kind=32 then IW first hs (mems.getD d.num.toNat []) d.width.toNat (bv.getD 0 [])
 else if d.kind=5 then (hs,((bv.getD 0 []).drop d.num.toNat).take d.width.toNat)
 else if d.kind=6 then (hs,(bv.getD 0 []).take d.width.toNat++List.replicate (d.width.toNat - (bv.getD 0 []).length) 0)
 else if d.kind=7 then (hs,lX bv)
 else if d.kind=22 then n8 first hs ((bv.getD 0 []).getD 0 0) (bv.getD 1 []) (bv.getD 2 [])
 else if d.kind=9 then ((Ab first hs (bv.getD 0 [])).1,[(Ab first hs (bv.getD 0 [])).2])
 else if d.kind=10 then ((mQ first hs (bv.getD 0 [])).1,[(mQ first hs (bv.getD 0 [])).2])
 else if d.kind=11 then ((AN first hs (bv.getD 0 [])).1,[(AN first hs (bv.getD 0 [])).2])
 else if d.kind=8 then (hs,(bv.getD 0 []).map bu)
 else n7 first hs d.kind (bv.getD 0 []) (bv.getD 1 [])
theorem arY (first:Nat) (ins regs:List (List Int)) (mems:List (List (List Int))) (hs:List Z) (I a9:Nat) (args:List Int) (da:Option Addr) (dc:Nat) (bv:List (List Int)):iM first ins regs mems hs ⟨1,(I:Int),(a9:Int),args,da,dc⟩ bv=(hs,yM I a9):=rfl
theorem ar0 (first:Nat) (ins regs:List (List Int)) (mems:List (List (List Int))) (hs:List Z) (I a9:Nat) (args:List Int) (da:Option Addr) (dc:Nat) (bv:List (List Int)):iM first ins regs mems hs ⟨30,(I:Int),(a9:Int),args,da,dc⟩ bv=(hs,ins.getD a9 []):=rfl
theorem ar1 (first:Nat) (ins regs:List (List Int)) (mems:List (List (List Int))) (hs:List Z) (I a9:Nat) (args:List Int) (da:Option Addr) (dc:Nat) (bv:List (List Int)):iM first ins regs mems hs ⟨31,(I:Int),(a9:Int),args,da,dc⟩ bv=(hs,regs.getD a9 []):=rfl
theorem ar2 (first:Nat) (ins regs:List (List Int)) (mems:List (List (List Int))) (hs:List Z) (I a9:Nat) (args:List Int) (da:Option Addr) (dc:Nat) (bv:List (List Int)):iM first ins regs mems hs ⟨32,(I:Int),(a9:Int),args,da,dc⟩ bv=IW first hs (mems.getD a9 []) I (bv.getD 0 []):=rfl
theorem afn (first:Nat) (ins regs:List (List Int)) (mems:List (List (List Int))) (hs:List Z) (I a9:Nat) (args:List Int) (da:Option Addr) (dc:Nat) (bv:List (List Int)):iM first ins regs mems hs ⟨5,(I:Int),(a9:Int),args,da,dc⟩ bv=(hs,((bv.getD 0 []).drop a9).take I):=rfl
theorem afo (first:Nat) (ins regs:List (List Int)) (mems:List (List (List Int))) (hs:List Z) (I a9:Nat) (args:List Int) (da:Option Addr) (dc:Nat) (bv:List (List Int)):iM first ins regs mems hs ⟨6,(I:Int),(a9:Int),args,da,dc⟩ bv=(hs,(bv.getD 0 []).take I++List.replicate (I - (bv.getD 0 []).length) 0):=rfl
theorem afp (first:Nat) (ins regs:List (List Int)) (mems:List (List (List Int))) (hs:List Z) (I a9:Nat) (args:List Int) (da:Option Addr) (dc:Nat) (bv:List (List Int)):iM first ins regs mems hs ⟨7,(I:Int),(a9:Int),args,da,dc⟩ bv=(hs,lX bv):=rfl
theorem arZ (first:Nat) (ins regs:List (List Int)) (mems:List (List (List Int))) (hs:List Z) (I a9:Nat) (args:List Int) (da:Option Addr) (dc:Nat) (bv:List (List Int)):iM first ins regs mems hs ⟨22,(I:Int),(a9:Int),args,da,dc⟩ bv=n8 first hs ((bv.getD 0 []).getD 0 0) (bv.getD 1 []) (bv.getD 2 []):=rfl
theorem ar3 (first:Nat) (ins regs:List (List Int)) (mems:List (List (List Int))) (hs:List Z) (I a9:Nat) (args:List Int) (da:Option Addr) (dc:Nat) (bv:List (List Int)):iM first ins regs mems hs ⟨9,(I:Int),(a9:Int),args,da,dc⟩ bv=((Ab first hs (bv.getD 0 [])).1,[(Ab first hs (bv.getD 0 [])).2]):=rfl
theorem afl (first:Nat) (ins regs:List (List Int)) (mems:List (List (List Int))) (hs:List Z) (I a9:Nat) (args:List Int) (da:Option Addr) (dc:Nat) (bv:List (List Int)):iM first ins regs mems hs ⟨10,(I:Int),(a9:Int),args,da,dc⟩ bv=((mQ first hs (bv.getD 0 [])).1,[(mQ first hs (bv.getD 0 [])).2]):=rfl
theorem afm (first:Nat) (ins regs:List (List Int)) (mems:List (List (List Int))) (hs:List Z) (I a9:Nat) (args:List Int) (da:Option Addr) (dc:Nat) (bv:List (List Int)):iM first ins regs mems hs ⟨11,(I:Int),(a9:Int),args,da,dc⟩ bv=((AN first hs (bv.getD 0 [])).1,[(AN first hs (bv.getD 0 [])).2]):=rfl
theorem afq (first:Nat) (ins regs:List (List Int)) (mems:List (List (List Int))) (hs:List Z) (I a9:Nat) (args:List Int) (da:Option Addr) (dc:Nat) (bv:List (List Int)):iM first ins regs mems hs ⟨8,(I:Int),(a9:Int),args,da,dc⟩ bv=(hs,(bv.getD 0 []).map bu):=rfl
theorem ar4 (first:Nat) (ins regs:List (List Int)) (mems:List (List (List Int))) (hs:List Z) (kind:Int) (I a9:Nat) (args:List Int) (da:Option Addr) (dc:Nat) (bv:List (List Int)) (h:12<=kind∧kind<=21):iM first ins regs mems hs ⟨kind,(I:Int),(a9:Int),args,da,dc⟩ bv=n7 first hs kind (bv.getD 0 []) (bv.getD 1 []):=by
 unfold iM;rw[if_neg (by show ¬kind=1;omega)];rw[if_neg (by show ¬kind=30;omega)];rw[if_neg (by show ¬kind=31;omega)];rw[if_neg (by show ¬kind=32;omega)];rw[if_neg (by show ¬kind=5;omega)];rw[if_neg (by show ¬kind=6;omega)];rw[if_neg (by show ¬kind=7;omega)];rw[if_neg (by show ¬kind=22;omega)];rw[if_neg (by show ¬kind=9;omega)];rw[if_neg (by show ¬kind=10;omega)];rw[if_neg (by show ¬kind=11;omega)];rw[if_neg (by show ¬kind=8;omega)]
structure T6 (first:Nat) (hs:List Z) (ins regs:List (List Int)) (mems:List (List (List Int))) (d:eO) (bv:List (List Int)):Prop where
 kinds:d.kind=1∨d.kind=30∨d.kind=31∨d.kind=32∨d.kind=5∨d.kind=6∨d.kind=7∨d.kind=22∨d.kind=9∨d.kind=10∨d.kind=11∨d.kind=8∨(12<=d.kind∧d.kind<=21)
 w:1<=d.width.toNat∧d.width.toNat<=32
 alI:∀l,l∈bv->bt first hs l∧0<l.length∧l.length<=32
 al7:bv.length<=64
 k30:d.kind=30->∃l,ins[d.num.toNat]?=some l
 k31:d.kind=31->∃l,regs[d.num.toNat]?=some l
 k32:d.kind=32->∃ws,mems[d.num.toNat]?=some ws∧1<=ws.length∧ws.length<=256∧(∀l,l∈ws->l.length=d.width.toNat)∧∀l,l∈ws->bt first hs l
 k1:d.kind=32∨d.kind=5∨d.kind=6∨d.kind=9∨d.kind=10∨d.kind=11∨d.kind=8->bv.length=1
 k5:d.kind=5->d.num.toNat+d.width.toNat<=(bv.getD 0 []).length
 k7:d.kind=7->0<bv.length∧(lX bv).length<=65536
 k3:d.kind=22->bv.length=3
 k22:d.kind=22->(bv.getD 0 []).length=1∧(bv.getD 1 []).length=(bv.getD 2 []).length
 k2:(12<=d.kind∧d.kind<=21)->bv.length=2
 kb:(12<=d.kind∧d.kind<=21)->d.kind≠18->d.kind≠19->(bv.getD 0 []).length=(bv.getD 1 []).length
theorem anb {C:Nat} {w w1:World} {E M first:Nat} {hs:List Z} {Ps:Nat->Prop} {u:Value} (h:bZ C w E M first hs Ps) (D:V w w1) (bb:∀k,u.ownBlock=some k->w.heap.size<=k∧k<w1.heap.size):bZ C w1 E M first hs (lq Ps u):=by
 cases e:u.ownBlock with
 | none=>exact(h.to D).less (fun b D=>D.elim id (fun aS=>by rw[e] at aS;cases aS))
 | some k=>exact(h.add D (bb k e).1 (bb k e).2).less (fun b D=>D.elim .inl (fun aS=>by rw[e] at aS;cases aS;exact .inr rfl))
theorem awr (C:Nat) (w:World) (E M first:Nat) (hs:List Z) (Ps:Nat->Prop) (h:bZ C w E M first hs Ps) (ai ab aK nd bj:Nat) (ins regs:List (List Int)) (mems:List (List (List Int))) (ws:List (List Int)) (N:aR) (d:eO) (aM:wY w ai E ab aK Ps ins regs mems ws) (U:oR C w N nd bj d) (hF:T6 first hs ins regs mems d (fW ws d.args)) (gV:∀a,a∈d.args->0<=a∧∃l,ws[a.toNat]?=some l∧l≠[]) :
  Calls Tryz.prog 52 #[.pointer (some ⟨ai,0,none⟩),.pointer (some ⟨nd,bj,none⟩)] w (gD C w E M first Ps (iM first ins regs mems hs d (fW ws d.args))):=by
 have ef:=h.len.2.1;have zd:=h.lo.2.2;have KJ:=U.lt;obtain⟨kind,width,num,args,da,dc⟩:=d;obtain⟨I,rfl⟩:∃I:Nat,width=(I:Int):=⟨width.toNat,by have:=hF.w.1;simp only at this;omega⟩
 obtain⟨a9,rfl⟩:∃a9:Nat,num=(a9:Int):=⟨num.toNat,by have:=U.n0;simp only at this;omega⟩
 have kV:a9<18446744073709551616:=by have:=U.n1;simp only at this;omega
 have n0:=U.cells 0 _ rfl;have n1:=U.cells 1 _ rfl;have mv:=U.cells 2 _ rfl;have og:=U.cells 3 _ rfl;rw[Nat.add_zero] at n0;have ann:=hF.w;have acY:=hF.al7;simp only[Int.toNat_natCast] at ann;simp only at gV KJ acY;obtain⟨n,ri⟩:∃n,Hid (n=args.length):=⟨_,rfl⟩
 rw[<-ri.out] at og;have V6:n<=64:=by rw[ri.out];simpa[fW] using acY
 have JV:Hid (cm w.heap.size w da 1 (args.map j4)):=U.args.mono zd;have Zb:=K gV;have L4:=K aM;clear U;obtain⟨sE,qL⟩:∃gI,Hid (gI=iM first ins regs mems hs ⟨kind,I,a9,args,da,dc⟩ (fW ws args)):=⟨_,rfl⟩
 rw[<-qL.out];go_enter Tryz.func52,Tryz.ntmps52
 go_upto_block 0 with fail
 refine awq w ai E ab aK nd bj n dc da Ps ins regs mems ws args L4 JV ri V6 Zb _ _ (K ?_);intro w1 yU OU xV uS ww Sz SA SB SC SD SE LB LC LD LF Jg Jh hcut;obtain⟨am,oF,how,qY,H2⟩:=hcut;have sA:=K how;have oO:=K H2;have gr:=K (anb h H2 (fun k X=>how.lt k X));have yh:=K (h.kp H2);have HT:=aM.p;have m0:=iP H2 n0;have m1:=iP H2 n1;have m2:=iP H2 mv
 change Hid _ at oF qY
 clear how H2 n0 n1 mv og JV Zb;have nZ:Hid (∀(gI u e al),sE=gI->V w1 u->gD C u E M first (lq Ps yU) gI e al->gD C w E M first Ps sE e al):=fun gI u e al Vn bb ae=>by
  rw[Vn];exact gD.pre h (oO.trans (bb.mono oO.size)) qC ae
 have CX:Hid (∀(gI:List Z×List Int) u e al,V w1 u->gD C u E M first (lq Ps yU) gI e al->(∃v,e = .returned v)->f3 C (lq Ps yU) w1 al):=fun gI u e al bb ae ay=>by
  rcases ae with ⟨_,v,jO,_,_,_,X,_⟩ | ⟨_,⟨p,aE,_⟩,_⟩
  ·exact(gr.kp bb).trans X
  ·obtain⟨v,rfl⟩:=ay;cases aE
 have yi:Hid (∀{ls:List Int} u e al,V w1 u->sD u ls e al->gD C u E M first (lq Ps yU) (hs,ls) e al):=fun u e al bb ae=>sD.mk (gr.to bb) ae
 have w0:Hid (∀(k:Nat) (l:List Int),(fW ws args)[k]?=some l->∀g cap,yU = .slice (some ⟨g,0,none⟩) n cap->∃x,w1.cell? ⟨g,k,none⟩=some x∧cv (lq Ps yU) w1 x l):=fun k l hl g cap L=>by
  obtain⟨x,J,aw⟩:=qY k l hl;refine⟨x,?_,(aw.keep (fun b D=>yh.block b D)).more qC⟩;have aY:=sA.out;rw[L] at aY;rw[aY.cellAt k (by have:=(cr.1 J).1;rw[oF.out] at this;omega)];exact J
 have adt:=hF.kinds;simp only at adt;rcases adt with rfl | rfl | rfl | rfl | rfl | rfl | rfl | rfl | rfl | rfl | rfl | rfl | FQ
 ·have e:=arY first ins regs mems hs I a9 args da dc (fW ws args);have mo:=K (qL.trans e);have aj4:=K fun v (_:V w1 v)=>asv v I a9 (by omega) kV
  have hx:w1.cell? ⟨nd,bj+1,none⟩=some (.int .i64 I)∧w1.cell? ⟨nd,bj+2,none⟩=some (.int .u64 a9):=⟨by assumption,by assumption⟩
  clear e;go_upto_region 9 with fail
  refine nW ?_;refine ih (S:=(fun B=>B.cell? ⟨nd,bj+1,none⟩=some (.int .i64 I)∧B.cell? ⟨nd,bj+2,none⟩=some (.int .u64 a9))) (by kernel_rfl) (by exact hx) (fun ii=>?_);refine R 0 ?_;refine R 1 ?_;refine R 2 ?_;refine R 3 ?_;refine R 4 ?_;refine R 5 ?_;refine R 6 ?_;refine R 7 ?_;refine rd 8 fun aj W=>?_
  (try simp only[bf,bg,bh]);go_simp;go_at_call 72;refine(aj4 _ b7).mono ?_;intro e al Ax;have eN:=yi _ e al b7 Ax;have cO:Hid (gD C w E M first Ps sE e al):=nZ _ _ e al mo b7 eN;obtain⟨Qt,Ut,rfl,-,-⟩:=Ax;have jS:=CX _ _ _ al b7 eN ⟨_,rfl⟩;have lT:al.cell? ⟨nd,bj+1,none⟩=some (.int .i64 I)∧al.cell? ⟨nd,bj+2,none⟩=some (.int .u64 a9):=⟨(jS.below.cell (p:=⟨nd,bj+1,none⟩) KJ).trans (by assumption),(jS.below.cell (p:=⟨nd,bj+2,none⟩) KJ).trans (by assumption)⟩
  clear eN;go_wp2_with fail
  refine aQ W (by first | exact lT | trivial) fun kz=>?_
  clear W aj;refine R 9 ?_;refine gn (by kernel_rfl) ?_ _;refine gN.normal ?_;go_wp2;go_ret
  exact cO
 ·have e:=ar0 first ins regs mems hs I a9 args da dc (fW ws args);have mo:=K (qL.trans e);obtain⟨vH,tp⟩:=hF.k30 rfl;obtain⟨ahS,Kz,abw,za,rfl,Nf⟩:=aM.b2;obtain⟨ti,tx,GG,rfl,NR,zp,F2⟩:=Nf _ vH tp;rw[show(a9:Int).toNat=a9 by omega] at tp zp;have aB:a9<ins.length:=(cr.1 tp).1;have gF:ins.getD a9 []=vH:=by rw[iH,tp];rfl
  rw[gF] at e;have mo:=K (qL.trans e);have cO:Hid (gD C w E M first Ps sE (.returned GG) w1.drew):=by
   show gD _ _ _ _ _ _ _ _ _;rw[mo.out];exact .inl ⟨h.len.1,GG,lq Ps yU,rfl,qC,gr.to (Below.drew (ax _ _)),yh.trans ((gr.less qC).kp (Below.drew (ax _ _))),((F2.keep (fun b D=>yh.block b D)).more qC).keep (fun _ _=>rfl)⟩
  have c1:=iP oO Kz;have c2:=iP oO zp;have fa:(a9:Int)<(ins.length:Int):=by omega
  have hx:w1.cell? ⟨ai,2,none⟩=some (.slice (some ⟨ti,tx,none⟩) ins.length za)∧w1.cell? ⟨nd,bj+2,none⟩=some (.int .u64 a9)∧w1.cell? ⟨ti,tx+a9,none⟩=some (GG):=⟨by assumption,by assumption,by assumption⟩
  clear e;obtain⟨y9,Cq,sH,N6,-,-,-⟩:=F2;subst N6;generalize ins.length=ln at *;go_upto_region 11 with fail
  refine nW ?_;refine ih (S:=(fun B=>B.cell? ⟨ai,2,none⟩=some (.slice (some ⟨ti,tx,none⟩) ln za)∧B.cell? ⟨nd,bj+2,none⟩=some (.int .u64 a9)∧B.cell? ⟨ti,tx+a9,none⟩=some (.slice (some ⟨y9,Cq,none⟩) vH.length sH))) (by kernel_rfl) (by exact hx) (fun ii=>?_);refine R 0 ?_;refine R 1 ?_;refine R 2 ?_;refine R 3 ?_;refine R 4 ?_;refine R 5 ?_;refine R 6 ?_;refine R 7 ?_;refine R 8 ?_;refine R 9 ?_;refine R 10 ?_;refine gn (by kernel_rfl) ?_ _;refine gN.normal ?_;go_wp2;go_ret
  exact cO
 ·have e:=ar1 first ins regs mems hs I a9 args da dc (fW ws args);have mo:=K (qL.trans e);obtain⟨vH,tp⟩:=hF.k31 rfl;obtain⟨ahS,Kz,abw,za,rfl,Nf⟩:=aM.b3;obtain⟨ti,tx,GG,rfl,NR,zp,F2⟩:=Nf _ vH tp;rw[show(a9:Int).toNat=a9 by omega] at tp zp;have aB:a9<regs.length:=(cr.1 tp).1;have gF:regs.getD a9 []=vH:=by rw[iH,tp];rfl
  rw[gF] at e;have mo:=K (qL.trans e);have cO:Hid (gD C w E M first Ps sE (.returned GG) w1.drew):=by
   show gD _ _ _ _ _ _ _ _ _;rw[mo.out];exact .inl ⟨h.len.1,GG,lq Ps yU,rfl,qC,gr.to (Below.drew (ax _ _)),yh.trans ((gr.less qC).kp (Below.drew (ax _ _))),((F2.keep (fun b D=>yh.block b D)).more qC).keep (fun _ _=>rfl)⟩
  have c1:=iP oO Kz;have c2:=iP oO zp;have fa:(a9:Int)<(regs.length:Int):=by omega
  have hx:w1.cell? ⟨ai,3,none⟩=some (.slice (some ⟨ti,tx,none⟩) regs.length za)∧w1.cell? ⟨nd,bj+2,none⟩=some (.int .u64 a9)∧w1.cell? ⟨ti,tx+a9,none⟩=some (GG):=⟨by assumption,by assumption,by assumption⟩
  clear e;obtain⟨y9,Cq,sH,N6,-,-,-⟩:=F2;subst N6;generalize regs.length=ln at *;go_upto_region 13 with fail
  refine nW ?_;refine ih (S:=(fun B=>B.cell? ⟨ai,3,none⟩=some (.slice (some ⟨ti,tx,none⟩) ln za)∧B.cell? ⟨nd,bj+2,none⟩=some (.int .u64 a9)∧B.cell? ⟨ti,tx+a9,none⟩=some (.slice (some ⟨y9,Cq,none⟩) vH.length sH))) (by kernel_rfl) (by exact hx) (fun ii=>?_);refine R 0 ?_;refine R 1 ?_;refine R 2 ?_;refine R 3 ?_;refine R 4 ?_;refine R 5 ?_;refine R 6 ?_;refine R 7 ?_;refine R 8 ?_;refine R 9 ?_;refine R 10 ?_;refine gn (by kernel_rfl) ?_ _;refine gN.normal ?_;go_wp2;go_ret
  exact cO
 ·have e:=ar2 first ins regs mems hs I a9 args da dc (fW ws args);have aU:=hF.k1 (by simp);obtain⟨jf,lW,cn,cq,aoA,aoz⟩:=hF.k32 rfl;have mb:n=1:=by rw[ri.out,<-aU];simp[fW]
  obtain⟨g,cap,rK,-,-⟩:=sA.form (by omega);subst rK;have rD:(Value.slice (some ⟨g,0,none⟩) n cap).ownBlock=some g:=rfl;obtain⟨eW,jk⟩:=bS (l:=fW ws args) (k:=0) (by rw[aU];decide);have qU:(fW ws args).getD 0 []=eW:=by rw[iH,jk];rfl
  obtain⟨qp,i0,FF⟩:=hF.alI eW (bn jk);obtain⟨bX,Fj,iT⟩:=w0 0 eW jk g cap rfl;have qj:=K iT;obtain⟨jA,iU,jQ,rfl,FG,DJ,-⟩:=iT;obtain⟨ahS,Kz,abw,za,rfl,Nf⟩:=aM.b4;obtain⟨ti,tx,GG,rfl,NR,zp,F2⟩:=Nf _ jf lW;rw[show(a9:Int).toNat=a9 by omega] at lW zp;have aB:a9<mems.length:=(cr.1 lW).1;have gF:mems.getD a9 []=jf:=by rw[iH,lW];rfl
  rw[gF,qU] at e;have mo:=K (qL.trans e);have apz:=(F2.keep (fun b D=>yh.block b D)).more (qC (u:= .slice (some ⟨g,0,none⟩) n cap));have g3:=K fun v (L:V w1 v)=>atX C v E M first hs _ (gr.to L) _ _ jf eW I (apz.to (gr.kp L)) (qj.to (gr.kp L)) cn cq aoA hF.w.1 hF.w.2 aoz qp (by omega)
  have c1:=iP oO Kz;have c2:=iP oO zp;have c3:=iP oO aM.b0;have fa:(a9:Int)<(mems.length:Int):=by omega
  clear e;obtain⟨y9,Cq,sH,N6,-,-,-⟩:=F2;subst N6;generalize azk:jf.length=Xl at *;generalize mems.length=ln at *;have hx:w1.cell? ⟨ai,0,none⟩=some (.pointer (some ⟨E,0,none⟩))∧w1.cell? ⟨ai,4,none⟩=some (.slice (some ⟨ti,tx,none⟩) ln za)∧w1.cell? ⟨nd,bj+2,none⟩=some (.int .u64 a9)∧w1.cell? ⟨ti,tx+a9,none⟩=some (.slice (some ⟨y9,Cq,none⟩) Xl sH)∧w1.cell? ⟨g,0,none⟩=some (.slice (some ⟨jA,iU,none⟩) eW.length jQ):=⟨by assumption,by assumption,by assumption,by assumption,by assumption⟩
  subst mb;go_upto_region 15 with fail
  refine nW ?_;refine ih (S:=(fun B=>B.cell? ⟨ai,0,none⟩=some (.pointer (some ⟨E,0,none⟩))∧B.cell? ⟨ai,4,none⟩=some (.slice (some ⟨ti,tx,none⟩) ln za)∧B.cell? ⟨nd,bj+2,none⟩=some (.int .u64 a9)∧B.cell? ⟨ti,tx+a9,none⟩=some (.slice (some ⟨y9,Cq,none⟩) Xl sH)∧B.cell? ⟨g,0,none⟩=some (.slice (some ⟨jA,iU,none⟩) eW.length jQ))) (by kernel_rfl) (by exact hx) (fun ii=>?_);refine R 0 ?_;refine R 1 ?_;refine R 2 ?_;refine R 3 ?_;refine R 4 ?_;refine R 5 ?_;refine R 6 ?_;refine R 7 ?_;refine R 8 ?_;refine R 9 ?_;refine R 10 ?_;refine R 11 ?_;refine R 12 ?_;refine R 13 ?_;refine R 14 ?_;refine R 15 ?_;refine R 16 ?_;refine rd 17 fun aj W=>?_
  (try simp only[bf,bg,bh]);go_simp;go_at_call 73;refine(g3 _ b7).mono ?_;intro e al eN;have cO:Hid (gD C w E M first Ps sE e al):=nZ _ _ e al mo b7 eN;have FB:(∃v,e = .returned v)->al.cell? ⟨ai,0,none⟩=some (.pointer (some ⟨E,0,none⟩))∧al.cell? ⟨ai,4,none⟩=some (.slice (some ⟨ti,tx,none⟩) ln za)∧al.cell? ⟨nd,bj+2,none⟩=some (.int .u64 a9)∧al.cell? ⟨ti,tx+a9,none⟩=some (.slice (some ⟨y9,Cq,none⟩) Xl sH)∧al.cell? ⟨g,0,none⟩=some (.slice (some ⟨jA,iU,none⟩) eW.length jQ):=fun ay=>by
   have jS:=CX _ _ e al b7 eN ay;exact⟨(dA (a:=⟨ai,0,none⟩) (jS.block _ (.inl HT.1))).trans (by assumption),(dA (a:=⟨ai,4,none⟩) (jS.block _ (.inl HT.1))).trans (by assumption),(jS.below.cell (p:=⟨nd,bj+2,none⟩) KJ).trans (by assumption),(dA (a:=⟨ti,tx+a9,none⟩) (jS.block _ (.inl NR))).trans (by assumption),(dA (a:=⟨g,0,none⟩) (jS.block _ (.inr rD))).trans (by assumption)⟩
  rcases eN.cases with ⟨v,rfl⟩ | ⟨p,rfl⟩
  rotate_left
  ·clear eN;unfold fI at cO ⊢;go_wp2_with fail
   refine gN.panic (fun eP f7=>?_);have iO:Hid (eP.defers=[]):=f7;clear f7;go_wp2;exact⟨iO,cO⟩
  have lT:=FB ⟨v,rfl⟩;clear eN FB;go_wp2_with fail
  refine aQ W (by first | exact lT | trivial) fun kz=>?_
  clear W aj;refine R 18 ?_;refine gn (by kernel_rfl) ?_ _;refine gN.normal ?_;go_wp2;go_ret
  exact cO
 ·have e:=afn first ins regs mems hs I a9 args da dc (fW ws args);have aU:=hF.k1 (by simp);have ej:=hF.k5 rfl;have mb:n=1:=by rw[ri.out,<-aU];simp[fW]
  obtain⟨g,cap,rK,-,-⟩:=sA.form (by omega);subst rK;have rD:(Value.slice (some ⟨g,0,none⟩) n cap).ownBlock=some g:=rfl;obtain⟨eW,jk⟩:=bS (l:=fW ws args) (k:=0) (by rw[aU];decide);have qU:(fW ws args).getD 0 []=eW:=by rw[iH,jk];rfl
  obtain⟨qp,i0,FF⟩:=hF.alI eW (bn jk);obtain⟨bX,Fj,iT⟩:=w0 0 eW jk g cap rfl;have qj:=K iT;obtain⟨jA,iU,jQ,rfl,FG,DJ,-⟩:=iT;rw[qU] at ej;simp only[Int.toNat_natCast] at ej;rw[qU] at e;have mo:=K (qL.trans e);have cO:Hid (gD C w E M first Ps sE (.returned (.slice (some ⟨jA,iU+a9,none⟩) I (jQ - a9))) w1.drew):=by
   show gD _ _ _ _ _ _ _ _ _;rw[mo.out];exact .inl ⟨h.len.1,_,_,rfl,qC,gr.to (Below.drew (ax _ _)),yh.trans ((gr.less qC).kp (Below.drew (ax _ _))),((qj.drop a9 (by omega)).take I (by omega)).keep (fun _ _=>rfl)⟩
  have sP:¬jQ - a9=0:=by have:=hF.w.1;omega
  have ayH:¬jQ=a9:=by have:=hF.w.1;omega
  have ayh:(a9:Int)<=(eW.length:Int):=by omega
  have ayi:(I:Int)<=((jQ - a9:Nat):Int):=by omega
  have hx:w1.cell? ⟨g,0,none⟩=some (.slice (some ⟨jA,iU,none⟩) eW.length jQ)∧w1.cell? ⟨nd,bj+2,none⟩=some (.int .u64 a9)∧w1.cell? ⟨nd,bj+1,none⟩=some (.int .i64 I):=⟨by assumption,by assumption,by assumption⟩
  clear e;subst mb;go_upto_region 17 with fail
  refine nW ?_;refine ih (S:=(fun B=>B.cell? ⟨g,0,none⟩=some (.slice (some ⟨jA,iU,none⟩) eW.length jQ)∧B.cell? ⟨nd,bj+2,none⟩=some (.int .u64 a9)∧B.cell? ⟨nd,bj+1,none⟩=some (.int .i64 I))) (by kernel_rfl) (by exact hx) (fun ii=>?_);refine R 0 ?_;refine R 1 ?_;refine R 2 ?_;refine R 3 ?_;refine R 4 ?_;refine R 5 ?_;refine R 6 ?_;refine R 7 ?_;refine R 8 ?_;refine R 9 ?_;refine R 10 ?_;refine R 11 ?_;refine R 12 ?_;refine R 13 ?_;refine gn (by kernel_rfl) ?_ _;refine gN.normal ?_;go_wp2;go_ret
  exact cO
 ·have e:=afo first ins regs mems hs I a9 args da dc (fW ws args);have aU:=hF.k1 (by simp);have mb:n=1:=by rw[ri.out,<-aU];simp[fW]
  obtain⟨g,cap,rK,-,-⟩:=sA.form (by omega);subst rK;have rD:(Value.slice (some ⟨g,0,none⟩) n cap).ownBlock=some g:=rfl;obtain⟨eW,jk⟩:=bS (l:=fW ws args) (k:=0) (by rw[aU];decide);have qU:(fW ws args).getD 0 []=eW:=by rw[iH,jk];rfl
  obtain⟨qp,i0,FF⟩:=hF.alI eW (bn jk);obtain⟨bX,Fj,iT⟩:=w0 0 eW jk g cap rfl;have qj:=K iT;obtain⟨jA,iU,jQ,rfl,FG,DJ,-⟩:=iT;rw[qU] at e;have mo:=K (qL.trans e);have LW:=K fun v (L:V w1 v)=>amM v jA iU jQ eW I (by have:=hF.w.2;omega) (fun i x J=>(qj.to (gr.kp L)).cells J)
  have hx:w1.cell? ⟨g,0,none⟩=some (.slice (some ⟨jA,iU,none⟩) eW.length jQ)∧w1.cell? ⟨nd,bj+1,none⟩=some (.int .i64 I):=⟨by assumption,by assumption⟩
  clear e;subst mb;go_upto_region 19 with fail
  refine nW ?_;refine ih (S:=(fun B=>B.cell? ⟨g,0,none⟩=some (.slice (some ⟨jA,iU,none⟩) eW.length jQ)∧B.cell? ⟨nd,bj+1,none⟩=some (.int .i64 I))) (by kernel_rfl) (by exact hx) (fun ii=>?_);refine R 0 ?_;refine R 1 ?_;refine R 2 ?_;refine R 3 ?_;refine R 4 ?_;refine R 5 ?_;refine R 6 ?_;refine rd 7 fun aj W=>?_
  (try simp only[bf,bg,bh]);go_simp;go_at_call 74;refine(LW _ b7).mono ?_;intro e al Ax;have eN:=yi _ e al b7 Ax;have cO:Hid (gD C w E M first Ps sE e al):=nZ _ _ e al mo b7 eN;obtain⟨Qt,Ut,rfl,-,-⟩:=Ax;generalize (eW.take I++List.replicate (I - eW.length) 0).length=ae1 at cO eN ⊢;have jS:=CX _ _ _ al b7 eN ⟨_,rfl⟩;have lT:al.cell? ⟨g,0,none⟩=some (.slice (some ⟨jA,iU,none⟩) eW.length jQ)∧al.cell? ⟨nd,bj+1,none⟩=some (.int .i64 I):=⟨(dA (a:=⟨g,0,none⟩) (jS.block _ (.inr rD))).trans (by assumption),(jS.below.cell (p:=⟨nd,bj+1,none⟩) KJ).trans (by assumption)⟩
  clear eN;go_wp2_with fail
  refine aQ W (by first | exact lT | trivial) fun kz=>?_
  clear W aj;refine R 8 ?_;refine gn (by kernel_rfl) ?_ _;refine gN.normal ?_;go_wp2;go_ret
  exact cO
 ·have e:=afp first ins regs mems hs I a9 args da dc (fW ws args);obtain⟨Q5,aoo⟩:=hF.k7 rfl;have mb:0<n:=by rw[ri.out];simpa[fW] using Q5
  obtain⟨g,cap,rK,-,-⟩:=sA.form (by omega);subst rK;have rD:(Value.slice (some ⟨g,0,none⟩) n cap).ownBlock=some g:=rfl;have mo:=K (qL.trans e);have ajW:Hid (∀v,V w1 v->Calls Tryz.prog 75 #[.slice (some ⟨g,0,none⟩) n cap] v (sD v (lX (fW ws args)))):=fun v L=>by
   have Iu:abt v g 0 am (fW ws args):=by
    refine⟨by rw[oF.out,ri.out];simp[fW],fun i x J=>?_,fun i l hl=>?_⟩
    ·rw[Nat.zero_add];exact iP L (by rw[sA.cellAt i (by have:=(cr.1 J).1;rw[oF.out] at this;omega)];exact J)
    ·obtain⟨x,J,aw⟩:=qY i l hl;obtain⟨bw,kG,mJ,rfl,-,-,-⟩:=id aw;exact⟨bw,kG,mJ,J,fun j y aF=>iP L (iP oO (aw.cells aF))⟩
   have:=ap7 v g 0 cap am (fW ws args) Iu Q5 (by have:=hF.al7;omega) (fun l hl=>by have:=hF.alI l hl;omega) aoo
   rw[show(fW ws args).length=n by rw[ri.out];simp[fW]] at this;exact this
  clear e;go_wp2_with fail
  go_at_call 75;refine(ajW _ b7).mono ?_;intro e al Ax;have eN:=yi _ e al b7 Ax;have cO:Hid (gD C w E M first Ps sE e al):=nZ _ _ e al mo b7 eN;obtain⟨Qt,Ut,rfl,-,-⟩:=Ax;clear eN;generalize (lX (fW ws args)).length=ae1 at cO ⊢;go_wp2;go_ret
  exact cO
 ·have e:=arZ first ins regs mems hs I a9 args da dc (fW ws args);have aU:=hF.k3 rfl;have mb:n=3:=by rw[ri.out,<-aU];simp[fW]
  obtain⟨g,cap,rK,-,-⟩:=sA.form (by omega);subst rK;have rD:(Value.slice (some ⟨g,0,none⟩) n cap).ownBlock=some g:=rfl;obtain⟨eW,jk⟩:=bS (l:=fW ws args) (k:=0) (by rw[aU];decide);have qU:(fW ws args).getD 0 []=eW:=by rw[iH,jk];rfl
  obtain⟨qp,i0,FF⟩:=hF.alI eW (bn jk);obtain⟨bX,Fj,iT⟩:=w0 0 eW jk g cap rfl;have qj:=K iT;obtain⟨jA,iU,jQ,rfl,FG,DJ,-⟩:=iT;obtain⟨kD,pq⟩:=bS (l:=fW ws args) (k:=1) (by rw[aU];decide);have Nu:(fW ws args).getD 1 []=kD:=by rw[iH,pq];rfl
  obtain⟨ux,hR,anV⟩:=hF.alI kD (bn pq);obtain⟨dC,alp,bT⟩:=w0 1 kD pq g cap rfl;have J0:=K bT;obtain⟨xk,iG,yp,rfl,an0,ao0,-⟩:=bT;obtain⟨lI,oD⟩:=bS (l:=fW ws args) (k:=2) (by rw[aU];decide);have adj:(fW ws args).getD 2 []=lI:=by rw[iH,oD];rfl
  obtain⟨QP,bH,ayz⟩:=hF.alI lI (bn oD);obtain⟨en,axu,gp⟩:=w0 2 lI oD g cap rfl;have ym:=K gp;obtain⟨HI,hT,BO,rfl,ayE,azt,-⟩:=gp;obtain⟨Q4,FQ⟩:=hF.k22 rfl;rw[qU] at Q4;rw[Nu,adj] at FQ;obtain⟨q,aJ⟩:=bS (l:=eW) (k:=0) (by omega);have qV:eW.getD 0 0=q:=by rw[iH,aJ];rfl
  rw[qU,Nu,adj,qV] at e;have mo:=K (qL.trans e);have Qc:=qj.cells aJ;rw[Nat.add_zero] at Qc;have CK:=K fun v (L:V w1 v)=>ab8 C v E M first hs _ (gr.to L) q (qp q (bn aJ)) _ _ kD lI (J0.to (gr.kp L)) (ym.to (gr.kp L)) ux QP FQ (by omega)
  have c3:=iP oO aM.b0;have ay4:(0:Int)<(eW.length:Int):=by omega
  have hx:w1.cell? ⟨ai,0,none⟩=some (.pointer (some ⟨E,0,none⟩))∧w1.cell? ⟨g,0,none⟩=some (.slice (some ⟨jA,iU,none⟩) eW.length jQ)∧w1.cell? ⟨jA,iU,none⟩=some (.int .i64 q)∧w1.cell? ⟨g,1,none⟩=some (.slice (some ⟨xk,iG,none⟩) kD.length yp)∧w1.cell? ⟨g,2,none⟩=some (.slice (some ⟨HI,hT,none⟩) lI.length BO):=⟨by assumption,by assumption,by assumption,by assumption,by assumption⟩
  clear e Q4 FQ;subst mb;go_upto_region 23 with fail
  refine nW ?_;refine ih (S:=(fun B=>B.cell? ⟨ai,0,none⟩=some (.pointer (some ⟨E,0,none⟩))∧B.cell? ⟨g,0,none⟩=some (.slice (some ⟨jA,iU,none⟩) eW.length jQ)∧B.cell? ⟨jA,iU,none⟩=some (.int .i64 q)∧B.cell? ⟨g,1,none⟩=some (.slice (some ⟨xk,iG,none⟩) kD.length yp)∧B.cell? ⟨g,2,none⟩=some (.slice (some ⟨HI,hT,none⟩) lI.length BO))) (by kernel_rfl) (by exact hx) (fun ii=>?_);refine R 0 ?_;refine R 1 ?_;refine R 2 ?_;refine R 3 ?_;refine R 4 ?_;refine R 5 ?_;refine R 6 ?_;refine R 7 ?_;refine R 8 ?_;refine R 9 ?_;refine R 10 ?_;refine R 11 ?_;refine R 12 ?_;refine R 13 ?_;refine R 14 ?_;refine rd 15 fun aj W=>?_
  (try simp only[bf,bg,bh]);go_simp;go_at_call 76;refine(CK _ b7).mono ?_;intro e al eN;have cO:Hid (gD C w E M first Ps sE e al):=nZ _ _ e al mo b7 eN;have FB:(∃v,e = .returned v)->al.cell? ⟨ai,0,none⟩=some (.pointer (some ⟨E,0,none⟩))∧al.cell? ⟨g,0,none⟩=some (.slice (some ⟨jA,iU,none⟩) eW.length jQ)∧al.cell? ⟨jA,iU,none⟩=some (.int .i64 q)∧al.cell? ⟨g,1,none⟩=some (.slice (some ⟨xk,iG,none⟩) kD.length yp)∧al.cell? ⟨g,2,none⟩=some (.slice (some ⟨HI,hT,none⟩) lI.length BO):=fun ay=>by
   have jS:=CX _ _ e al b7 eN ay;exact⟨(dA (a:=⟨ai,0,none⟩) (jS.block _ (.inl HT.1))).trans (by assumption),(dA (a:=⟨g,0,none⟩) (jS.block _ (.inr rD))).trans (by assumption),(dA (a:=⟨jA,iU,none⟩) (jS.block _ DJ)).trans (by assumption),(dA (a:=⟨g,1,none⟩) (jS.block _ (.inr rD))).trans (by assumption),(dA (a:=⟨g,2,none⟩) (jS.block _ (.inr rD))).trans (by assumption)⟩
  rcases eN.cases with ⟨v,rfl⟩ | ⟨p,rfl⟩
  rotate_left
  ·clear eN;unfold fI at cO ⊢;go_wp2_with fail
   refine gN.panic (fun eP f7=>?_);have iO:Hid (eP.defers=[]):=f7;clear f7;go_wp2;exact⟨iO,cO⟩
  have lT:=FB ⟨v,rfl⟩;clear eN FB;go_wp2_with fail
  refine aQ W (by first | exact lT | trivial) fun kz=>?_
  clear W aj;refine R 16 ?_;refine gn (by kernel_rfl) ?_ _;refine gN.normal ?_;go_wp2;go_ret
  exact cO
 ·have e:=ar3 first ins regs mems hs I a9 args da dc (fW ws args);have aU:=hF.k1 (by simp);have mb:n=1:=by rw[ri.out,<-aU];simp[fW]
  obtain⟨g,cap,rK,-,-⟩:=sA.form (by omega);subst rK;have rD:(Value.slice (some ⟨g,0,none⟩) n cap).ownBlock=some g:=rfl;obtain⟨eW,jk⟩:=bS (l:=fW ws args) (k:=0) (by rw[aU];decide);have qU:(fW ws args).getD 0 []=eW:=by rw[iH,jk];rfl
  obtain⟨qp,i0,FF⟩:=hF.alI eW (bn jk);obtain⟨bX,Fj,iT⟩:=w0 0 eW jk g cap rfl;have qj:=K iT;obtain⟨jA,iU,jQ,rfl,FG,DJ,-⟩:=iT;rw[qU] at e;have LO:=K fun v (L:V w1 v)=>akq C v E M first hs _ (gr.to L) _ eW (qj.to (gr.kp L)) qp (by omega) (by omega)
  have c3:=iP oO aM.b0;have mo:=K (qL.trans e);generalize Ab first hs eW=zF at *;have hx:w1.cell? ⟨ai,0,none⟩=some (.pointer (some ⟨E,0,none⟩))∧w1.cell? ⟨g,0,none⟩=some (.slice (some ⟨jA,iU,none⟩) eW.length jQ):=⟨by assumption,by assumption⟩
  clear e;subst mb;go_upto_region 25 with fail
  refine nW ?_;refine ih (S:=(fun B=>B.cell? ⟨ai,0,none⟩=some (.pointer (some ⟨E,0,none⟩))∧B.cell? ⟨g,0,none⟩=some (.slice (some ⟨jA,iU,none⟩) eW.length jQ))) (by kernel_rfl) (by exact hx) (fun ii=>?_);refine R 0 ?_;refine R 1 ?_;refine R 2 ?_;refine R 3 ?_;refine R 4 ?_;refine R 5 ?_;refine R 6 ?_;refine rd 7 fun aj W=>?_
  (try simp only[bf,bg,bh]);go_simp;go_at_call 77;refine(LO _ b7).mono ?_;rintro e al (⟨ae,rfl,af,bz⟩ | ⟨ae,⟨z,rfl,bq⟩,D⟩);rotate_left
  ·have bd:=K (show 1048576<sE.1.length∧_∧_ from ⟨by rw[mo.out];exact ae,bq,yh.below.trans (qn gr b7 D)⟩);clear ae bq D;unfold fI;go_wp2_with fail
   refine gN.panic (fun eP f7=>?_);have iO:Hid (eP.defers=[]):=f7;clear f7;go_wp2;exact⟨iO,.inr ⟨bd.1,⟨z,rfl,bd.2.1⟩,bd.2.2⟩⟩
  have jS:=qx gr b7 bz;have cO:Hid (gD C w E M first Ps sE (.returned (.slice (some ⟨al.heap.size,0,none⟩) 1 1)) (al.alloc (.cells #[.int .i64 zF.2] 3))):=by
   show gD _ _ _ _ _ _ _ _ _;rw[mo.out];exact Ot (af.less qC) (yh.trans (jS.less qC))
  have lT:al.cell? ⟨ai,0,none⟩=some (.pointer (some ⟨E,0,none⟩))∧al.cell? ⟨g,0,none⟩=some (.slice (some ⟨jA,iU,none⟩) eW.length jQ):=⟨(dA (a:=⟨ai,0,none⟩) (jS.block _ (.inl HT.1))).trans (by assumption),(dA (a:=⟨g,0,none⟩) (jS.block _ (.inr rD))).trans (by assumption)⟩
  have vu:(al.alloc (.cells #[.int .i64 zF.2] 3)).cell? ⟨ai,0,none⟩=some (.pointer (some ⟨E,0,none⟩))∧(al.alloc (.cells #[.int .i64 zF.2] 3)).cell? ⟨g,0,none⟩=some (.slice (some ⟨jA,iU,none⟩) eW.length jQ):=⟨iP ((ax _ _).alloc (aL _) _) lT.1,iP ((ax _ _).alloc (aL _) _) lT.2⟩
  clear ae af bz;unfold hz;go_wp2_with fail
  refine aQ W (by exact lT) fun kz=>?_
  clear W aj;refine rd 8 fun aj W=>?_
  (try simp only[bf,bg,bh]);go_simp;refine aQ W (by exact vu) fun QH=>?_
  clear W aj;refine R 9 ?_;refine gn (by kernel_rfl) ?_ _;refine gN.normal ?_;go_wp2;go_ret
  exact cO
 ·have e:=afl first ins regs mems hs I a9 args da dc (fW ws args);have aU:=hF.k1 (by simp);have mb:n=1:=by rw[ri.out,<-aU];simp[fW]
  obtain⟨g,cap,rK,-,-⟩:=sA.form (by omega);subst rK;have rD:(Value.slice (some ⟨g,0,none⟩) n cap).ownBlock=some g:=rfl;obtain⟨eW,jk⟩:=bS (l:=fW ws args) (k:=0) (by rw[aU];decide);have qU:(fW ws args).getD 0 []=eW:=by rw[iH,jk];rfl
  obtain⟨qp,i0,FF⟩:=hF.alI eW (bn jk);obtain⟨bX,Fj,iT⟩:=w0 0 eW jk g cap rfl;have qj:=K iT;obtain⟨jA,iU,jQ,rfl,FG,DJ,-⟩:=iT;rw[qU] at e;have LO:=K fun v (L:V w1 v)=>OL C v E M first hs _ (gr.to L) _ eW (qj.to (gr.kp L)) qp (by omega) (by omega)
  have c3:=iP oO aM.b0;have mo:=K (qL.trans e);generalize mQ first hs eW=zF at *;have hx:w1.cell? ⟨ai,0,none⟩=some (.pointer (some ⟨E,0,none⟩))∧w1.cell? ⟨g,0,none⟩=some (.slice (some ⟨jA,iU,none⟩) eW.length jQ):=⟨by assumption,by assumption⟩
  clear e;subst mb;go_upto_region 27 with fail
  refine nW ?_;refine ih (S:=(fun B=>B.cell? ⟨ai,0,none⟩=some (.pointer (some ⟨E,0,none⟩))∧B.cell? ⟨g,0,none⟩=some (.slice (some ⟨jA,iU,none⟩) eW.length jQ))) (by kernel_rfl) (by exact hx) (fun ii=>?_);refine R 0 ?_;refine R 1 ?_;refine R 2 ?_;refine R 3 ?_;refine R 4 ?_;refine R 5 ?_;refine R 6 ?_;refine rd 7 fun aj W=>?_
  (try simp only[bf,bg,bh]);go_simp;go_at_call 78;refine(LO _ b7).mono ?_;rintro e al (⟨ae,rfl,af,bz⟩ | ⟨ae,⟨z,rfl,bq⟩,D⟩);rotate_left
  ·have bd:=K (show 1048576<sE.1.length∧_∧_ from ⟨by rw[mo.out];exact ae,bq,yh.below.trans (qn gr b7 D)⟩);clear ae bq D;unfold fI;go_wp2_with fail
   refine gN.panic (fun eP f7=>?_);have iO:Hid (eP.defers=[]):=f7;clear f7;go_wp2;exact⟨iO,.inr ⟨bd.1,⟨z,rfl,bd.2.1⟩,bd.2.2⟩⟩
  have jS:=qx gr b7 bz;have cO:Hid (gD C w E M first Ps sE (.returned (.slice (some ⟨al.heap.size,0,none⟩) 1 1)) (al.alloc (.cells #[.int .i64 zF.2] 3))):=by
   show gD _ _ _ _ _ _ _ _ _;rw[mo.out];exact Ot (af.less qC) (yh.trans (jS.less qC))
  have lT:al.cell? ⟨ai,0,none⟩=some (.pointer (some ⟨E,0,none⟩))∧al.cell? ⟨g,0,none⟩=some (.slice (some ⟨jA,iU,none⟩) eW.length jQ):=⟨(dA (a:=⟨ai,0,none⟩) (jS.block _ (.inl HT.1))).trans (by assumption),(dA (a:=⟨g,0,none⟩) (jS.block _ (.inr rD))).trans (by assumption)⟩
  have vu:(al.alloc (.cells #[.int .i64 zF.2] 3)).cell? ⟨ai,0,none⟩=some (.pointer (some ⟨E,0,none⟩))∧(al.alloc (.cells #[.int .i64 zF.2] 3)).cell? ⟨g,0,none⟩=some (.slice (some ⟨jA,iU,none⟩) eW.length jQ):=⟨iP ((ax _ _).alloc (aL _) _) lT.1,iP ((ax _ _).alloc (aL _) _) lT.2⟩
  clear ae af bz;unfold hz;go_wp2_with fail
  refine aQ W (by exact lT) fun kz=>?_
  clear W aj;refine rd 8 fun aj W=>?_
  (try simp only[bf,bg,bh]);go_simp;refine aQ W (by exact vu) fun QH=>?_
  clear W aj;refine R 9 ?_;refine gn (by kernel_rfl) ?_ _;refine gN.normal ?_;go_wp2;go_ret
  exact cO
 ·have e:=afm first ins regs mems hs I a9 args da dc (fW ws args);have aU:=hF.k1 (by simp);have mb:n=1:=by rw[ri.out,<-aU];simp[fW]
  obtain⟨g,cap,rK,-,-⟩:=sA.form (by omega);subst rK;have rD:(Value.slice (some ⟨g,0,none⟩) n cap).ownBlock=some g:=rfl;obtain⟨eW,jk⟩:=bS (l:=fW ws args) (k:=0) (by rw[aU];decide);have qU:(fW ws args).getD 0 []=eW:=by rw[iH,jk];rfl
  obtain⟨qp,i0,FF⟩:=hF.alI eW (bn jk);obtain⟨bX,Fj,iT⟩:=w0 0 eW jk g cap rfl;have qj:=K iT;obtain⟨jA,iU,jQ,rfl,FG,DJ,-⟩:=iT;rw[qU] at e;have LO:=K fun v (L:V w1 v)=>as1 C v E M first hs _ (gr.to L) _ eW (qj.to (gr.kp L)) qp (by omega) (by omega)
  have c3:=iP oO aM.b0;have mo:=K (qL.trans e);generalize AN first hs eW=zF at *;have hx:w1.cell? ⟨ai,0,none⟩=some (.pointer (some ⟨E,0,none⟩))∧w1.cell? ⟨g,0,none⟩=some (.slice (some ⟨jA,iU,none⟩) eW.length jQ):=⟨by assumption,by assumption⟩
  clear e;subst mb;go_upto_region 29 with fail
  refine nW ?_;refine ih (S:=(fun B=>B.cell? ⟨ai,0,none⟩=some (.pointer (some ⟨E,0,none⟩))∧B.cell? ⟨g,0,none⟩=some (.slice (some ⟨jA,iU,none⟩) eW.length jQ))) (by kernel_rfl) (by exact hx) (fun ii=>?_);refine R 0 ?_;refine R 1 ?_;refine R 2 ?_;refine R 3 ?_;refine R 4 ?_;refine R 5 ?_;refine R 6 ?_;refine rd 7 fun aj W=>?_
  (try simp only[bf,bg,bh]);go_simp;go_at_call 79;refine(LO _ b7).mono ?_;rintro e al (⟨ae,rfl,af,bz⟩ | ⟨ae,⟨z,rfl,bq⟩,D⟩);rotate_left
  ·have bd:=K (show 1048576<sE.1.length∧_∧_ from ⟨by rw[mo.out];exact ae,bq,yh.below.trans (qn gr b7 D)⟩);clear ae bq D;unfold fI;go_wp2_with fail
   refine gN.panic (fun eP f7=>?_);have iO:Hid (eP.defers=[]):=f7;clear f7;go_wp2;exact⟨iO,.inr ⟨bd.1,⟨z,rfl,bd.2.1⟩,bd.2.2⟩⟩
  have jS:=qx gr b7 bz;have cO:Hid (gD C w E M first Ps sE (.returned (.slice (some ⟨al.heap.size,0,none⟩) 1 1)) (al.alloc (.cells #[.int .i64 zF.2] 3))):=by
   show gD _ _ _ _ _ _ _ _ _;rw[mo.out];exact Ot (af.less qC) (yh.trans (jS.less qC))
  have lT:al.cell? ⟨ai,0,none⟩=some (.pointer (some ⟨E,0,none⟩))∧al.cell? ⟨g,0,none⟩=some (.slice (some ⟨jA,iU,none⟩) eW.length jQ):=⟨(dA (a:=⟨ai,0,none⟩) (jS.block _ (.inl HT.1))).trans (by assumption),(dA (a:=⟨g,0,none⟩) (jS.block _ (.inr rD))).trans (by assumption)⟩
  have vu:(al.alloc (.cells #[.int .i64 zF.2] 3)).cell? ⟨ai,0,none⟩=some (.pointer (some ⟨E,0,none⟩))∧(al.alloc (.cells #[.int .i64 zF.2] 3)).cell? ⟨g,0,none⟩=some (.slice (some ⟨jA,iU,none⟩) eW.length jQ):=⟨iP ((ax _ _).alloc (aL _) _) lT.1,iP ((ax _ _).alloc (aL _) _) lT.2⟩
  clear ae af bz;unfold hz;go_wp2_with fail
  refine aQ W (by exact lT) fun kz=>?_
  clear W aj;refine rd 8 fun aj W=>?_
  (try simp only[bf,bg,bh]);go_simp;refine aQ W (by exact vu) fun QH=>?_
  clear W aj;refine R 9 ?_;refine gn (by kernel_rfl) ?_ _;refine gN.normal ?_;go_wp2;go_ret
  exact cO
 ·have e:=afq first ins regs mems hs I a9 args da dc (fW ws args);have aU:=hF.k1 (by simp);have mb:n=1:=by rw[ri.out,<-aU];simp[fW]
  obtain⟨g,cap,rK,-,-⟩:=sA.form (by omega);subst rK;have rD:(Value.slice (some ⟨g,0,none⟩) n cap).ownBlock=some g:=rfl;obtain⟨eW,jk⟩:=bS (l:=fW ws args) (k:=0) (by rw[aU];decide);have qU:(fW ws args).getD 0 []=eW:=by rw[iH,jk];rfl
  obtain⟨qp,i0,FF⟩:=hF.alI eW (bn jk);obtain⟨bX,Fj,iT⟩:=w0 0 eW jk g cap rfl;have qj:=K iT;obtain⟨jA,iU,jQ,rfl,FG,DJ,-⟩:=iT;rw[qU] at e;have mo:=K (qL.trans e);have TY:=K fun v (L:V w1 v)=>aeJ v jA iU jQ eW (by omega) (fun x J=>by have:=qp x J;have:=h.len;unfold bN at *;omega) (fun i x J=>(qj.to (gr.kp L)).cells J)
  clear e;subst mb;go_wp2_with fail
  go_at_call 80;refine(TY _ b7).mono ?_;intro e al Ax;have eN:=yi _ e al b7 Ax;have cO:Hid (gD C w E M first Ps sE e al):=nZ _ _ e al mo b7 eN;obtain⟨Qt,Ut,rfl,-,-⟩:=Ax;clear eN;generalize (eW.map bu).length=ae1 at cO ⊢;go_wp2;go_ret
  exact cO
 ·have e:=ar4 first ins regs mems hs kind I a9 args da dc (fW ws args) FQ;have aU:=hF.k2 FQ;have mb:n=2:=by rw[ri.out,<-aU];simp[fW]
  obtain⟨g,cap,rK,-,-⟩:=sA.form (by omega);subst rK;have rD:(Value.slice (some ⟨g,0,none⟩) n cap).ownBlock=some g:=rfl;obtain⟨eW,jk⟩:=bS (l:=fW ws args) (k:=0) (by rw[aU];decide);have qU:(fW ws args).getD 0 []=eW:=by rw[iH,jk];rfl
  obtain⟨qp,i0,FF⟩:=hF.alI eW (bn jk);obtain⟨bX,Fj,iT⟩:=w0 0 eW jk g cap rfl;have qj:=K iT;obtain⟨jA,iU,jQ,rfl,FG,DJ,-⟩:=iT;obtain⟨kD,pq⟩:=bS (l:=fW ws args) (k:=1) (by rw[aU];decide);have Nu:(fW ws args).getD 1 []=kD:=by rw[iH,pq];rfl
  obtain⟨ux,hR,anV⟩:=hF.alI kD (bn pq);obtain⟨dC,alp,bT⟩:=w0 1 kD pq g cap rfl;have J0:=K bT;obtain⟨xk,iG,yp,rfl,an0,ao0,-⟩:=bT;have mr:=hF.kb FQ;rw[qU,Nu] at mr;rw[qU,Nu] at e;have mo:=K (qL.trans e);have OF:=K fun v (L:V w1 v)=>as3 C v E M first hs _ (gr.to L) kind FQ _ _ eW kD (qj.to (gr.kp L)) (J0.to (gr.kp L)) qp ux (by omega) (by omega) (by omega) mr
  have c3:=iP oO aM.b0;have cy:(kind==1)=false:=by simp;omega
  have az8:(kind==30)=false:=by simp;omega
  have az9:(kind==31)=false:=by simp;omega
  have aAa:(kind==32)=false:=by simp;omega
  have g5:(kind==5)=false:=by simp;omega
  have aAb:(kind==6)=false:=by simp;omega
  have aAc:(kind==7)=false:=by simp;omega
  have az7:(kind==22)=false:=by simp;omega
  have XL:(kind==9)=false:=by simp;omega
  have az4:(kind==10)=false:=by simp;omega
  have az5:(kind==11)=false:=by simp;omega
  have XK:(kind==8)=false:=by simp;omega
  have hx:w1.cell? ⟨ai,0,none⟩=some (.pointer (some ⟨E,0,none⟩))∧w1.cell? ⟨nd,bj,none⟩=some (.int .i64 kind)∧w1.cell? ⟨g,0,none⟩=some (.slice (some ⟨jA,iU,none⟩) eW.length jQ)∧w1.cell? ⟨g,1,none⟩=some (.slice (some ⟨xk,iG,none⟩) kD.length yp):=⟨by assumption,by assumption,by assumption,by assumption⟩
  clear e mr;subst mb;go_upto_region 32 with fail
  refine nW ?_;refine ih (S:=(fun B=>B.cell? ⟨ai,0,none⟩=some (.pointer (some ⟨E,0,none⟩))∧B.cell? ⟨nd,bj,none⟩=some (.int .i64 kind)∧B.cell? ⟨g,0,none⟩=some (.slice (some ⟨jA,iU,none⟩) eW.length jQ)∧B.cell? ⟨g,1,none⟩=some (.slice (some ⟨xk,iG,none⟩) kD.length yp))) (by kernel_rfl) (by exact hx) (fun ii=>?_);refine R 0 ?_;refine R 1 ?_;refine R 2 ?_;refine R 3 ?_;refine R 4 ?_;refine R 5 ?_;refine R 6 ?_;refine R 7 ?_;refine R 8 ?_;refine R 9 ?_;refine R 10 ?_;refine R 11 ?_;refine R 12 ?_;refine R 13 ?_;refine rd 14 fun aj W=>?_
  (try simp only[bf,bg,bh]);go_simp;go_at_call 81;refine(OF _ b7).mono ?_;intro e al eN;have cO:Hid (gD C w E M first Ps sE e al):=nZ _ _ e al mo b7 eN;have FB:(∃v,e = .returned v)->al.cell? ⟨ai,0,none⟩=some (.pointer (some ⟨E,0,none⟩))∧al.cell? ⟨nd,bj,none⟩=some (.int .i64 kind)∧al.cell? ⟨g,0,none⟩=some (.slice (some ⟨jA,iU,none⟩) eW.length jQ)∧al.cell? ⟨g,1,none⟩=some (.slice (some ⟨xk,iG,none⟩) kD.length yp):=fun ay=>by
   have jS:=CX _ _ e al b7 eN ay;exact⟨(dA (a:=⟨ai,0,none⟩) (jS.block _ (.inl HT.1))).trans (by assumption),(jS.below.cell (p:=⟨nd,bj,none⟩) KJ).trans (by assumption),(dA (a:=⟨g,0,none⟩) (jS.block _ (.inr rD))).trans (by assumption),(dA (a:=⟨g,1,none⟩) (jS.block _ (.inr rD))).trans (by assumption)⟩
  rcases eN.cases with ⟨v,rfl⟩ | ⟨p,rfl⟩
  rotate_left
  ·clear eN;unfold fI at cO ⊢;go_wp2_with fail
   refine gN.panic (fun eP f7=>?_);have iO:Hid (eP.defers=[]):=f7;clear f7;go_wp2;exact⟨iO,cO⟩
  have lT:=FB ⟨v,rfl⟩;clear eN FB;go_wp2_with fail
  refine aQ W (by first | exact lT | trivial) fun kz=>?_
  clear W aj;refine R 15 ?_;refine gn (by kernel_rfl) ?_ _;refine gN.normal ?_;go_wp2;go_ret
  exact cO
end Go.Proofs.YtcbcenfjigcfkaaGreatDoor
