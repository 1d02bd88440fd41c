import Derived.Test.YtcbcenfjigcfkaaGreatDoorK20
import Derived.Test.YtcbcenfjigcfkaaGreatDoorK21
import Derived.Test.YtcbcenfjigcfkaaGreatDoorK22
set_option maxRecDepth 100000
set_option maxHeartbeats 40000000
namespace Go.Proofs.YtcbcenfjigcfkaaGreatDoor
open Go.RowKit
variable {Y i:Nat} {bX c6 c7 c8 c9 cA cB cC cD cH cI cM cN cS cT cW cX cY cZ cz d0 d3 d4 d5 d6 d7 d8 dD dE dF dG dH dI dJ dK dL dO dP dQ dR dS dT dU dV dW dX dY dZ db dd de df dh di dj dk dl dm dn dr dt du dw dx dy dz e0 e2 e3 e4 e5 e6 e7 eF eH eI eJ eK eL eR eS eT eU eY eZ ea ec ed ei ex ey fA fB fC fD fJ fK fL fM fN fO fP fc fd fe ff fg fh fi fj fk fl fm fo fp fq fs ft fu fv fw fy:Value} {w:World}
theorem awP (N:aR) (l:List Int):(cG N l).length=l.length:=by simp[cG]
theorem zy {d:eO} (aY:¬oh d) {n:Int} (ag:ew d.kind=n) (aI:0<=n):(d.args.length:Int)=n:=by
 rcases Int.lt_or_gt_of_ne (a:=(d.args.length:Int)) (b:=n) |> fun f=>Classical.em ((d.args.length:Int)=n) with h | h
 ·exact h
 ·exact absurd (.inr (.inr (.inl ⟨by omega,by rw[ag];exact h⟩))) aY
theorem O1 {d:eO} (aY:¬oh d):cL d.width=true:=by
 cases h:cL d.width with
 | true=>rfl
 | false=>exact absurd (.inl h) aY
theorem asu (Y:Nat) (w:World) (a7:Nat) (S:dp) (N:aR) (h:mn Y w a7 S N) (aM:Y<=w.heap.size) (ab bj:Nat) (d:eO) (U:oR Y w N ab bj d) (aY:¬oh d) (bO:∀a,a∈d.args->0<=a∧a<(N.nodes.length:Int)) (hg:∀x,x∈cG N d.args->1<=x∧x<=32) :
  Calls Tryz.prog 67 #[iF a7,.pointer (some ⟨ab,bj,none⟩)] w fun e B=>e = .returned (.bool (numOf N d))∧V w B:=by
 have aw:=O1 aY;by_cases F:d.kind=1
 ·have e:numOf N d=decide (d.num<=i3 d.width):=by unfold numOf;rw[if_pos F]
  rw[e];exact arO Y w a7 S N h aM ab bj d U F aw
 ·by_cases hY:d.kind=5
  ·have e:numOf N d=decide (d.width<=bi (cG N d.args) 0∧d.num<=bi (cG N d.args) 0 - d.width):=by unfold numOf;rw[if_neg F,if_pos hY]
   have hl:=zy aY (n:=1) (by rw[hY];rfl) (by decide);have hC:0<d.args.length:=by omega
   rw[e];exact arR Y w a7 S N h aM ab bj d U hY aw (by omega) (bO _ (bn (vr hC))) (hg _ (bn (vr (by rw[awP];exact hC))))
  ·by_cases kd:d.kind=30
   ·have e:numOf N d=decide (d.num<(N.ins.length:Int)∧bi N.ins d.num.toNat=d.width):=by unfold numOf;rw[if_neg F,if_neg hY,if_pos kd]
    rw[e];exact arM Y w a7 S N h aM ab bj d U kd
   ·by_cases lD:d.kind=31
    ·have e:numOf N d=decide (d.num<(N.regs.length:Int)∧((N.regs[d.num.toNat]?.map l4.width).getD 0)=d.width):=by unfold numOf;rw[if_neg F,if_neg hY,if_neg kd,if_pos lD]
     rw[e];exact arQ Y w a7 S N h aM ab bj d U lD
    ·by_cases kq:d.kind=32
     ·have e:numOf N d=decide (d.num<(N.mems.length:Int)∧((N.mems[d.num.toNat]?.map hf.width).getD 0)=d.width):=by unfold numOf;rw[if_neg F,if_neg hY,if_neg kd,if_neg lD,if_pos kq]
      rw[e];exact arN Y w a7 S N h aM ab bj d U kq
     ·have e:numOf N d=decide (d.num=0):=by unfold numOf;rw[if_neg F,if_neg hY,if_neg kd,if_neg lD,if_neg kq]
      rw[e];exact arP Y w a7 S N h aM ab bj d U ⟨F,hY,kd,lD,kq⟩
theorem awo (Y:Nat) (w:World) (a7:Nat) (S:dp) (N:aR) (h:mn Y w a7 S N) (aM:Y<=w.heap.size) (ab bj:Nat) (d:eO) (U:oR Y w N ab bj d) (aY:¬oh d) (bO:∀a,a∈d.args->0<=a∧a<(N.nodes.length:Int)) (hg:∀x,x∈cG N d.args->1<=x∧x<=32) :
  Calls Tryz.prog 68 #[iF a7,.pointer (some ⟨ab,bj,none⟩)] w fun e B=>e = .returned (.bool (oV d.kind d.width (cG N d.args)))∧V w B:=by
 by_cases k1:d.kind=8∨d.kind=18∨d.kind=19
 ·have e:oV d.kind d.width (cG N d.args)=decide (bi (cG N d.args) 0=d.width):=by unfold oV;rw[if_pos k1]
  have hl:0<d.args.length:=by
   rcases k1 with k | k | k
   ·have:=zy aY (n:=1) (by rw[k];rfl) (by decide);omega
   ·have:=zy aY (n:=2) (by rw[k];rfl) (by decide);omega
   ·have:=zy aY (n:=2) (by rw[k];rfl) (by decide);omega
  rw[e];exact awg Y w a7 S N h aM ab bj d U bO k1 hl
 ·by_cases k2:12<=d.kind∧d.kind<=17
  ·have e:oV d.kind d.width (cG N d.args)=decide (bi (cG N d.args) 0=d.width∧bi (cG N d.args) 1=d.width):=by unfold oV;rw[if_neg k1,if_pos k2]
   have rM:d.kind=12∨d.kind=13∨d.kind=14∨d.kind=15∨d.kind=16∨d.kind=17:=by omega
   have hl:1<d.args.length:=by
    have:=zy aY (n:=2) (by rcases rM with k | k | k | k | k | k <;> rw[k] <;> rfl) (by decide)
    omega
   rw[e];exact awk Y w a7 S N h aM ab bj d U bO rM hl
  ·by_cases k3:9<=d.kind∧d.kind<=11
   ·have e:oV d.kind d.width (cG N d.args)=decide (d.width=1):=by unfold oV;rw[if_neg k1,if_neg k2,if_pos k3]
    rw[e];exact awl Y w a7 S N h aM ab bj d U (by omega)
   ·by_cases DU:d.kind=20∨d.kind=21
    ·have e:oV d.kind d.width (cG N d.args)=decide (d.width=1∧bi (cG N d.args) 0=bi (cG N d.args) 1):=by unfold oV;rw[if_neg k1,if_neg k2,if_neg k3,if_pos DU]
     have hl:1<d.args.length:=by
      have:=zy aY (n:=2) (by rcases DU with k | k <;> rw[k] <;> rfl) (by decide)
      omega
     rw[e];by_cases bT:d.width=1
     ·exact awj Y w a7 S N h aM ab bj d U bO DU bT hl
     ·rw[decide_eq_false (fun kZ=>bT kZ.1)];exact awi Y w a7 S N h aM ab bj d U DU bT
    ·by_cases k5:d.kind=22
     ·have e:oV d.kind d.width (cG N d.args)=decide (bi (cG N d.args) 0=1∧bi (cG N d.args) 1=d.width∧bi (cG N d.args) 2=d.width):=by unfold oV;rw[if_neg k1,if_neg k2,if_neg k3,if_neg DU,if_pos k5]
      have hl:=zy aY (n:=3) (by rw[k5];rfl) (by decide);rw[e];exact awf Y w a7 S N h aM ab bj d U bO k5 (by omega)
     ·by_cases W4:d.kind=7
      ·have e:oV d.kind d.width (cG N d.args)=decide ((cG N d.args).sum=d.width):=by unfold oV;rw[if_neg k1,if_neg k2,if_neg k3,if_neg DU,if_neg k5,if_pos W4]
       rw[e];exact awe Y w a7 S N h aM ab bj d U bO W4 hg
      ·have e:oV d.kind d.width (cG N d.args)=true:=by unfold oV;rw[if_neg k1,if_neg k2,if_neg k3,if_neg DU,if_neg k5,if_neg W4]
       rw[e];exact awh Y w a7 S N h aM ab bj d U ⟨by omega,by omega,by omega,by omega,by omega,by omega,by omega,by omega,by omega,by omega,by omega,by omega,by omega,by omega,by omega,by omega⟩
theorem arT (N:aR) (d:eO) (aw:cL d.width=true) (aI:0<=d.num):lj N d=(numOf N d&&oV d.kind d.width (cG N d.args)):=by
 have aV:1<=d.width∧d.width<=32:=by simpa[cL] using aw
 obtain⟨kind,width,num,args,aa,ac⟩:=d;simp only at *;generalize J:cG N args=ws;rcases LJ kind with X | X
 ·rcases X with rfl | rfl | rfl | rfl | rfl | rfl | rfl | rfl | rfl | rfl | rfl | rfl | rfl | rfl | rfl | rfl | rfl | rfl | rfl | rfl | rfl | rfl
  all_goals
   simp only[lj,numOf,hX,oV,i3,J];simp
  all_goals (first | done | rfl | (rw[iI];simp;omega) | (rw[iI];simp))
 ·obtain⟨F,O,aW,cw,hY,mX,Dp,zc,B2,M5,UW,M6,UX,UY,nK,UZ,Qw,Qx,U0,acA,acB,Kl⟩:=X;have aS:oV kind width ws=true:=by unfold oV;rw[if_neg (by omega),if_neg (by omega),if_neg (by omega),if_neg (by omega),if_neg (by omega),if_neg (by omega)]
  have bM:hX kind width num ws=true:=by unfold hX;rw[if_neg (by omega),if_neg (by omega),if_neg (by omega),if_neg (by omega),if_neg (by omega),if_neg (by omega),if_neg (by omega),if_neg (by omega),if_neg (by omega)]
  simp only[lj,numOf,J];rw[aS,bM,if_neg O,if_neg aW,if_neg M5,if_neg (by omega),if_neg F,if_neg cw,if_neg O,if_neg aW,if_neg M5];simp
def gR (am:List Nat) (a:Int):Nat:=(am[a.toNat]?).getD 0
def vL (N:aR) (am:List Nat) (l:List Int):List (Nat×Nat):=l.map fun a=>(gR am a,(f2 N a).toNat)
def lY (N:aR) (row regs:List Nat) (mems:List (List Nat)) (am:List Nat) (d:eO):Nat :=
 if d.kind=30 then (if d.num<(row.length:Int) then (row[d.num.toNat]?).getD 0%2^d.width.toNat else 0)
 else if d.kind=31 then (regs[d.num.toNat]?).getD 0
 else if d.kind=32 then (((mems[d.num.toNat]?).getD [])[gR am (bi d.args 0)]?).getD 0
 else hh d.kind d.width.toNat d.num.toNat (vL N am d.args)
def ky (N:aR) (row regs:List Nat) (mems:List (List Nat)):Nat->List Nat
 | 0=>[]
 | i+1=>ky N row regs mems i++[match N.nodes[i]? with | some d=>lY N row regs mems (ky N row regs mems i) d | none=>0]
theorem Ai (N:aR) (row regs:List Nat) (mems:List (List Nat)) (i:Nat):(ky N row regs mems i).length=i:=by
 induction i with
 | zero=>rfl
 | succ i aA=>simp[ky,aA]
theorem acl (N:aR) (row regs:List Nat) (mems:List (List Nat)) (i j:Nat) (h:j<i):(ky N row regs mems (i+1))[j]?=(ky N row regs mems i)[j]?:=by
 show(ky N row regs mems i++_)[j]?=_
 rw[mS (by rw[Ai];exact h)]
theorem UJ (N:aR) (row regs:List Nat) (mems:List (List Nat)) (i:Nat) (d:eO) (h:N.nodes[i]?=some d):ky N row regs mems (i+1)=ky N row regs mems i++[lY N row regs mems (ky N row regs mems i) d]:=by
 show ky N row regs mems i++_=_;rw[h]
structure vq (N:aR) (regs:List Nat) (mems:List (List Nat)):Prop where
 rl:regs.length=N.regs.length
 rr:∀(i:Nat) (x:Nat) (z:l4),regs[i]?=some x->N.regs[i]?=some z->x<2^z.width.toNat
 ml:mems.length=N.mems.length
 mm:∀(i:Nat) (l:List Nat) (z:hf),mems[i]?=some l->N.mems[i]?=some z->l.length=z.words.toNat∧∀x,x∈l->x<2^z.width.toNat
def De (N:aR) (am:List Nat):Prop:=∀(j x:Nat) (d:eO),am[j]?=some x->N.nodes[j]?=some d->x<2^d.width.toNat
theorem uL {N:aR} (h:er N=true) {d:eO} (U:N.nodes[i]?=some d):pz N i d=true:=by
 unfold er at h;simp only[Bool.and_eq_true] at h
 have:=k9.1 h.1.1.1.2 i (om.2 (cr.1 U).1)
 unfold qA at this;rw[U] at this;exact this
theorem ty {N:aR} {d:eO} (h:pz N i d=true):¬oh d∧(∀a,a∈d.args->0<=a∧a<(i:Int))∧lj N d=true:=by
 unfold pz at h;by_cases aY:oh d
 ·rw[if_pos aY] at h;cases h
 ·rw[if_neg aY] at h;by_cases D:d.args.any (jH i)=true
  ·rw[if_pos D] at h;cases h
  ·rw[if_neg D] at h;refine⟨aY,fun a ad=>?_,h⟩
   have:=List.any_eq_false.1 (Bool.eq_false_iff.2 D) a ad
   unfold jH at this;simp at this;omega
theorem CH {d:eO} (aY:¬oh d):1<=d.width∧d.width<=32:=by
 have:=O1 aY
 simpa[cL] using this
theorem afF {S:dp} {N:aR} (aO:eM Y w S N) (h:er N=true) {d:eO} (U:N.nodes[i]?=some d) (am:List Nat) (hl:i<=am.length) (L:De N am) (X:d.kind≠30∧d.kind≠31∧d.kind≠32) :
  Ht d.kind d.width.toNat d.num.toNat (vL N am d.args):=by
 obtain⟨aY,bO,ay⟩:=ty (uL h U);have aw:=CH aY;have jT:=aO.na d (bn U);have aB:i<N.nodes.length:=(cr.1 U).1;have Fq:m9 (vL N am d.args)=cG N d.args:=by
  unfold m9 vL cG;rw[List.map_map];apply o8;intro a ad;have ak:=bO a ad;obtain⟨y,aF⟩:∃y,N.nodes[a.toNat]?=some y:=⟨N.nodes[a.toNat]'(by omega),ct (by omega)⟩
  have vC:=CH (ty (uL h aF)).1;have e:f2 N a=y.width:=by unfold f2;rw[aF];rfl
  show((f2 N a).toNat:Int)=f2 N a
  rw[e];omega
 have wc:=LJ d.kind;have N4:ew d.kind≠-2:=fun e=>aY (.inr (.inl e))
 refine⟨by omega,by omega,by omega,?_,?_,?_,?_,?_,?_⟩
 ·intro p aE;obtain⟨a,ad,rfl⟩:=i6.1 aE;have ak:=bO a ad;obtain⟨y,aF⟩:∃y,N.nodes[a.toNat]?=some y:=⟨N.nodes[a.toNat]'(by omega),ct (by omega)⟩
  have vC:=CH (ty (uL h aF)).1;have e:f2 N a=y.width:=by unfold f2;rw[aF];rfl
  obtain⟨x,J⟩:∃x,am[a.toNat]?=some x:=⟨am[a.toNat]'(by omega),ct (by omega)⟩
  have yv:gR am a=x:=by unfold gR;rw[J];rfl
  simp only[e,yv];exact⟨L _ x y J aF,by omega,by omega⟩
 ·intro aI
  have:(vL N am d.args).length=d.args.length:=by simp[vL]
  rw[this];exact zy aY rfl aI
 ·have:(vL N am d.args).length=d.args.length:=by simp[vL]
  rw[this];exact jT.2.2.2
 ·intro Dp ag
  have:d.args=[]:=List.map_eq_nil_iff.1 ag
  exact aY (.inr (.inr (.inr ⟨by rw[Dp];rfl,by rw[this];rfl⟩)))
 ·rcases wc with kZ | kZ
  ·omega
  ·exact absurd (by unfold ew;rw[if_neg (by omega),if_neg (by omega),if_neg (by omega),if_neg (by omega),if_neg (by omega)]) N4
 ·rw[Fq];have bp:((d.width.toNat:Nat):Int)=d.width:=by omega
  have aS:((d.num.toNat:Nat):Int)=d.num:=by omega
  rw[bp,aS];unfold lj at ay;rw[if_neg X.1,if_neg X.2.1,if_neg X.2.2] at ay;by_cases nK:d.kind=1∨d.kind=5
  ·rw[if_pos nK] at ay;exact ay
  ·rw[if_neg nK] at ay;simp at ay;exact ay.2
def k6 (x:Nat):List Value:=[.int .u64 (x:Int)]
def ib (x:Nat):Value:= .int .u64 (x:Int)
structure g2 where
 a:Option Addr
 c:Nat
 l:List Nat
def g2.cells (m:g2):List Value:=[.slice m.a m.l.length m.c]
def Hq (Y:Nat) (w:World) (a:Option Addr) (ms:List g2):Prop:=cm Y w a 1 (ms.map g2.cells)∧∀m,m∈ms->cm Y w m.a 1 (m.l.map k6)∧m.l.length<cd
theorem Hq.to {B:World} {a:Option Addr} {ms:List g2} (h:Hq Y w a ms) (D:Below Y w B):Hq Y B a ms:=⟨h.1.to D,fun m ae=>⟨(h.2 m ae).1.to D,(h.2 m ae).2⟩⟩
theorem Ld {a:Option Addr} {l:List Nat} (h:cm Y w a 1 (l.map k6)) {x:Nat} (J:l[i]?=some x):∃b o,a=some ⟨b,o,none⟩∧b<Y∧w.cell? ⟨b,o+i,none⟩=some (.int .u64 (x:Int)):=by
 obtain⟨b,o,ad,D,ar⟩:=h.el J
 have:=ar 0 (.int .u64 (x:Int)) rfl
 exact⟨b,o,ad,D,by simpa using this⟩
theorem Xs {S:dp} {N:aR} (aO:eM Y w S N) (h:er N=true) (row regs:List Nat) (mems:List (List Nat)) (dB:vq N regs mems) {d:eO} (U:N.nodes[i]?=some d) (am:List Nat) (hl:i<=am.length) (L:De N am) :
  lY N row regs mems am d<2^d.width.toNat:=by
 obtain⟨aY,bO,ay⟩:=ty (uL h U);have jT:=aO.na d (bn U);have Gi:=Nat.two_pow_pos d.width.toNat;unfold lY;unfold lj at ay;by_cases kd:d.kind=30
 ·rw[if_pos kd];split
  ·exact Nat.mod_lt _ Gi
  ·exact Gi
 ·rw[if_neg kd] at ay ⊢;by_cases lD:d.kind=31
  ·rw[if_pos lD] at ay ⊢;rw[s5] at ay;obtain⟨z,ao⟩:∃z,N.regs[d.num.toNat]?=some z:=⟨N.regs[d.num.toNat]'(by omega),ct (by omega)⟩
   obtain⟨x,J⟩:∃x,regs[d.num.toNat]?=some x:=⟨regs[d.num.toNat]'(by rw[dB.rl];omega),ct (by rw[dB.rl];omega)⟩
   rw[ao] at ay;rw[J];have e:z.width=d.width:=ay.2
   have:=dB.rr _ x z J ao
   rw[e] at this;exact this
  ·rw[if_neg lD] at ay ⊢;by_cases kq:d.kind=32
   ·rw[if_pos kq] at ay ⊢;rw[s5] at ay;obtain⟨z,ao⟩:∃z,N.mems[d.num.toNat]?=some z:=⟨N.mems[d.num.toNat]'(by omega),ct (by omega)⟩
    obtain⟨x,J⟩:∃x,mems[d.num.toNat]?=some x:=⟨mems[d.num.toNat]'(by rw[dB.ml];omega),ct (by rw[dB.ml];omega)⟩
    rw[ao] at ay;rw[J];have e:z.width=d.width:=ay.2;have ae:=(dB.mm _ x z J ao).2;simp only[Option.getD_some];cases aF:x[gR am (bi d.args 0)]? with
    | none=>exact Gi
    | some y =>
     have:=ae y (bn aF)
     rw[e] at this;exact this
   ·rw[if_neg kq];exact as7 _ _ _ _ (afF aO h U am hl L ⟨kd,lD,kq⟩)
theorem M0 {S:dp} {N:aR} (aO:eM Y w S N) (h:er N=true) (row regs:List Nat) (mems:List (List Nat)) (dB:vq N regs mems) (i:Nat):De N (ky N row regs mems i):=by
 induction i with
 | zero=>intro j x d J;simp[ky] at J
 | succ i aA =>
  intro j x d J U;rcases Nat.lt_or_ge j i with aT | aT
  ·rw[acl _ _ _ _ _ _ aT] at J;exact aA j x d J U
  ·have aB:=(cr.1 J).1;rw[Ai] at aB;have FP:j=i:=by omega
   subst FP;rw[UJ _ _ _ _ _ d U,lu (by rw[Ai];omega),Ai] at J;simp at J;rw[<-J];exact Xs aO h row regs mems dB U _ (by rw[Ai];omega) aA
theorem alO (aC:World) (N:aR) (row regs:List Nat) (ms:List g2) (am:List Nat) (d:eO) (gP kw iR fX:Option Addr) (fY kx lf gJ eh gA:Nat) (jY:Hid (∀(j:Nat) (v:Value),d.cells[j]?=some v->aC.cell? ⟨gA,j,none⟩=some v)) (_hdb:gA<aC.heap.size) (X:d.kind=30) (aw:cL d.width=true) (yF:0<=d.num) (nR:cm aC.heap.size aC gP 1 (row.map k6)) (md:row.length<cd) (KN:∀x,x∈row->x<18446744073709551616) (b9:Act->World->Prop) (eV:Exit->Act->World->Prop) 
  (dM:Hid (∀(s:Value) (B:World) {xV uS ww wx wy wz uT uU uW tG tH tI uX uY wA wB wD wE wF wG wH wI xW xX xY xZ x0 wJ wK uZ va vb tJ tK tL tM tN tO tP tQ tR tS tT tU tV tW tX tY tZ t0 t1 t2 t3 t4 wL wM wN wO wP wQ wR x1 x2 yV x3 x4 x5 x6 x7 x8 x9 wS wT v4 v5 v6 v7 v8 v9 wa wb we xQ xR xS xT xU wf wg wh wj wk wm wo wp wq wu wv:Value},s = .int .u64 ((lY N row regs (ms.map g2.l) am d:Nat):Int)->Hid (V aC B)->b9 ⟨#[bX,.slice gP row.length fY,.slice kw regs.length kx,.slice iR ms.length lf,.pointer (some ⟨eh,0,none⟩),e2,ea,ec,dL,.slice fX am.length gJ,cz,.pointer (some ⟨gA,0,none⟩),s,xV,uS,ww,cM,cA,cB,cC,cD,cS,cT,cH,cW,cX,cY,cN,cI,.int .i64 d.kind,wx,wy,wz,uT,uU,uW,tG,tH,tI,uX,uY,wA,wB,wD,wE,wF,wG,wH,wI,xW,xX,xY,xZ,x0,wJ,wK,uZ,va,vb,tJ,tK,tL,tM,tN,tO,tP,tQ,tR,tS,tT,tU,tV,tW,tX,tY,tZ,t0,t1,t2,t3,t4,wL,wM,wN,wO,wP,wQ,wR,x1,x2,yV,x3,x4,x5,x6,x7,x8,x9,wS,wT,v4,v5,v6,v7,v8,v9,wa,wb,we,xQ,xR,xS,xT,xU,wf,wg,wh,wj,wk,wm,wo,wp,wq,wu,wv,eH,eI,eJ,eK,eL],[]⟩ B)) :
  Code.wp Tryz.prog ((Tryz.f35.body.bind (jh 2)).getD .skip) (Exit.then b9 eV) ⟨#[bX,.slice gP row.length fY,.slice kw regs.length kx,.slice iR ms.length lf,.pointer (some ⟨eh,0,none⟩),e2,ea,ec,dL,.slice fX am.length gJ,cz,.pointer (some ⟨gA,0,none⟩),.int .u64 0,eF,ex,ey,cM,cA,cB,cC,cD,cS,cT,cH,cW,cX,cY,cN,cI,.int .i64 d.kind,c7,dD,dE,dF,dh,dO,dP,dr,dt,di,dj,c8,c9,db,dd,de,df,dG,dH,du,cZ,c6,dw,dx,dQ,dy,dz,dI,dJ,dK,dk,dl,dm,dn,dR,dS,dT,dU,dV,dW,dX,dY,dZ,d0,d3,d4,d5,d6,d7,d8,ei,ed,eR,eS,eT,eU,fy,fA,e3,fM,fC,fD,e4,e5,e6,e7,fN,fO,fP,fB,fc,fd,fe,ff,fg,fh,fi,fj,fk,eY,eZ,e0,fJ,fK,fL,fl,fm,fo,fp,fq,fs,ft,fu,fv,fw,eH,eI,eJ,eK,eL],[]⟩ aC:=by
 have nJ:aC.cell? ⟨gA,0,none⟩=some (.int .i64 d.kind):=jY 0 _ rfl;have d1:aC.cell? ⟨gA,1,none⟩=some (.int .i64 d.width):=jY 1 _ rfl;have d2:aC.cell? ⟨gA,2,none⟩=some (.int .u64 d.num):=jY 2 _ rfl;have qP:aC.cell? ⟨gA,3,none⟩=some (.slice d.aa d.args.length d.ac):=jY 3 _ rfl;clear jY
 conv=>arg 2;whnf
 obtain⟨val,ug⟩:∃val,Hid (lY N row regs (ms.map g2.l) am d=val):=⟨_,rfl⟩
 rw[ug.out] at dM;have xf:Hid (val=if d.num<(row.length:Int) then (row[d.num.toNat]?).getD 0%2^d.width.toNat else 0):=by
  show _=_;rw[<-ug.out];unfold lY;rw[if_pos X]
 clear ug;have Dl:IntKind.u64.wrap (row.length:Int)=(row.length:Int):=qD _ (by omega) (by simp only[cd] at md;omega);have hP:Hid (∀w,Calls Tryz.prog 19 #[.int .i64 d.width] w fun e B=>e = .returned (.int .u64 (i3 d.width))∧B=w):=fun w=>oe d.width aw w
 have aV:1<=d.width∧d.width<=32:=by simpa[cL] using aw
 obtain⟨kind,width,num,args,aa,ac⟩:=d;simp only at *;subst X;by_cases g:num<(row.length:Int)
 ·obtain⟨x,J⟩:∃x,row[num.toNat]?=some x:=⟨row[num.toNat]'(by omega),ct (by omega)⟩
  obtain⟨b,o,rfl,D,c0⟩:=Ld nR J;have RA:=KN x (bn J);have bp:bits BinOp.and IntKind.u64 (x:Int) (i3 width)=(val:Int):=by
   have:=BN x width.toNat RA (by omega)
   rw[show((width.toNat:Nat):Int)=width by omega] at this;rw[this,xf.out,if_pos g,J];rfl
  clear xf J nR;go_wp2_with fail
  go_quiet ((go_at_call 19;exact Calls.quiet_of_same (hP _)))
  go_wp2;exact dM _ _ rfl (Below.drewN (ax _ _) _)
 ·have U:decide (num<(row.length:Int))=false:=by simp[g]
  have e:val=0:=by rw[xf.out,if_neg g]
  subst e;clear xf nR;go_wp2;exact dM _ _ rfl (ax _ _)
theorem alP (aC:World) (N:aR) (row regs:List Nat) (ms:List g2) (am:List Nat) (d:eO) (gP kw iR fX:Option Addr) (fY kx lf gJ eh gA:Nat) (jY:Hid (∀(j:Nat) (v:Value),d.cells[j]?=some v->aC.cell? ⟨gA,j,none⟩=some v)) (_hdb:gA<aC.heap.size) (X:d.kind=31) (yF:0<=d.num) (mb:d.num<(regs.length:Int)) (Ip:cm aC.heap.size aC kw 1 (regs.map k6)) (b9:Act->World->Prop) (eV:Exit->Act->World->Prop) 
  (dM:Hid (∀(s:Value) (B:World) {xV uS ww wx wy wz uT uU uW tG tH tI uX uY wA wB wD wE wF wG wH wI xW xX xY xZ x0 wJ wK uZ va vb tJ tK tL tM tN tO tP tQ tR tS tT tU tV tW tX tY tZ t0 t1 t2 t3 t4 wL wM wN wO wP wQ wR x1 x2 yV x3 x4 x5 x6 x7 x8 x9 wS wT v4 v5 v6 v7 v8 v9 wa wb we xQ xR xS xT xU wf wg wh wj wk wm wo wp wq wu wv:Value},s = .int .u64 ((lY N row regs (ms.map g2.l) am d:Nat):Int)->Hid (V aC B)->b9 ⟨#[bX,.slice gP row.length fY,.slice kw regs.length kx,.slice iR ms.length lf,.pointer (some ⟨eh,0,none⟩),e2,ea,ec,dL,.slice fX am.length gJ,cz,.pointer (some ⟨gA,0,none⟩),s,xV,uS,ww,cM,cA,cB,cC,cD,cS,cT,cH,cW,cX,cY,cN,cI,.int .i64 d.kind,wx,wy,wz,uT,uU,uW,tG,tH,tI,uX,uY,wA,wB,wD,wE,wF,wG,wH,wI,xW,xX,xY,xZ,x0,wJ,wK,uZ,va,vb,tJ,tK,tL,tM,tN,tO,tP,tQ,tR,tS,tT,tU,tV,tW,tX,tY,tZ,t0,t1,t2,t3,t4,wL,wM,wN,wO,wP,wQ,wR,x1,x2,yV,x3,x4,x5,x6,x7,x8,x9,wS,wT,v4,v5,v6,v7,v8,v9,wa,wb,we,xQ,xR,xS,xT,xU,wf,wg,wh,wj,wk,wm,wo,wp,wq,wu,wv,eH,eI,eJ,eK,eL],[]⟩ B)) :
  Code.wp Tryz.prog ((Tryz.f35.body.bind (jh 2)).getD .skip) (Exit.then b9 eV) ⟨#[bX,.slice gP row.length fY,.slice kw regs.length kx,.slice iR ms.length lf,.pointer (some ⟨eh,0,none⟩),e2,ea,ec,dL,.slice fX am.length gJ,cz,.pointer (some ⟨gA,0,none⟩),.int .u64 0,eF,ex,ey,cM,cA,cB,cC,cD,cS,cT,cH,cW,cX,cY,cN,cI,.int .i64 d.kind,c7,dD,dE,dF,dh,dO,dP,dr,dt,di,dj,c8,c9,db,dd,de,df,dG,dH,du,cZ,c6,dw,dx,dQ,dy,dz,dI,dJ,dK,dk,dl,dm,dn,dR,dS,dT,dU,dV,dW,dX,dY,dZ,d0,d3,d4,d5,d6,d7,d8,ei,ed,eR,eS,eT,eU,fy,fA,e3,fM,fC,fD,e4,e5,e6,e7,fN,fO,fP,fB,fc,fd,fe,ff,fg,fh,fi,fj,fk,eY,eZ,e0,fJ,fK,fL,fl,fm,fo,fp,fq,fs,ft,fu,fv,fw,eH,eI,eJ,eK,eL],[]⟩ aC:=by
 have nJ:aC.cell? ⟨gA,0,none⟩=some (.int .i64 d.kind):=jY 0 _ rfl;have d1:aC.cell? ⟨gA,1,none⟩=some (.int .i64 d.width):=jY 1 _ rfl;have d2:aC.cell? ⟨gA,2,none⟩=some (.int .u64 d.num):=jY 2 _ rfl;have qP:aC.cell? ⟨gA,3,none⟩=some (.slice d.aa d.args.length d.ac):=jY 3 _ rfl;clear jY
 conv=>arg 2;whnf
 obtain⟨x,J⟩:∃x,regs[d.num.toNat]?=some x:=⟨regs[d.num.toNat]'(by omega),ct (by omega)⟩
 have e:lY N row regs (ms.map g2.l) am d=x:=by unfold lY;rw[if_neg (by omega),if_pos X,J];rfl
 rw[e] at dM;clear e;obtain⟨b,o,rfl,D,c0⟩:=Ld Ip J;obtain⟨kind,width,num,args,aa,ac⟩:=d;simp only at *;subst X;clear J Ip;go_wp2;exact dM _ _ rfl (ax _ _)
theorem alQ (aC:World) (N:aR) (row regs:List Nat) (ms:List g2) (am:List Nat) (d:eO) (gP kw iR fX:Option Addr) (fY kx lf gJ eh gA:Nat) (jY:Hid (∀(j:Nat) (v:Value),d.cells[j]?=some v->aC.cell? ⟨gA,j,none⟩=some v)) (_hdb:gA<aC.heap.size) (X:d.kind=32) (yF:0<=d.num) (mb:d.num<(ms.length:Int)) (yE:Hq aC.heap.size aC iR ms) (Nk:cm aC.heap.size aC d.aa 1 (d.args.map j4)) (kB:d.args.length=1) (bO:0<=bi d.args 0∧bi d.args 0<(am.length:Int)) (qY:cm aC.heap.size aC fX 1 (am.map k6)) (b9:Act->World->Prop) (eV:Exit->Act->World->Prop) 
  (dM:Hid (∀(s:Value) (B:World) {xV uS ww wx wy wz uT uU uW tG tH tI uX uY wA wB wD wE wF wG wH wI xW xX xY xZ x0 wJ wK uZ va vb tJ tK tL tM tN tO tP tQ tR tS tT tU tV tW tX tY tZ t0 t1 t2 t3 t4 wL wM wN wO wP wQ wR x1 x2 yV x3 x4 x5 x6 x7 x8 x9 wS wT v4 v5 v6 v7 v8 v9 wa wb we xQ xR xS xT xU wf wg wh wj wk wm wo wp wq wu wv:Value},s = .int .u64 ((lY N row regs (ms.map g2.l) am d:Nat):Int)->Hid (V aC B)->b9 ⟨#[bX,.slice gP row.length fY,.slice kw regs.length kx,.slice iR ms.length lf,.pointer (some ⟨eh,0,none⟩),e2,ea,ec,dL,.slice fX am.length gJ,cz,.pointer (some ⟨gA,0,none⟩),s,xV,uS,ww,cM,cA,cB,cC,cD,cS,cT,cH,cW,cX,cY,cN,cI,.int .i64 d.kind,wx,wy,wz,uT,uU,uW,tG,tH,tI,uX,uY,wA,wB,wD,wE,wF,wG,wH,wI,xW,xX,xY,xZ,x0,wJ,wK,uZ,va,vb,tJ,tK,tL,tM,tN,tO,tP,tQ,tR,tS,tT,tU,tV,tW,tX,tY,tZ,t0,t1,t2,t3,t4,wL,wM,wN,wO,wP,wQ,wR,x1,x2,yV,x3,x4,x5,x6,x7,x8,x9,wS,wT,v4,v5,v6,v7,v8,v9,wa,wb,we,xQ,xR,xS,xT,xU,wf,wg,wh,wj,wk,wm,wo,wp,wq,wu,wv,eH,eI,eJ,eK,eL],[]⟩ B)) :
  Code.wp Tryz.prog ((Tryz.f35.body.bind (jh 2)).getD .skip) (Exit.then b9 eV) ⟨#[bX,.slice gP row.length fY,.slice kw regs.length kx,.slice iR ms.length lf,.pointer (some ⟨eh,0,none⟩),e2,ea,ec,dL,.slice fX am.length gJ,cz,.pointer (some ⟨gA,0,none⟩),.int .u64 0,eF,ex,ey,cM,cA,cB,cC,cD,cS,cT,cH,cW,cX,cY,cN,cI,.int .i64 d.kind,c7,dD,dE,dF,dh,dO,dP,dr,dt,di,dj,c8,c9,db,dd,de,df,dG,dH,du,cZ,c6,dw,dx,dQ,dy,dz,dI,dJ,dK,dk,dl,dm,dn,dR,dS,dT,dU,dV,dW,dX,dY,dZ,d0,d3,d4,d5,d6,d7,d8,ei,ed,eR,eS,eT,eU,fy,fA,e3,fM,fC,fD,e4,e5,e6,e7,fN,fO,fP,fB,fc,fd,fe,ff,fg,fh,fi,fj,fk,eY,eZ,e0,fJ,fK,fL,fl,fm,fo,fp,fq,fs,ft,fu,fv,fw,eH,eI,eJ,eK,eL],[]⟩ aC:=by
 have nJ:aC.cell? ⟨gA,0,none⟩=some (.int .i64 d.kind):=jY 0 _ rfl;have d1:aC.cell? ⟨gA,1,none⟩=some (.int .i64 d.width):=jY 1 _ rfl;have d2:aC.cell? ⟨gA,2,none⟩=some (.int .u64 d.num):=jY 2 _ rfl;have qP:aC.cell? ⟨gA,3,none⟩=some (.slice d.aa d.args.length d.ac):=jY 3 _ rfl;clear jY
 conv=>arg 2;whnf
 obtain⟨m,ae⟩:∃m,ms[d.num.toNat]?=some m:=⟨ms[d.num.toNat]'(by omega),ct (by omega)⟩
 obtain⟨M,im,nk,o0,lG⟩:=yE.1.el ae;have axx:aC.cell? ⟨M,im+d.num.toNat,none⟩=some (.slice m.a m.l.length m.c):=by have:=lG 0 _ rfl;simpa using this
 have Re:=yE.2 m (bn ae);obtain⟨bJ,cP,bQ,oa,pn⟩:=Nk.int (i:=0) (by omega);have es:aC.cell? ⟨bJ,cP,none⟩=some (.int .i64 (bi d.args 0)):=pn 0 (by omega);obtain⟨y,aF⟩:∃y,am[(bi d.args 0).toNat]?=some y:=⟨am[(bi d.args 0).toNat]'(by omega),ct (by omega)⟩
 obtain⟨gs,iW,rfl,o1,un⟩:=Ld qY aF;have yu:gR am (bi d.args 0)=y:=by unfold gR;rw[aF];rfl
 obtain⟨val,ug⟩:∃val,Hid (lY N row regs (ms.map g2.l) am d=val):=⟨_,rfl⟩
 rw[ug.out] at dM;have xf:Hid (val=(m.l[y]?).getD 0):=by
  show _=_;rw[<-ug.out];unfold lY;rw[if_neg (by omega),if_neg (by omega),if_pos X,yu,fT,ae];rfl
 have Dl:IntKind.u64.wrap (m.l.length:Int)=(m.l.length:Int):=qD _ (by omega) (by have:=Re.2;simp only[cd] at this;omega);subst nk;rw[bQ] at qP;clear ug bQ lG pn yE Nk qY ae aF yu;generalize bi d.args 0=a at *;have jk:(0:Int)<(d.args.length:Int):=by omega
 obtain⟨kind,width,num,args,aa,ac⟩:=d;obtain⟨m1,m2,nU⟩:=m;simp only at *;subst X;obtain⟨qp,ux⟩:=bO;by_cases g:(y:Int)<(nU.length:Int)
 ·obtain⟨z,ao⟩:∃z,nU[y]?=some z:=⟨nU[y]'(by omega),ct (by omega)⟩
  obtain⟨oM,ss,rfl,i1,ji⟩:=Ld Re.1 ao;have e:val=z:=by rw[xf.out,ao];rfl
  subst e;clear xf Re ao;go_wp2_with fail
  go_quiet (fail)
  go_wp2_with fail
  go_quiet (fail)
  go_wp2;exact dM _ _ rfl (Below.drewN (Below.drewN (ax _ _) _) _)
 ·have U:decide ((y:Int)<(nU.length:Int))=false:=by simp[g]
  have e:val=0:=by rw[xf.out,oN (by omega)];rfl
  subst e;clear xf Re;go_wp2_with fail
  go_quiet (fail)
  go_wp2;exact dM _ _ rfl (Below.drewN (ax _ _) _)
theorem apZ:(Tryz.prog.info? 32).map (fun i=>(i.zero,i.size,i.bytes))=some (some (.int .u64 0),1,8):=by kernel_rfl
theorem Oc:∃i,Tryz.prog.info? 32=some i∧i.zero=some (.int .u64 0)∧i.size=1∧i.bytes=8:=by
 have h:=apZ;cases hi:Tryz.prog.info? 32 with
 | none=>rw[hi] at h;cases h
 | some i=>rw[hi] at h;simp at h;exact⟨i,rfl,h.1,h.2.1,h.2.2⟩
end Go.Proofs.YtcbcenfjigcfkaaGreatDoor
