import Derived.Test.YtcbcenfjigcfkaaGreatDoorK09
set_option maxRecDepth 100000
set_option maxHeartbeats 40000000
namespace Go.Proofs.YtcbcenfjigcfkaaGreatDoor
open Go.RowKit
variable {C first:Nat} {Ps:Nat->Prop} {v:Value} {w:World} {ws:List (List Int)}
def ql (Ps:Nat->Prop) (w:World) (v:Value) (ws:List (List Int)):Prop :=
 ∃b o c,v = .slice (some ⟨b,o,none⟩) ws.length c∧ws.length<=c∧Ps b∧∀(i:Nat) (l:List Int),ws[i]?=some l->∃x,w.cell? ⟨b,o+i,none⟩=some x∧cv Ps w x l
theorem ql.keep {B:World} (h:ql Ps w v ws) (X:∀b,Ps b->B.heap[b]?=w.heap[b]?):ql Ps B v ws:=by
 obtain⟨b,o,c,F,O,aW,cw⟩:=h;refine⟨b,o,c,F,O,aW,fun i l hl=>?_⟩;obtain⟨x,J,aw⟩:=cw i l hl;exact⟨x,(dA (a:=⟨b,o+i,none⟩) (X b aW)).trans J,aw.keep X⟩
theorem ql.to {B:World} (h:ql Ps w v ws) (X:f3 C Ps w B):ql Ps B v ws:=h.keep X.block
theorem ql.more {an:Nat->Prop} (h:ql Ps w v ws) (aE:∀b,Ps b->an b):ql an w v ws:=by
 obtain⟨b,o,c,F,O,aW,cw⟩:=h;refine⟨b,o,c,F,O,aE b aW,fun i l hl=>?_⟩;obtain⟨x,J,aw⟩:=cw i l hl;exact⟨x,J,aw.more aE⟩
theorem ql.at {b o n c:Nat} (h:ql Ps w (.slice (some ⟨b,o,none⟩) n c) ws) {i:Nat} {l:List Int} (hl:ws[i]?=some l):∃x,w.cell? ⟨b,o+i,none⟩=some x∧cv Ps w x l:=by
 obtain⟨bw,kG,mJ,ay,-,-,ar⟩:=h;obtain⟨rfl,rfl⟩:b=bw∧o=kG:=by simp at ay;exact⟨ay.1.1,ay.1.2⟩
 exact ar i l hl
theorem SF (l:List Bool) (n:Nat) (h:l.length=n):l=aP n (vc l)∧vc l<2^n:=by
 induction l generalizing n with
 | nil=>subst h;exact⟨rfl,by simp[vc]⟩
 | cons b r aA =>
  subst h;obtain⟨F,O⟩:=aA r.length rfl;refine⟨?_,?_⟩
  ·simp only[List.length_cons,aP,vc];have e:(b.toNat+2*vc r) / 2=vc r:=by cases b <;> simp <;> omega
   rw[e,<-F]
   congr 1
   cases b <;> simp
  ·simp only[List.length_cons,vc,Nat.pow_succ];cases b <;> simp <;> omega
def Lc (first:Nat) (lines:List Int) (ws:List (List Int)) (hs:List Z) (i:Nat):List Z×Int :=
 mQ first (jb (bE first) hs lines (ws.map fun w=>w.getD i 0)).1 (jb (bE first) hs lines (ws.map fun w=>w.getD i 0)).2
theorem atZ (first:Nat) (lines:List Int) (ws:List (List Int)) (n i:Nat) (hs:List Z):Lb first lines ws n i hs=ix (Lc first lines ws) hs (List.range' i n):=by
 induction n generalizing i hs with
 | zero=>rfl
 | succ n aA=>rw[List.range'_succ];simp only[Lb,ix,aA];rfl
theorem af3 (ah:1<=first) (lines:List Int) (ws:List (List Int)):LP first (Lc first lines ws) (fun hs _=>bt first hs lines∧∀w,w∈ws->bt first hs w):=by
 intro hs i h aE;have B5:bt first hs (ws.map fun w=>w.getD i 0):=fun l ae=>by
  obtain⟨w,yJ,rfl⟩:=i6.1 ae;exact KT ah (aE.2 w yJ) i
 have F:=Fp (Fh ah) lines (ws.map fun w=>w.getD i 0) hs h aE.1 B5;have O:=CA ah F.gd.ok F.inl;exact⟨⟨_,F.gd.trans O.gd⟩,O.inl⟩
theorem hA.nextF {α:Type} {az w2 w3:World} {E M:Nat} {f:List Z->α->List Z×Int} {hs:List Z} {l:List α} {g n k:Nat} {a:α} (h:hA C az w2 E M first (f (eG f hs l k).1 a).1 Ps g n ((eG f hs l k).2++List.replicate (n - k) 0)) (ad:l[k]?=some a) (ag:n=l.length)
  (aw:w2.setCell ⟨g,k,none⟩ (.int .i64 (f (eG f hs l k).1 a).2)=w3) :
  hA C az w3 E M first (eG f hs l (k+1)).1 Ps g n ((eG f hs l (k+1)).2++List.replicate (n - (k+1)) 0):=by
 have mr:=(cr.1 ad).1
 have:=h.store k _ aw
 rw[Sl _ n k _ (CB f (by omega) hs) (by omega)] at this;rw[Yb f ad];exact this
theorem atX (C:Nat) (w:World) (E M first:Nat) (hs:List Z) (Ps:Nat->Prop) (h:bZ C w E M first hs Ps) (YB Bs:Value) (ws:List (List Int)) (e9:List Int) (I:Nat) (zn:ql Ps w YB ws) (KQ:cv Ps w Bs e9) (bT:1<=ws.length) (gp:ws.length<=256) (av:∀l,l∈ws->l.length=I) (QM:1<=I) (uw:I<=32) (hg:∀l,l∈ws->bt first hs l) (mZ:bt first hs e9) (ag:e9.length<=64) :
  Calls Tryz.prog 73 #[.pointer (some ⟨E,0,none⟩),YB,Bs] w (gD C w E M first Ps (IW first hs ws I e9)):=by
 have ef:=h.len.2.1;unfold IW;have T1:=K (ae2 C w E M first hs Ps h ws.length bT gp Bs e9 1 KQ mZ (zu ef) ag);have aow:∃nl,fU first hs (nT first hs ws.length e9 1).1 nl∧bt first (nT first hs ws.length e9 1).1 (nT first hs ws.length e9 1).2∧(nT first hs ws.length e9 1).2.length=ws.length:=by
  have:=RP ef ws.length bT e9 1 hs h.ok mZ (zu ef) (fun v0=>vc (cp v0 hs e9)) (fun v0 _=>SF (cp v0 hs e9) e9.length (oj _ _ _))
  refine⟨_,this.gd,this.inl,?_⟩;obtain⟨v0,L⟩:=uq ef;rw[this.len L];simp[o2]
 generalize nT first hs ws.length e9 1=ajX at *;obtain⟨gq,ba⟩:=ajX;obtain⟨nl,gF,QI,Ds⟩:=aow;dsimp only at gF QI Ds ⊢;rw[atZ];obtain⟨f,ah⟩:=cf (Lc first ba ws);have eC:Hid (∀(k a:Nat),(List.range' 0 I)[k]?=some a->(∃n,fU first gq (eG f gq (List.range' 0 I) k).1 n)∧(bt first (eG f gq (List.range' 0 I) k).1 ba∧∀w,w∈ws->bt first (eG f gq (List.range' 0 I) k).1 w)∧(f (eG f gq (List.range' 0 I) k).1 a).1.length<=(ix f gq (List.range' 0 I)).1.length):=fun k a ad=>by
  rw[ah];exact Lx (P:=fun hs (_:Nat)=>bt first hs ba∧∀w,w∈ws->bt first hs w) (af3 ef ba ws) (fun _ _ _ _ g p=>⟨g.allIn p.1,fun w aw=>g.allIn (p.2 w aw)⟩) _ gq gF.ok (fun _ _=>⟨QI,fun w aw=>gF.allIn (hg w aw)⟩) ad
 have E6:Hid (gq.length<=(ix f gq (List.range' 0 I)).1.length):=by
  obtain⟨m,ae⟩:=Ye (P:=fun hs (_:Nat)=>bt first hs ba∧∀w,w∈ws->bt first hs w) (af3 ef ba ws) (fun _ _ _ _ g p=>⟨g.allIn p.1,fun w aw=>g.allIn (p.2 w aw)⟩) (List.range' 0 I) gq gF.ok (fun _ _=>⟨QI,fun w aw=>gF.allIn (hg w aw)⟩);rw[ah];exact ae.len.1
 have yl:Hid (I=(List.range' 0 I).length):=by show _=_;simp
 rw[<-ah];have JZ:=K zn;have lz:=K h;have aaZ:=K av;have CZ:=K Ds;have axd:Hid (∀b,Ps b->b<w.heap.size):=fun b D=>(h.ps b D).1
 obtain⟨xm,ow,ca,rfl,aoa,qv,-⟩:=zn;obtain⟨MQ,kH,es,rfl,VA,ad0,-⟩:=KQ;obtain⟨m,gT⟩:∃n,Hid (n=ws.length):=⟨_,rfl⟩
 rw[<-gT.out] at bT gp aoa T1 JZ CZ ⊢;obtain⟨eE,hi,ao,bA,jJ⟩:=sW
 change Hid _ at hi ao bA jJ
 obtain⟨eW,jk⟩:=bS (l:=ws) (k:=0) (by have:=gT.out;omega);have aot:=av eW (bn jk);have ke:eE.bytes*I<=281474976710656:=by rw[jJ.out];omega
 have jc:I<=maxLen:=by simp only[maxLen];omega
 have aoB:eE.bytes*m<=281474976710656:=by rw[jJ.out];omega
 have aoF:m<=maxLen:=by simp only[maxLen];omega
 have tok:True:=trivial
 change Hid _ at ah jk
 clear h av hg mZ gF QI;go_enter Tryz.func73,Tryz.ntmps73
 go_wp2_with fail
 go_at_call 83;refine T1.mono ?_;rintro e w1 (⟨h2,aAu,an,rfl,aJ,af,bz,dg⟩ | ⟨h2,⟨z,rfl,bq⟩,D⟩);rotate_left
 ·have bd:=K (show _∧_∧_ from ⟨bk h2 E6,bq,D⟩);clear h2 bq D;unfold fI;go_wp2;exact⟨rfl,.inr ⟨bd.1,⟨z,rfl,bd.2.1⟩,bd.2.2⟩⟩
 have gr:=K af;have EX:=K bz;have sB:=K dg;have aaQ:=K ((JZ.to bz).more aJ);obtain⟨bX,rA,iT⟩:=aaQ.at jk;obtain⟨axq,azV,axC,rfl,-,-,-⟩:=iT;obtain⟨lC,mN,pk,rfl,jt,sR,-⟩:=dg;rw[CZ.out] at jt sB ⊢;rw[aot] at rA;rw[Nat.add_zero] at rA
 change Hid _ at aJ
 clear h2 af bz T1;have vz:(0:Int)<(m:Int):=by omega
 go_upto_region 3 with (have _t:=tok;at_make;(refine wpList_make_full _ rfl (.tmp 20) (.tmp 20) 22 rfl w1.heap.size 3 eE _ 1 Tryz.underlying22 hi ao bA .i64 .i64 (I:Int) (I:Int) I rfl rfl rfl rfl ke jc (aL _) ?_;intro w2 gX ij;have ch:=K (Kc gr ij gX);clear tok gX ij))
 clear rA;obtain⟨g,af⟩:=cf (w1.heap.size);rw[<-af] at ch;rw[<-af];clear af;go_wp2_with fail
 go_loopw [24] (fun aq B=>∃(k:Nat),k<=I∧aq = .int .i64 k∧Hid (hA C w1 B E M first (eG f gq (List.range' 0 I) k).1 an g I ((eG f gq (List.range' 0 I) k).2++List.replicate (I - k) 0))) (fun aq _=>I - (intOf aq).toNat)
 case atStart=>exact⟨0,cE _,rfl,hA.first_ ch⟩
 case round =>
  clear ch;obtain⟨k,X,rfl,bB⟩:=hrel;by_cases VV:k<I
  ·have Ap:(List.range' 0 I)[k]?=some k:=by rw[List.getElem?_range' VV];simp
   obtain⟨⟨ax6,gF⟩,⟨F5,aeB⟩,fG⟩:=eC k k Ap;rw[ah.out,Lc] at fG;rw[<-ah.out] at fG;have aim:=K Ap;have Me:Hid (∀q,f q k=Lc first ba ws q k):=fun q=>by rw[ah.out]
   generalize Rq:(eG f gq (List.range' 0 I) k).1=q at *;have RH:bt first q (ws.map fun w=>w.getD k 0):=fun l ae=>by
    obtain⟨B,yJ,rfl⟩:=i6.1 ae;exact KT ef (aeB B yJ) k
   obtain⟨mq,B5⟩:=cf (ws.map fun w=>w.getD k 0);rw[<-B5] at RH fG;have F:=Fp (Fh ef) ba mq q gF.ok F5 RH;have VB:(jb (bE first) q ba mq).2.length=m:=by
    obtain⟨v0,L⟩:=uq ef;rw[F.len L];simp[oj,B5,CZ.out,<-gT.out]
   have O:=CA ef F.gd.ok F.inl;have Td:=K (UF (bE first) ba mq q);obtain⟨rv,QY⟩:=cf ((fun hs (p:Int×Int)=>bE first hs p.1 p.2));have vk:Hid (∀(j:Nat) (x y:Int),(ba.zip mq)[j]?=some (x,y)->(bN first (eG rv q (ba.zip mq) j).1 x∧bN first (eG rv q (ba.zip mq) j).1 y)∧(rv (eG rv q (ba.zip mq) j).1 (x,y)).1.length<=(ix rv q (ba.zip mq)).1.length):=fun j x y ad=>by
    rw[QY];exact(Lx (P:=fun hs (p:Int×Int)=>bN first hs p.1∧bN first hs p.2) (fun _ _ h aE=>⟨⟨_,(j2 ef h aE.1 aE.2).gd⟩,(j2 ef h aE.1 aE.2).inl⟩) (fun _ _ _ _ g p=>⟨g.inL p.1,g.inL p.2⟩) (ba.zip mq) q gF.ok (fun a ad=>⟨F5 _ (List.of_mem_zip ad).1,RH _ (List.of_mem_zip ad).2⟩) ad).2
   have EN:Hid (∀(u:World) (Ct:List Z) (x y:Int) (jO:Nat->Prop),bZ C u E M first Ct jO->bN first Ct x->bN first Ct y->Calls Tryz.prog 90 #[.pointer (some ⟨E,0,none⟩),.int .i64 x,.int .i64 y] u (pi C u E M first jO (rv Ct (x,y)) hz)):=fun u Ct x y jO rE J aF=>by rw[QY];exact sF C u E M first Ct jO rE x y J aF
   rw[<-QY] at Td;clear QY;have Fc:Hid (∀(u:World) (jO:Nat->Prop) (v:Value),bZ C u E M first (jb (bE first) q ba mq).1 jO->cv jO u v (jb (bE first) q ba mq).2->Calls Tryz.prog 78 #[.pointer (some ⟨E,0,none⟩),v] u (pi C u E M first jO (mQ first (jb (bE first) q ba mq).1 (jb (bE first) q ba mq).2) hz)):=fun u jO v af aw=>OL C u E M first _ jO af v _ aw F.inl (by rw[VB];omega) (by rw[VB];omega)
   have ai1:=K fG;have ai0:=K (bL O.gd.len.1 fG);have BG:Hid (∀Ct,Ct=q->f Ct k=mQ first (jb (bE first) q ba mq).1 (jb (bE first) q ba mq).2):=fun Ct e=>by rw[Me.out,e,Lc,<-B5]
   have aa2:Hid (m=(ba.zip mq).length):=by show _=_;rw[List.length_zip,B5,lb,CZ.out,<-gT.out];omega
   have fa:(k:Int)<(I:Int):=by omega
   have bM:=bF ((k:Int)+1);have aap:=K Rq;rw[<-Rq] at bB;have Zw:Hid (bZ C wr E M first q (cK an g)):=by show bZ _ _ _ _ _ _ _;rw[<-Rq];exact bB.gt
   have tok:True:=trivial
   change Hid _ at B5
   clear fG F O gF F5 aeB RH Ap Rq VB;go_upto_region 7 with (have _t:=tok;at_make;(refine wpList_make_full _ rfl (.tmp 28) (.tmp 28) 22 rfl wr.heap.size 3 eE _ 1 Tryz.underlying22 hi ao bA .i64 .i64 (m:Int) (m:Int) m rfl rfl rfl rfl aoB aoF (aL _) ?_;intro w2 gX ij;have EW:=K (Kc Zw ij gX);clear tok gX ij))
   obtain⟨bK,QZ⟩:=cf (wr.heap.size);have Bz:Hid (∀b,cK an g b->b<bK):=fun b D=>by rw[QZ];exact(bB.gt.ps b D).1
   rw[<-QZ] at EW;rw[<-QZ];clear QZ;obtain⟨Fe,acV⟩:=cf wr;rw[<-acV] at bB EW Zw;clear acV;go_wp2_with fail
   go_loopw [32] (fun aq B=>∃(j:Nat),j<=m∧aq = .int .i64 j∧Hid (hA C Fe B E M first (eG rv q (ba.zip mq) j).1 (cK an g) bK m ((eG rv q (ba.zip mq) j).2++List.replicate (m - j) 0))) (fun aq _=>m - (intOf aq).toNat)
   case atStart=>exact⟨0,cE _,rfl,hA.first_ EW⟩
   case round =>
    clear EW;obtain⟨j,aT,rfl,ov⟩:=hrel;by_cases DC:j<m
    ·obtain⟨x,J⟩:=bS (l:=ba) (k:=j) (by rw[CZ.out];exact DC);obtain⟨lw,sQ⟩:=bS (l:=ws) (k:=j) (by rw[<-gT.out];exact DC);obtain⟨y,aF⟩:=bS (l:=lw) (k:=k) (by rw[aaZ lw (bn sQ)];exact VV);have N8:mq[j]?=some y:=by rw[B5.out,fT,sQ];simp[List.getD_eq_getElem?_getD,aF]
     have ad:(ba.zip mq)[j]?=some (x,y):=List.getElem?_zip_eq_some.2 ⟨J,N8⟩;obtain⟨GI,Cf,sU⟩:=aaQ.at sQ;have acW:=aaZ lw (bn sQ);have aa1:=K sU;obtain⟨sG,k4,ru,rfl,-,Wl,-⟩:=sU;rw[acW] at Cf aa1;have G5:Hid (∀B,f3 C (cK an g) Fe B->f3 C an w1 B):=fun B ma=>bB.kp.trans (ma.less lK)
     have l1:Hid (∀B,f3 C (cK an g) Fe B->B.cell? ⟨lC,mN+j,none⟩=some (.int .i64 x)∧B.cell? ⟨xm,ow+j,none⟩=some (.slice (some ⟨sG,k4,none⟩) I ru)∧B.cell? ⟨sG,k4+k,none⟩=some (.int .i64 y)):=fun B ma=>by
      have jS:=G5 B ma;exact⟨(sB.to jS).cells J,(dA (a:=⟨xm,ow+j,none⟩) (jS.block xm (aJ xm qv))).trans Cf,(aa1.to jS).cells aF⟩
     have hx:=l1 wr ov.kp;have Ie:bK≠lC:=fun e=>by have:=Bz lC (.inl sR);omega
     have uz:bK≠xm:=fun e=>by have:=Bz xm (.inl (aJ xm qv));omega
     have aoj:bK≠sG:=fun e=>by have:=Bz sG (.inl Wl);omega
     obtain⟨⟨FN,adn⟩,fG⟩:=vk j x y ad;have nE:=K fun v (L:bZ C v E M first (eG rv q (ba.zip mq) j).1 (cK (cK an g) bK))=>EN v _ x y _ L FN adn
     have LE:Hid ((rv (eG rv q (ba.zip mq) j).1 (x,y)).1.length<=(ix f gq (List.range' 0 I)).1.length):=by
      have e:=Td.out;exact bL fG (by rw[<-e];exact ai0)
     have ai5:=K aa2;have FO:(j:Int)<(m:Int):=by omega
     have lg:=bF ((j:Int)+1)
     change Hid _ at ad
     clear J sQ aF N8 Cf acW FN adn fG;go_upto_region 10 with fail
     refine nW ?_;refine ih (S:=(fun B=>B.cell? ⟨lC,mN+j,none⟩=some (.int .i64 x)∧B.cell? ⟨xm,ow+j,none⟩=some (.slice (some ⟨sG,k4,none⟩) I ru)∧B.cell? ⟨sG,k4+k,none⟩=some (.int .i64 y))) (by kernel_rfl) (by exact hx) (fun ii=>?_);refine R 0 ?_;refine R 1 ?_;refine R 2 ?_;refine R 3 ?_;refine R 4 ?_;refine R 5 ?_;refine R 6 ?_;refine R 7 ?_;refine R 8 ?_;refine R 9 ?_;refine R 10 ?_;refine R 11 ?_;refine R 12 ?_;refine R 13 ?_;refine rd 14 fun aj W=>?_
     (try simp only[bf,bg,bh]);go_simp;go_at_call 90;refine(nE _ (ov.gt.to b7)).mono ?_;rintro e w3 (⟨ae,rfl,af,bz⟩ | ⟨ae,⟨z,rfl,bq⟩,D⟩);rotate_left
     ·have bd:=K (show _∧_∧_ from ⟨bk ae LE,bq,((EX.below.trans bB.kp.below).trans ov.kp.below).trans (qn ov.gt b7 D)⟩);clear ae bq D;unfold fI;go_wp2_with fail
      refine gN.panic (fun eP f7=>?_);have iO:Hid (eP.defers=[]):=f7;clear f7;go_wp2;exact⟨iO,.inr ⟨bd.1,⟨z,rfl,bd.2.1⟩,bd.2.2⟩⟩
     have kl:=K (ov.call af (qx ov.gt b7 bz));clear ae af bz;unfold hz;obtain⟨⟨i4,-,hold⟩,h1⟩:=kl.cell DC;go_wp2_with fail
     refine aQ W (by exact l1 w3 kl.kp) fun kz=>?_
     clear W aj;refine R 15 ?_;refine rd 16 fun aj W=>?_
     (try simp only[bf,bg,bh]);go_simp;refine aQ W (by exact⟨(ce _ _ _ _ Ie).trans (l1 w3 kl.kp).1,(ce _ _ _ _ uz).trans (l1 w3 kl.kp).2.1,(ce _ _ _ _ aoj).trans (l1 w3 kl.kp).2.2⟩) fun Dr=>?_
     clear W aj;refine gn (by kernel_rfl) ?_ _;refine gN.normal ?_;generalize av:World.setCell w3 _ _=f1;have vk:=K (hA.nextF kl ad ai5 av);clear av hold h1 kl ov nE hx;go_wp2;go_roundw
     case measure=>simp[intOf];omega
     exact⟨j+1,by omega,by simp,vk⟩
    ·have ayQ:¬((j:Int)<(m:Int)):=by omega
     have adq:j=m:=by omega
     have y0:Hid (hA C Fe wr E M first (jb (bE first) q ba mq).1 (cK an g) bK m (jb (bE first) q ba mq).2):=by
      have e:=ov.out;rw[adq,Nat.sub_self,List.replicate_zero,List.append_nil,show eG rv q (ba.zip mq) m=ix rv q (ba.zip mq) by rw[aa2.out,Sm],<-Td.out] at e;exact e
     have PY:=K (Fc wr _ _ y0.gt y0.word);have xg:Hid ((mQ first (jb (bE first) q ba mq).1 (jb (bE first) q ba mq).2).1.length<=(ix f gq (List.range' 0 I)).1.length):=ai1.out;generalize DK:mQ first (jb (bE first) q ba mq).1 (jb (bE first) q ba mq).2=zF at *;clear adq DK ov;go_wp2_with fail
     go_at_call 78;refine PY.mono ?_;rintro e aH (⟨h2,rfl,af,bz⟩ | ⟨h2,⟨z,rfl,bq⟩,D⟩);rotate_left
     ·have bd:=K (show _∧_∧_ from ⟨bk h2 xg,bq,((EX.below.trans bB.kp.below).trans y0.kp.below).trans D⟩);clear h2 bq D;unfold fI;go_wp2;exact⟨rfl,.inr ⟨bd.1,⟨z,rfl,bd.2.1⟩,bd.2.2⟩⟩
     have zJ:Hid (hA C w1 aH E M first (f (eG f gq (List.range' 0 I) k).1 k).1 an g I ((eG f gq (List.range' 0 I) k).2++List.replicate (I - k) 0)):=by
      show hA _ _ _ _ _ _ _ _ _ _ _;rw[BG _ aap.out];exact bB.call (af.less lK) (y0.kp.trans (bz.less lK))
     obtain⟨⟨i4,-,hold⟩,h1⟩:=zJ.cell VV;have ajy:=K (BG _ aap);clear h2 af bz PY y0;unfold hz;go_wp2_with fail
     generalize av:World.setCell aH _ _=dN;have jn:=K (hA.nextF (w3:=dN) zJ aim yl (by rw[ajy.out];exact av));clear av hold h1 zJ bB;go_wp2;go_roundw
     case measure=>simp[intOf];omega
     exact⟨k+1,by omega,by simp,jn⟩
  ·have cQ:¬((k:Int)<(I:Int)):=by omega
   have jg:Hid (gD C w E M first Ps (ix f gq (List.range' 0 I)) (.returned (.slice (some ⟨g,0,none⟩) I I)) wr):=by
    rcases bB.last yl (by omega) with ⟨a1,v,jO,a2,a3,a4,a5,Ue⟩ | ⟨a1,a2,a3⟩
    ·exact .inl ⟨a1,v,jO,a2,fun b D=>a3 b (aJ b D),a4,EX.trans (a5.less aJ),Ue⟩
    ·exact .inr ⟨a1,a2,EX.below.trans a3⟩
   go_wp2;go_ret
   exact jg
theorem aqF (first:Nat) (hs:List Z) (c x y:Int):nu first hs c (x,y)=((lJ first (bE first (bE first (bE first hs (bu x) y).1 x (bu y)).1 (bu (bE first (bE first hs (bu x) y).1 x (bu y)).2) c).1 (bE first hs (bu x) y).2 (bE first (bE first (bE first hs (bu x) y).1 x (bu y)).1 (bu (bE first (bE first hs (bu x) y).1 x (bu y)).2) c).2).1,0,(lJ first (bE first (bE first (bE first hs (bu x) y).1 x (bu y)).1 (bu (bE first (bE first hs (bu x) y).1 x (bu y)).2) c).1 (bE first hs (bu x) y).2 (bE first (bE first (bE first hs (bu x) y).1 x (bu y)).1 (bu (bE first (bE first hs (bu x) y).1 x (bu y)).2) c).2).2):=rfl
theorem aqE (ah:1<=first):∀hs (s:Int) (a:Int×Int),bI first hs->bN first hs s->(bN first hs a.1∧bN first hs a.2)->(∃n,fU first hs (nu first hs s a).1 n)∧bN first (nu first hs s a).1 (nu first hs s a).2.2:=by
 intro hs s a h bA ad;have F:=j2 ah h ad.1.flip ad.2;have O:=j2 ah F.gd.ok (F.gd.inL ad.1) (F.gd.inL ad.2).flip;have bK:=F.gd.trans O.gd;have aW:=j2 ah O.gd.ok O.inl.flip (bK.inL bA);have cw:=AO ah aW.gd.ok ((O.gd.trans aW.gd).inL F.inl) aW.inl;exact⟨⟨_,(bK.trans aW.gd).trans cw.gd⟩,cw.inl⟩
theorem aqG (C:Nat) (w:World) (E M first:Nat) (hs:List Z) (Ps:Nat->Prop) (h:bZ C w E M first hs Ps) (hJ gZ:Value) (l r:List Int) (hS:cv Ps w hJ l) (il:cv Ps w gZ r) (hl:bt first hs l) (ak:bt first hs r) (aU:l.length=r.length) (ag:l.length<=65536) :
  Calls Tryz.prog 101 #[.pointer (some ⟨E,0,none⟩),hJ,gZ] w (pi C w E M first Ps (zz first hs l r 0) hz):=by
 have ef:=h.len.2.1;rw[aqJ];obtain⟨c,rA⟩:∃c:Int,c=0:=⟨_,rfl⟩
 have ar:bN first hs c:=by rw[rA];exact qZ ef
 rw[<-rA]
 change Hid _ at rA
 have eC:Hid (∀(k:Nat) (x y:Int),(l.zip r)[k]?=some (x,y)->bI first (iw (nu first) hs c (l.zip r) k).1∧bN first (iw (nu first) hs c (l.zip r) k).1 (iw (nu first) hs c (l.zip r) k).2.2∧(bN first (iw (nu first) hs c (l.zip r) k).1 x∧bN first (iw (nu first) hs c (l.zip r) k).1 y)∧(nu first (iw (nu first) hs c (l.zip r) k).1 (iw (nu first) hs c (l.zip r) k).2.2 (x,y)).1.length<=(jV (nu first) hs c (l.zip r)).1.length):=fun k x y ad =>
  agb (P:=bN first) (Q:=fun hs (p:Int×Int)=>bN first hs p.1∧bN first hs p.2) (aqE ef) (fun _ _ _ _ g p=>⟨g.inL p.1,g.inL p.2⟩) (l.zip r) hs c h.ok ar (fun a ad=>⟨hl _ (List.of_mem_zip ad).1,ak _ (List.of_mem_zip ad).2⟩) ad
 have y4:=K hS;have pf:=K il;have cc:=K h;have G2:Hid (∀b,Ps b->b<w.heap.size):=fun b D=>(h.ps b D).1
 obtain⟨b1,iG,c1,rfl,lF,DG,-⟩:=hS;obtain⟨b2,hT,c2,rfl,lU,DH,-⟩:=il;rw[<-aU] at lU pf ⊢;obtain⟨n,mT⟩:∃n,Hid (n=l.length):=⟨_,rfl⟩
 have bP:Hid (n=(l.zip r).length):=by show n=_;rw[List.length_zip,<-aU,mT.out];omega
 rw[<-mT.out] at ag lF lU y4 pf ⊢
 change Hid _ at aU
 clear h hl ak ar;go_enter Tryz.func101,Tryz.ntmps101
 go_wp2_with fail
 go_loopw [7,13] (fun mJ aq B=>∃(k:Nat) (oA:Int),k<=n∧aq = .int .i64 k∧mJ = .int .i64 oA∧Hid (oA=(iw (nu first) hs c (l.zip r) k).2.2)∧Hid (GO C w B E M first (iw (nu first) hs c (l.zip r) k).1 Ps)) (fun _ aq _=>n - (intOf aq).toNat)
 case atStart=>exact⟨0,0,cE _,rfl,rfl,rA.symm,⟨cc,f3.refl _ _ _⟩⟩
 case round =>
  obtain⟨k,gJ,X,rfl,rfl,JF,bB⟩:=hrel;by_cases aB:k<n
  ·obtain⟨x,J⟩:=bS (l:=l) (k:=k) (by have:=mT.out;omega);obtain⟨y,aF⟩:=bS (l:=r) (k:=k) (by have:=mT.out;have:=aU.out;omega);have ad:(l.zip r)[k]?=some (x,y):=List.getElem?_zip_eq_some.2 ⟨J,aF⟩;have l1:Hid (∀B,f3 C Ps w B->B.cell? ⟨b1,iG+k,none⟩=some (.int .i64 x)∧B.cell? ⟨b2,hT+k,none⟩=some (.int .i64 y)):=fun B ma=>⟨(y4.to ma).cells J,(pf.to ma).cells aF⟩
   have hx:=l1 wr bB.kp;have gg:=K (eC k x y ad);have bW:=K (agc (nu first) ad hs c);have fa:(k:Int)<(n:Int):=by omega
   have bM:=bF ((k:Int)+1)
   change Hid _ at ad
   clear J aF;obtain⟨aG,nO,⟨nr,ek⟩,fG⟩:=gg.out;have jE:=bW.out;rw[aqF] at fG jE;dsimp only at fG jE;clear gg bW;have ks:=bB.gt.len;generalize aJ:(iw (nu first) hs c (l.zip r) k).1=q at *;generalize yA:(iw (nu first) hs c (l.zip r) k).2.2=oA at *
   change Hid _ at aJ
   have aj9:=K (vK nr ks.1 ks.2.2);have aka:=K (vK ek ks.1 ks.2.2);have F:=j2 ef aG nr.flip ek;have qf:=K fun v (L:bZ C v E M first q Ps)=>sF C v E M first q Ps L _ _ nr.flip ek
   generalize bE first q (bu x) y=co at *;have O:=j2 ef F.gd.ok (F.gd.inL nr) (F.gd.inL ek).flip;have bK:=F.gd.trans O.gd;have s7:=K fun v (L:bZ C v E M first co.1 Ps)=>sF C v E M first co.1 Ps L _ _ (F.gd.inL nr) (F.gd.inL ek).flip
   generalize bE first co.1 x (bu y)=hI at *;have aW:=j2 ef O.gd.ok O.inl.flip (bK.inL nO);have GK:=K fun v (L:bZ C v E M first hI.1 Ps)=>sF C v E M first hI.1 Ps L _ _ O.inl.flip (bK.inL nO)
   generalize bE first hI.1 (bu hI.2) oA=lk at *;have cw:=AO ef aW.gd.ok ((O.gd.trans aW.gd).inL F.inl) aW.inl;have LN:=K fun v (L:bZ C v E M first lk.1 Ps)=>IM C v E M first lk.1 Ps L _ _ ((O.gd.trans aW.gd).inL F.inl) aW.inl
   generalize lJ first lk.1 co.2 lk.2=Cs at *;generalize bu x=sO at *;generalize bu y=axL at *;have Da:=K (bL cw.gd.len.1 fG);have xg:=K (bL aW.gd.len.1 Da);have eb:=K (bL O.gd.len.1 xg);have zS:=K O.inl;have qI:Hid (Cs.2=(iw (nu first) hs c (l.zip r) (k+1)).2.2):=by show _=_;rw[jE]
   change Hid _ at fG jE
   clear yA F O bK aW cw aG nO nr ek ks;have VE:gJ=oA:=JF.out;subst VE;clear JF;go_upto_region 5 with fail
   refine nW ?_;refine ih (S:=(fun B=>B.cell? ⟨b1,iG+k,none⟩=some (.int .i64 x)∧B.cell? ⟨b2,hT+k,none⟩=some (.int .i64 y))) (by kernel_rfl) (by exact hx) (fun ii=>?_);refine R 0 ?_;refine R 1 ?_;refine R 2 ?_;refine R 3 ?_;refine R 4 ?_;refine R 6 ?_;refine R 7 ?_;refine R 8 ?_;refine R 9 ?_;refine rd 5 fun aj W=>?_
   (try simp only[bf,bg,bh]);go_simp;go_at_call 97;refine(aj9 _).mono ?_;rintro e v ⟨rfl,L⟩;rw[L];clear L;go_wp2_with fail
   refine aQ W (by exact hx) fun anv=>?_
   clear W aj;refine rd 10 fun aj W=>?_
   (try simp only[bf,bg,bh]);go_simp;go_at_call 90;refine(qf _ (bB.gt.to b7)).mono ?_;rintro e w1 (⟨ae,rfl,af,bz⟩ | ⟨ae,⟨z,rfl,bq⟩,D⟩);rotate_left
   ·have bd:=K (show _∧_∧_ from ⟨bk ae eb,bq,bB.kp.below.trans (qn bB.gt b7 D)⟩);clear ae bq D;unfold fI;go_wp2_with fail
    refine gN.panic (fun eP f7=>?_);have iO:Hid (eP.defers=[]):=f7;clear f7;go_wp2;exact⟨iO,.inr ⟨bd.1,⟨z,rfl,bd.2.1⟩,bd.2.2⟩⟩
   have kl:=K (bB.call af (qx bB.gt b7 bz));clear ae af bz;unfold hz;go_wp2_with fail
   refine aQ W (by exact l1 _ kl.kp) fun kz=>?_
   clear W aj;refine R 11 ?_;refine gn (by kernel_rfl) ?_ _;refine gN.normal ?_;have lT:=l1 w1 kl.kp;go_upto_region 6 with fail
   refine nW ?_;refine ih (S:=(fun B=>B.cell? ⟨b1,iG+k,none⟩=some (.int .i64 x)∧B.cell? ⟨b2,hT+k,none⟩=some (.int .i64 y))) (by kernel_rfl) (by exact lT) (fun ii=>?_);refine R 0 ?_;refine R 1 ?_;refine R 2 ?_;refine R 3 ?_;refine R 4 ?_;refine R 5 ?_;refine R 6 ?_;refine R 7 ?_;refine R 8 ?_;refine rd 9 fun aj W=>?_
   (try simp only[bf,bg,bh]);go_simp;go_at_call 97;refine(aka _).mono ?_;rintro e v ⟨rfl,L⟩;rw[L];clear L;go_wp2_with fail
   refine aQ W (by exact lT) fun anv=>?_
   clear W aj;refine rd 10 fun aj W=>?_
   (try simp only[bf,bg,bh]);go_simp;go_at_call 90;refine(s7 _ (kl.gt.to b7)).mono ?_;rintro e w2 (⟨ae,rfl,af,bz⟩ | ⟨ae,⟨z,rfl,bq⟩,D⟩);rotate_left
   ·have bd:=K (show _∧_∧_ from ⟨bk ae xg,bq,kl.kp.below.trans (qn kl.gt b7 D)⟩);clear ae bq D;unfold fI;go_wp2_with fail
    refine gN.panic (fun eP f7=>?_);have iO:Hid (eP.defers=[]):=f7;clear f7;go_wp2;exact⟨iO,.inr ⟨bd.1,⟨z,rfl,bd.2.1⟩,bd.2.2⟩⟩
   have op:=K (kl.call af (qx kl.gt b7 bz));clear ae af bz;unfold hz;go_wp2_with fail
   refine aQ W (by exact l1 _ op.kp) fun kz=>?_
   clear W aj;refine R 11 ?_;refine gn (by kernel_rfl) ?_ _;refine gN.normal ?_;have Hs:=K (vK zS op.gt.len.1 op.gt.len.2.2);go_wp2_with fail
   go_at_call 97;refine(Hs _).mono ?_;rintro e v ⟨rfl,L⟩;rw[L];clear L;go_wp2_with fail
   go_at_call 90;refine(GK _ (op.gt.to b7)).mono ?_;rintro e w3 (⟨ae,rfl,af,bz⟩ | ⟨ae,⟨z,rfl,bq⟩,D⟩);rotate_left
   ·have bd:=K (show _∧_∧_ from ⟨bk ae Da,bq,op.kp.below.trans (qn op.gt b7 D)⟩);clear ae bq D;unfold fI;go_wp2;exact⟨rfl,.inr ⟨bd.1,⟨z,rfl,bd.2.1⟩,bd.2.2⟩⟩
   have pa:=K (op.call af (qx op.gt b7 bz));clear ae af bz;unfold hz;go_wp2_with fail
   go_at_call 95;refine(LN _ (pa.gt.to b7)).mono ?_;rintro e f1 (⟨ae,rfl,af,bz⟩ | ⟨ae,⟨z,rfl,bq⟩,D⟩);rotate_left
   ·have bd:=K (show _∧_∧_ from ⟨bk ae fG,bq,pa.kp.below.trans (qn pa.gt b7 D)⟩);clear ae bq D;unfold fI;go_wp2;exact⟨rfl,.inr ⟨bd.1,⟨z,rfl,bd.2.1⟩,bd.2.2⟩⟩
   have Bu:=K (pa.call af (qx pa.gt b7 bz));clear ae af bz;unfold hz;have jn:Hid (GO C w f1 E M first (iw (nu first) hs c (l.zip r) (k+1)).1 Ps):=by show GO _ _ _ _ _ _ _ _;rw[jE.out];exact Bu
   clear kl op pa Bu bB l1 qf s7 GK LN;go_wp2;go_roundw
   case measure=>simp[intOf];omega
   exact⟨k+1,_,by omega,by simp,rfl,qI.out,jn⟩
  ·have cQ:¬((k:Int)<(n:Int)):=by omega
   have hB:k=n:=by omega
   have jg:Hid (pi C w E M first Ps ((jV (nu first) hs c (l.zip r)).1,(jV (nu first) hs c (l.zip r)).2.2) hz (.returned (.int .i64 gJ)) wr):=by
    have e:=bB.out;have aS:=JF.out;rw[hB,show iw (nu first) hs c (l.zip r) n=jV (nu first) hs c (l.zip r) by rw[bP.out,aga]] at e aS;rw[aS];exact .inl ⟨e.gt.len.1,rfl,e.gt,e.kp⟩
   clear hB;go_wp2;go_ret
   exact jg
theorem Ot {az:World} {E M:Nat} {hs:List Z} {x:Int} (h:bZ C w E M first hs Ps) (X:f3 C Ps az w):gD C az E M first Ps (hs,[x]) (.returned (.slice (some ⟨w.heap.size,0,none⟩) 1 1)) (w.alloc (.cells #[.int .i64 x] 3)):=by
 have D:V w (w.alloc (.cells #[.int .i64 x] 3)):=(ax _ _).alloc (aL _) _;refine .inl ⟨h.len.1,_,cK Ps w.heap.size,rfl,lK,h.add D (aL _) (by simp),X.trans (h.kp D),w.heap.size,0,1,rfl,aL _,.inr rfl,fun i y aF=>?_⟩;cases i with
 | zero=>cases aF;exact ja rfl
 | succ i=>simp at aF
def n7 (first:Nat) (hs:List Z) (kind:Int) (l r:List Int):List Z×List Int :=
 if kind=12 then jb (bE first) hs l r
 else if kind=13 then jb (lJ first) hs l r
 else if kind=14 then jb (ic first) hs l r
 else if kind=15 then pC first hs l r 0
 else if kind=16 then pC first hs l (r.map bu) 1
 else if kind=17 then q3 first l hs (List.replicate l.length 0) 0 r
 else if kind=18 then tC first true l.length hs 0 r l
 else if kind=19 then tC first false l.length hs 0 r l
 else if kind=20 then ((Qm first hs l r).1,[(Qm first hs l r).2])
 else ((zz first hs l r 0).1,[(zz first hs l r 0).2])
theorem as3 (C:Nat) (w:World) (E M first:Nat) (hs:List Z) (Ps:Nat->Prop) (h:bZ C w E M first hs Ps) (kind:Int) (aos:12<=kind∧kind<=21) (hJ gZ:Value) (l r:List Int) (hS:cv Ps w hJ l) (il:cv Ps w gZ r) (hl:bt first hs l) (ak:bt first hs r) (pq:0<l.length) (oD:l.length<=32) (FY:r.length<=32) (aU:kind≠18->kind≠19->l.length=r.length) :
  Calls Tryz.prog 81 #[.pointer (some ⟨E,0,none⟩),.int .i64 kind,hJ,gZ] w (gD C w E M first Ps (n7 first hs kind l r)):=by
 have ef:=h.len.2.1;have aoq:kind=12∨kind=13∨kind=14∨kind=15∨kind=16∨kind=17∨kind=18∨kind=19∨kind=20∨kind=21:=by omega
 clear aos;rcases aoq with rfl | rfl | rfl | rfl | rfl | rfl | rfl | rfl | rfl | rfl
 ·rw[show n7 first hs 12 l r=jb (bE first) hs l r from rfl];have q8:=K (Qk 90 bE ab5 (fun _=>Fh) sF C w E M first hs Ps h hJ gZ l r hS il hl ak (aU (by decide) (by decide)) (by omega));generalize jb (bE first) hs l r=res at *;clear h hS il hl ak aU;go_enter Tryz.func81,Tryz.ntmps81
  go_wp2_with fail
  go_at_call 91;refine q8.mono ?_;intro e al eN;have cO:=K eN;rcases eN.cases with ⟨v,rfl⟩ | ⟨p,rfl⟩
  ·clear eN;go_wp2;go_ret
   exact cO
  ·clear eN;unfold fI at cO ⊢;go_wp2;exact⟨rfl,cO⟩
 ·rw[show n7 first hs 13 l r=jb (lJ first) hs l r from rfl];have q8:=K (Qk 95 lJ ab6 (fun _=>Ou) IM C w E M first hs Ps h hJ gZ l r hS il hl ak (aU (by decide) (by decide)) (by omega));generalize jb (lJ first) hs l r=res at *;clear h hS il hl ak aU;go_enter Tryz.func81,Tryz.ntmps81
  go_wp2_with fail
  go_at_call 91;refine q8.mono ?_;intro e al eN;have cO:=K eN;rcases eN.cases with ⟨v,rfl⟩ | ⟨p,rfl⟩
  ·clear eN;go_wp2;go_ret
   exact cO
  ·clear eN;unfold fI at cO ⊢;go_wp2;exact⟨rfl,cO⟩
 ·rw[show n7 first hs 14 l r=jb (ic first) hs l r from rfl];have q8:=K (Qk 96 ic Uw (fun _=>GH) O5 C w E M first hs Ps h hJ gZ l r hS il hl ak (aU (by decide) (by decide)) (by omega));generalize jb (ic first) hs l r=res at *;clear h hS il hl ak aU;go_enter Tryz.func81,Tryz.ntmps81
  go_wp2_with fail
  go_at_call 91;refine q8.mono ?_;intro e al eN;have cO:=K eN;rcases eN.cases with ⟨v,rfl⟩ | ⟨p,rfl⟩
  ·clear eN;go_wp2;go_ret
   exact cO
  ·clear eN;unfold fI at cO ⊢;go_wp2;exact⟨rfl,cO⟩
 ·rw[show n7 first hs 15 l r=pC first hs l r 0 from rfl];have q8:=K (Yg C w E M first hs Ps h hJ gZ l r 0 hS il hl ak (qZ ef) (aU (by decide) (by decide)) (by omega));generalize pC first hs l r 0=res at *;clear h hS il hl ak aU;go_enter Tryz.func81,Tryz.ntmps81
  go_wp2_with fail
  go_at_call 98;refine q8.mono ?_;intro e al eN;have cO:=K eN;rcases eN.cases with ⟨v,rfl⟩ | ⟨p,rfl⟩
  ·clear eN;go_wp2;go_ret
   exact cO
  ·clear eN;unfold fI at cO ⊢;go_wp2;exact⟨rfl,cO⟩
 ·rw[show n7 first hs 16 l r=pC first hs l (r.map bu) 1 from rfl];have ad9:∀x,x∈r->0<=x∧x<1000000000:=fun x J=>by have:=ak x J;have:=h.len;unfold bN at *;omega
  have TY:Hid (Calls Tryz.prog 80 #[gZ] w (sD w (r.map bu))):=by
   obtain⟨b,o,c,rfl,-,-,ar⟩:=il;exact aeJ w b o c r (by omega) ad9 ar
  have q8:Hid (∀(u:World) (an:Nat->Prop) (wU:Value),(∀b,Ps b->an b)->f3 C Ps w u->bZ C u E M first hs an->cv an u wU (r.map bu)->Calls Tryz.prog 98 #[.pointer (some ⟨E,0,none⟩),hJ,wU,.int .i64 1] u (gD C u E M first an (pC first hs l (r.map bu) 1))):=fun u an wU aJ X af aw=>Yg C u E M first hs an af hJ wU l (r.map bu) 1 ((hS.to X).more aJ) aw hl (fun x ae=>by obtain⟨y,aF,rfl⟩:=i6.1 ae;exact(ak y aF).flip) (zu ef) (by rw[lb];exact aU (by decide) (by decide)) (by omega)
  have cc:=K h;generalize pC first hs l (r.map bu) 1=res at *;clear h hS il hl ak aU ad9;go_enter Tryz.func81,Tryz.ntmps81
  go_wp2_with fail
  go_at_call 80;refine TY.mono ?_;rintro e w2 ⟨g,cap,rfl,bc,no⟩;obtain⟨uz,bz,N3⟩:=Xp cc bc no;have s7:=K (q8 w2 _ _ lK bz uz N3);have Pw:Hid (∀e al,gD C w2 E M first (cK Ps g) res e al->gD C w E M first Ps res e al):=fun e al ae=>gD.pre cc no lK ae
  clear bc uz bz N3 no;generalize (r.map bu).length=ml at *;go_wp2_with fail
  go_at_call 98;refine s7.mono ?_;intro e al eN;have cO:Hid (gD C w E M first Ps res e al):=Pw e al eN;rcases eN.cases with ⟨v,rfl⟩ | ⟨p,rfl⟩
  ·clear eN;go_wp2;go_ret
   exact cO
  ·clear eN;unfold fI at cO ⊢;go_wp2;exact⟨rfl,cO⟩
 ·rw[show n7 first hs 17 l r=q3 first l hs (List.replicate l.length 0) 0 r from rfl];have q8:=K (atM C w E M first hs Ps h hJ gZ l r hS il hl ak (aU (by decide) (by decide)) (by omega));generalize q3 first l hs (List.replicate l.length 0) 0 r=res at *;clear h hS il hl ak aU;go_enter Tryz.func81,Tryz.ntmps81
  go_wp2_with fail
  go_at_call 99;refine q8.mono ?_;intro e al eN;have cO:=K eN;rcases eN.cases with ⟨v,rfl⟩ | ⟨p,rfl⟩
  ·clear eN;go_wp2;go_ret
   exact cO
  ·clear eN;unfold fI at cO ⊢;go_wp2;exact⟨rfl,cO⟩
 ·rw[show n7 first hs 18 l r=tC first true l.length hs 0 r l from rfl];have q8:=K (agi C w E M first hs Ps h hJ gZ l r true 1 rfl hS il hl ak oD pq FY);generalize tC first true l.length hs 0 r l=res at *;clear h hS il hl ak aU;go_enter Tryz.func81,Tryz.ntmps81
  go_wp2_with fail
  go_at_call 100;refine q8.mono ?_;intro e al eN;have cO:=K eN;rcases eN.cases with ⟨v,rfl⟩ | ⟨p,rfl⟩
  ·clear eN;go_wp2;go_ret
   exact cO
  ·clear eN;unfold fI at cO ⊢;go_wp2;exact⟨rfl,cO⟩
 ·rw[show n7 first hs 19 l r=tC first false l.length hs 0 r l from rfl];have q8:=K (agi C w E M first hs Ps h hJ gZ l r false (-1) rfl hS il hl ak oD pq FY);generalize tC first false l.length hs 0 r l=res at *;clear h hS il hl ak aU;go_enter Tryz.func81,Tryz.ntmps81
  go_wp2_with fail
  go_at_call 100;refine q8.mono ?_;intro e al eN;have cO:=K eN;rcases eN.cases with ⟨v,rfl⟩ | ⟨p,rfl⟩
  ·clear eN;go_wp2;go_ret
   exact cO
  ·clear eN;unfold fI at cO ⊢;go_wp2;exact⟨rfl,cO⟩
 ·rw[show n7 first hs 20 l r=((mQ first (jb (ic first) hs l r).1 (jb (ic first) hs l r).2).1,[bu (mQ first (jb (ic first) hs l r).1 (jb (ic first) hs l r).2).2]) from rfl];have q8:=K (Qk 96 ic Uw (fun _=>GH) O5 C w E M first hs Ps h hJ gZ l r hS il hl ak (aU (by decide) (by decide)) (by omega));have F:=Fp (GH ef) l r hs h.ok hl ak;have zr:(jb (ic first) hs l r).2.length=l.length:=by
   obtain⟨v0,L⟩:=uq ef;rw[F.len L];simp[oj,aU (by decide) (by decide)]
  generalize jb (ic first) hs l r=co at *;have O:=CA ef F.gd.ok F.inl;have Fc:Hid (∀(u:World) (an:Nat->Prop) (v:Value),bZ C u E M first co.1 an->cv an u v co.2->Calls Tryz.prog 78 #[.pointer (some ⟨E,0,none⟩),v] u (pi C u E M first an (mQ first co.1 co.2) hz)):=fun u an v af aw=>OL C u E M first _ an af v _ aw F.inl (by omega) (by omega)
  have eb:=K O.gd.len.1;generalize mQ first co.1 co.2=hI at *;have zS:=K O.inl;clear h hS il hl ak aU F O zr;go_enter Tryz.func81,Tryz.ntmps81
  go_wp2_with fail
  go_at_call 91;refine q8.mono ?_;rintro e w2 (⟨ae,u1,qk,rfl,aJ,af,bz,dg⟩ | ⟨ae,⟨z,rfl,bq⟩,D⟩);rotate_left
  ·have bd:=K (show _∧_∧_ from ⟨bk ae eb,bq,D⟩);clear ae bq D;unfold fI;go_wp2;exact⟨rfl,.inr ⟨bd.1,⟨z,rfl,bd.2.1⟩,bd.2.2⟩⟩
  have PY:=K (Fc w2 qk u1 af dg);have dM:=K bz
  change Hid _ at aJ
  clear ae af bz dg;go_wp2_with fail
  go_at_call 78;refine PY.mono ?_;rintro e w3 (⟨ae,rfl,af,bz⟩ | ⟨ae,⟨z,rfl,bq⟩,D⟩);rotate_left
  ·have bd:=K (show _∧_∧_ from ⟨ae,bq,dM.below.trans D⟩);clear ae bq D;unfold fI;go_wp2;exact⟨rfl,.inr ⟨bd.1,⟨z,rfl,bd.2.1⟩,bd.2.2⟩⟩
  have Fb:=K (vK zS ae af.len.2.2);have ue:=K (Ot (x:=bu hI.2) (af.less aJ) (dM.trans (bz.less aJ)));clear ae af bz;unfold hz;generalize bu hI.2=sO at *;go_wp2_with fail
  go_at_call 97;refine(Fb _).mono ?_;rintro e v ⟨rfl,L⟩;rw[L];clear L;go_wp2;go_ret
  exact ue
 ·rw[show n7 first hs 21 l r=((zz first hs l r 0).1,[(zz first hs l r 0).2]) from rfl];have q8:=K (aqG C w E M first hs Ps h hJ gZ l r hS il hl ak (aU (by decide) (by decide)) (by omega));generalize zz first hs l r 0=hI at *;clear h hS il hl ak aU;go_enter Tryz.func81,Tryz.ntmps81
  go_wp2_with fail
  go_at_call 101;refine q8.mono ?_;rintro e w3 (⟨ae,rfl,af,bz⟩ | ⟨ae,⟨z,rfl,bq⟩,D⟩);rotate_left
  ·have bd:=K (show _∧_∧_ from ⟨ae,bq,D⟩);clear ae bq D;unfold fI;go_wp2;exact⟨rfl,.inr ⟨bd.1,⟨z,rfl,bd.2.1⟩,bd.2.2⟩⟩
  have ue:=K (Ot (x:=hI.2) af bz);clear ae af bz;unfold hz;go_wp2;go_ret
  exact ue
end Go.Proofs.YtcbcenfjigcfkaaGreatDoor
