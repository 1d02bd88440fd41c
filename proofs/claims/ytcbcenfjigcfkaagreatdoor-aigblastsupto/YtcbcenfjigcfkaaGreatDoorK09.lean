import Derived.Test.YtcbcenfjigcfkaaGreatDoorK08
set_option maxRecDepth 100000
set_option maxHeartbeats 40000000
namespace Go.Proofs.YtcbcenfjigcfkaaGreatDoor
open Go.RowKit
structure uk (C:Nat) (az w:World) (E M first:Nat) (hs:List Z) (Ps an:Nat->Prop) (v:Value) (ls:List Int):Prop where
 sub:∀b,Ps b->an b
 gt:bZ C w E M first hs an
 kp:f3 C Ps az w
 wd:cv an w v ls
theorem uk.mk' {C:Nat} {az w:World} {E M first:Nat} {Ps an:Nat->Prop} {v:Value} {res:List Z×List Int} (h:uk C az w E M first res.1 Ps an v res.2):gD C az E M first Ps res (.returned v) w:= .inl ⟨h.gt.len.1,v,an,rfl,h.sub,h.gt,h.kp,h.wd⟩
theorem awH (x:Int) (aI:-9223372036854775808<=x) (F:x<9223372036854775808):wrap64 x=x:=by
 unfold wrap64;omega
theorem afP {k:Nat} (X:k<=31):∃p:Nat,Hid (p=2^k)∧p<=2147483648∧Hid ((2:Int)^k=(p:Int))∧Hid (wrap64 (p:Int)=(p:Int))∧Hid (IntKind.i64.wrap (p:Int)=(p:Int)):=by
 have h:2^k<=2147483648:=q7 (n:=2) (by decide) X;obtain⟨p,aE⟩:=cf (2^k);rw[<-aE] at h;refine⟨p,aE,h,?_,?_,?_⟩
 ·show _=_;rw[aE];simp
 ·clear aE;exact awH _ (by omega) (by omega)
 ·clear aE;exact mj _ (by omega) (by omega)
theorem ara (Ps:Nat->Prop) (w:World) (v:Value) (l:List Int) (L:cv Ps w v l) (up:Bool) (m:Nat) (xn:Int) (H6:xn=if up then (m:Int) else - (m:Int)) (ae:m<=65536) (ag:l.length<=65536):Calls Tryz.prog 105 #[v,.int .i64 xn] w (sD w (py up l m)):=by
 obtain⟨b,o,c,rfl,-,-,ar⟩:=L;exact aq9 w b o c l up m xn H6 ae ag ar
theorem agi (C:Nat) (w:World) (E M first:Nat) (hs:List Z) (Ps:Nat->Prop) (h:bZ C w E M first hs Ps) (hJ gZ:Value) (l r:List Int) (up:Bool) (Jk:Int) (WH:Jk=if up then 1 else -1) (hS:cv Ps w hJ l) (il:cv Ps w gZ r) (hl:bt first hs l) (ak:bt first hs r) (ag:l.length<=32) (yF:0<l.length) (ae:r.length<=32) :
  Calls Tryz.prog 100 #[.pointer (some ⟨E,0,none⟩),hJ,gZ,.int .i64 Jk] w (gD C w E M first Ps (tC first up l.length hs 0 r l)):=by
 have ef:=h.len.2.1;have bR:=K ak;have pf:=K il;have gp:-1<=Jk∧Jk<=1:=by rw[WH];split <;> omega
 have eC:Hid (uk C w w E M first hs Ps Ps hJ l∧bt first hs l):=⟨⟨fun _ D=>D,h,f3.refl _ _ _,hS⟩,hl⟩
 obtain⟨Dd,BE⟩:∃gI,Hid (tC first up l.length hs 0 r l=gI):=⟨_,rfl⟩
 rw[BE.out];have kJ:=K h.ok;obtain⟨b1,iG,c1,rfl,lF,DG,-⟩:=hS;obtain⟨b2,hT,c2,rfl,lU,DH,-⟩:=il;obtain⟨n,bP⟩:∃n,Hid (n=l.length):=⟨_,rfl⟩
 obtain⟨m,gT⟩:∃n,Hid (n=r.length):=⟨_,rfl⟩
 rw[<-bP.out] at ag yF lF BE eC ⊢;rw[<-gT.out] at ae lU pf ⊢;have kP:Hid (l.length=n):=bP.symm
 change Hid _ at WH
 clear h hl ak;go_enter Tryz.func100,Tryz.ntmps100
 go_wp2_with fail
 go_loopw [9,16] (fun eP aq B=>∃(k:Nat) (q:List Z) (aa:List Int) (an:Nat->Prop),k<=m∧aq = .int .i64 k∧Hid (uk C w B E M first q Ps an eP aa)∧Hid (bt first q aa∧aa.length=n∧∃nl,fU first hs q nl)∧Hid (tC first up n q k (r.drop k) aa=Dd)) (fun _ aq _=>m - (intOf aq).toNat)
 case atStart=>exact⟨0,hs,l,Ps,cE _,rfl,eC.1,⟨eC.2,kP.out,0,fU.refl kJ 0⟩,by show _=_;rw[List.drop_zero];exact BE⟩
 case round =>
  obtain⟨k,q,aa,an,X,rfl,g8,zR,ez⟩:=hrel;by_cases NB:k<m
  ·obtain⟨y,aF⟩:=bS (l:=r) (k:=k) (by have:=gT.out;omega);have un:=(pf.to g8.kp).cells aF;obtain⟨kB,ks,nl,gF⟩:=zR.out;have F6:=gF.inL (bR y (bn aF));have RL:=gF.allIn (bR.drop k);have U:r.drop k=y::r.drop (k+1):=by
    have mr:=(cr.1 aF).1;rw[List.drop_eq_getElem_cons mr];rw[ct mr] at aF;rw[Option.some.inj aF]
   have ay:=ez.out;rw[U] at ay;have fa:(k:Int)<(m:Int):=by omega
   have bM:=bF ((k:Int)+1);obtain⟨p,cl,aoZ,n2,zP,GX⟩:=afP (k:=k) (by omega);by_cases oY:n<=p
   ·have anU:(n:Int)<=(p:Int):=by omega
    rw[tC,if_pos (by rw[<-cl.out];exact oY)] at ay;dsimp only at ay;rw[<-U] at ay;have F:=CA ef gF.ok RL;have Fc:=K fun v (L:V wr v)=>OL C v E M first q an (g8.gt.to L) _ _ (((pf.to (g8.kp.trans ((g8.gt.less g8.sub).kp L))).drop k (by omega)).more g8.sub) RL (by rw[U];simp) (by rw[q5];have:=gT.out;omega)
    generalize mQ first q (r.drop k)=co at *;have O:=RT ef aa (bu co.2) co.1 F.gd.ok (F.gd.allIn kB) F.inl.flip;have eb:Hid (co.1.length<=Dd.1.length):=by show _<=_;rw[<-ay];exact O.gd.len.1
    have G3:=K F.inl;have aik:=K (F.gd.allIn kB);have ayF:¬c2 - k=0:=by omega
    have ayG:¬c2=k:=by omega
    change Hid _ at ay ks
    clear F O kB gF F6 RL U aF zR ez;have Fl:=n2.out;have Fm:=zP.out;have Fo:=GX.out;go_wp2_with fail
    go_at_call 78;refine(Fc _ b7).mono ?_;rintro e w2 (⟨h2,rfl,af,bz⟩ | ⟨h2,⟨z,rfl,bq⟩,D⟩)
    ·have Fb:=K (vK G3 h2 af.len.2.2);have PN:=K (ae7 C w2 E M first co.1 an af _ aa (bu co.2) (g8.wd.to bz) aik G3.flip (by rw[ks.out];omega));have JK:=K (g8.kp.trans (bz.less g8.sub));generalize bu co.2=acu at *;clear h2 af bz;unfold hz;go_wp2_with fail
     go_at_call 97;refine(Fb _).mono ?_;rintro e v ⟨rfl,L⟩;rw[L];clear L;go_wp2_with fail
     go_at_call 104;refine PN.mono ?_;intro e w3 eN;have cO:Hid (gD C w E M first Ps Dd e w3):=by
      rw[ay.out] at eN;rcases eN with ⟨a1,v,jO,a2,a3,a4,a5,Ue⟩ | ⟨a1,a2,a3⟩
      ·exact .inl ⟨a1,v,jO,a2,fun b D=>a3 b (g8.sub b D),a4,JK.trans (a5.less g8.sub),Ue⟩
      ·exact .inr ⟨a1,a2,JK.below.trans a3⟩
     rcases eN.cases with ⟨v,rfl⟩ | ⟨p,rfl⟩
     ·clear eN;go_wp2;go_ret
      exact cO
     ·clear eN;unfold fI at cO ⊢;go_wp2;exact⟨rfl,cO⟩
    ·have bd:=K (show _∧_∧_ from ⟨bk h2 eb,bq,g8.kp.below.trans (qn g8.gt b7 D)⟩);clear h2 bq D;unfold fI;go_wp2;exact⟨rfl,.inr ⟨bd.1,⟨z,rfl,bd.2.1⟩,bd.2.2⟩⟩
   ·have anU:¬(n:Int)<=(p:Int):=by omega
    rw[tC,if_neg (by rw[<-cl.out];exact oY),<-cl.out] at ay;dsimp only at ay;have ayZ:k<=4:=by
     refine Nat.le_of_not_lt fun hY=>oY ?_
     have:2^5<=2^k:=q7 (by decide) hY
     rw[<-cl.out] at this;omega
    obtain⟨D1,KI⟩:∃D1:Int,D1=(p:Int)*Jk:=⟨_,rfl⟩
    have BB:Hid (D1=if up then (p:Int) else - (p:Int)):=by
     show _=_;rw[KI,WH.out];split <;> omega
    have azj:-65536<=D1∧D1<=65536:=by rw[BB.out];split <;> omega
    have l8:IntKind.i64.wrap ((p:Int)*Jk)=D1:=by rw[<-KI];exact mj _ (by omega) (by omega)
    have Fk:(p:Int)*Jk=D1:=KI.symm;have aa9:Hid (∀v,V wr v->Calls Tryz.prog 105 #[u9,.int .i64 D1] v (sD v (py up aa p))):=fun v L=>ara an v u9 aa (g8.wd.to (g8.gt.kp L)) up p D1 BB (by omega) (by omega)
    have nS:=afc ef up kB p;have jt:(py up aa p).length=aa.length:=Ol up aa p;have F:=MV ef y (py up aa p) aa q gF.ok F6 nS kB jt;have Az:(n8 first q y (py up aa p) aa).2.length=n:=by
     obtain⟨v0,L⟩:=uq ef;rw[F.len L];split
     ·rw[oj,jt,ks]
     ·rw[oj,ks]
    have YW:Hid (∀(v:World) (jO:Nat->Prop) (wU:Value),bZ C v E M first q jO->cv jO v wU (py up aa p)->cv jO v u9 aa->Calls Tryz.prog 76 #[.pointer (some ⟨E,0,none⟩),.int .i64 y,wU,u9] v (gD C v E M first jO (n8 first q y (py up aa p) aa))):=fun v jO wU af a1 a2=>ab8 C v E M first q jO af y F6 wU u9 _ _ a1 a2 nS kB jt (by rw[jt,ks];omega)
    generalize py up aa p=mm at *;generalize n8 first q y mm aa=co at *;have O:=agh ef up n ag (r.drop (k+1)) (k+1) (by omega) co.2 co.1 F.gd.ok ((gF.trans F.gd).allIn (bR.drop (k+1))) F.inl Az;rw[ay] at O;have eb:=K O.gd.len.1;have zS:Hid (bt first co.1 co.2∧co.2.length=n∧∃nl,fU first hs co.1 nl):=⟨F.inl,Az,_,gF.trans F.gd⟩
    change Hid _ at ay
    clear F O kB ks gF F6 RL U aF zR ez KI nS jt Az oY;have Fl:=n2.out;have Fm:=zP.out;have Fo:=GX.out;go_wp2_with fail
    go_at_call 105;refine(aa9 _ b7).mono ?_;rintro e w2 ⟨g,cap,rfl,bc,no⟩;obtain⟨uz,bz,N3⟩:=Xp g8.gt bc no;have CK:=K (YW w2 _ _ uz N3 ((g8.wd.to bz).more lK));have ym:=K (show _∧_ from ⟨uz,bz⟩);clear bc no uz bz N3;generalize mm.length=ml at *;go_wp2_with fail
    go_at_call 76;refine CK.mono ?_;rintro e w3 (⟨h2,u1,qk,rfl,aJ,af,bz,dg⟩ | ⟨h2,⟨z,rfl,bq⟩,D⟩)
    ·have rm:Hid (uk C w w3 E M first co.1 Ps qk u1 co.2):=⟨fun b D=>aJ b (.inl (g8.sub b D)),af,(g8.kp.trans (ym.2.less g8.sub)).trans (bz.less (fun b D=> .inl (g8.sub b D))),dg⟩
     clear h2 aJ af bz dg ym CK YW aa9 g8;go_wp2;go_roundw
     case measure=>simp[intOf];omega
     exact⟨k+1,_,_,qk,by omega,by simp,rm.out,zS.out,ay⟩
    ·have bd:=K (show _∧_∧_ from ⟨bk h2 eb,bq,(g8.kp.below.trans ym.2.below).trans D⟩);clear h2 bq D;unfold fI;go_wp2;exact⟨rfl,.inr ⟨bd.1,⟨z,rfl,bd.2.1⟩,bd.2.2⟩⟩
  ·have cQ:¬((k:Int)<(m:Int)):=by omega
   have jg:Hid (gD C w E M first Ps Dd (.returned u9) wr):=by
    have e:=ez.out;rw[List.drop_of_length_le (by have:=gT.out;omega)] at e;rw[<-e];exact(show uk C w wr E M first (q,aa).1 Ps an u9 (q,aa).2 from g8.out).mk'
   go_wp2;go_ret
   exact jg
def lq (Ps:Nat->Prop) (u:Value):Nat->Prop:=fun b=>Ps b∨u.ownBlock=some b
theorem qC {Ps:Nat->Prop} {u:Value}:∀b,Ps b->lq Ps u b:=fun _ h=> .inl h
structure rb (C:Nat) (az w:World) (E M first:Nat) (hs:List Z) (Ps:Nat->Prop) (u:Value) (n:Nat) (ls:List Int):Prop where
 gt:bZ C w E M first hs (lq Ps u)
 kp:f3 C Ps az w
 ow:w.ownsRow az.heap.size 3 1 u n (ls.map ip)
 hi:az.heap.size<=w.heap.size∧C<=az.heap.size∧∀b,Ps b->b<az.heap.size
theorem R6 {w B:World} {C e n:Nat} {u:Value} {xs:List Value} (h:w.ownsRow C e 1 u n xs) (D:∀b,u.ownBlock=some b->B.heap[b]?=w.heap[b]?):B.ownsRow C e 1 u n xs:=by
 refine⟨h.1,?_⟩;rcases h.2 with d9 | ⟨oB,cap,hV,rfl,ar,np,oH⟩
 ·exact .inl d9
 ·exact .inr ⟨oB,cap,hV,rfl,ar,(D oB rfl).trans np,oH⟩
section
variable {C:Nat} {az w B:World} {E M first:Nat} {hs bA:List Z} {Ps:Nat->Prop} {u:Value} {n:Nat} {ls:List Int}
theorem rb.start (h:bZ C w E M first hs Ps):rb C w w E M first hs Ps (.slice none 0 0) 0 [] :=
 ⟨h.less (fun b D=>D.elim id (fun e=>by cases e)),f3.refl _ _ _,k8 _ _ _ _,aL _,h.lo.2.2,fun b D=>(h.ps b D).1⟩
theorem rb.call (h:rb C az w E M first hs Ps u n ls) (af:bZ C B E M first bA (lq Ps u)) (X:f3 C (lq Ps u) w B):rb C az B E M first bA Ps u n ls :=
 ⟨af,h.kp.trans (X.less qC),R6 h.ow (fun b D=>X.block b (.inr D)),bL h.hi.1 X.below.size,h.hi.2⟩
theorem rb.alloc (h:rb C az w E M first hs Ps u n ls) (o:Obj):rb C az (w.alloc o) E M first hs Ps u n ls :=
 h.call (h.gt.to ((ax _ _).alloc (aL _) _)) (h.gt.kp ((ax _ _).alloc (aL _) _))
theorem rb.app (h:rb C az w E M first hs Ps u n ls) {g cap m:Nat} {ms:List Int} (aY:B.ownsRow az.heap.size 3 1 (.slice (some ⟨g,0,none⟩) m cap) m ((ls++ms).map ip)) (af:w.grownBy B u.ownBlock) (aO:u.ownBlock=some g∨g=w.heap.size) (aB:g<B.heap.size):rb C az B E M first hs Ps (.slice (some ⟨g,0,none⟩) m cap) m (ls++ms):=by
 have yD:f3 C Ps w B:=⟨jB af h.gt.lo.2.2 (fun k X=>by have:=(h.ow.lt k X).1;have:=h.hi.2.1;omega),fun b D=>af.block b (h.gt.ps b (.inl D)).1 (fun e=>by have:=(h.ow.lt b e.symm).1;have:=h.hi.2.2 b D;omega)⟩
 refine⟨?_,h.kp.trans yD,aY,bL h.hi.1 af.size,h.hi.2⟩;have F:bZ C B E M first hs (lq Ps u):=by
  cases bb:u.ownBlock with
  | none =>
   rw[bb] at af;exact h.gt.to (tw af)
  | some z =>
   rw[bb] at af;exact h.gt.far af (.inr bb)
 obtain⟨u0,rI,uF⟩:=F.gt;obtain⟨u1,iv,WC⟩:=h.gt.gt;refine⟨⟨u0,rI,fun b D e=>?_⟩,F.ok,F.lo,F.len,fun b D=>?_⟩
 ·rcases D with D | D
  ·exact uF b (.inl D) e
  ·cases D;rcases aO with aO | aO
   ·exact uF g (.inr aO) e
   ·have lF:=rI.c1;have oZ:=iv.lt;have azb:=iv.lm;have aoJ:u.ownBlock≠some E:=fun aS=>by have:=(h.gt.ps E (.inr aS)).2.1;exact this rfl
    have H9:B.cell? ⟨E,1,none⟩=w.cell? ⟨E,1,none⟩:=dA (a:=⟨E,1,none⟩) (af.block E oZ (fun aS=>aoJ aS.symm));rw[H9,iv.c1] at lF;cases lF
    have:=(iv.ow.lt g e).2
    omega
 ·rcases D with D | D
  ·exact F.ps b (.inl D)
  ·cases D;refine⟨aB,?_,?_⟩
   ·show g≠E;rcases aO with aO | aO
    ·exact(F.ps g (.inr aO)).2.1
    ·have:=iv.lt;omega
   ·show g≠M;rcases aO with aO | aO
    ·exact(F.ps g (.inr aO)).2.2
    ·have:=iv.lm;omega
theorem rb.len (h:rb C az w E M first hs Ps u n ls):ls.length=n:=by have:=h.ow.1;simp at this;exact this
theorem rb.word {g cap:Nat} (h:rb C az w E M first hs Ps (.slice (some ⟨g,0,none⟩) n cap) n ls):cv (lq Ps (.slice (some ⟨g,0,none⟩) n cap)) w (.slice (some ⟨g,0,none⟩) n cap) ls:=by
 have hl:=h.len;refine⟨g,0,cap,by rw[hl],by have:=R5 h.ow;omega,.inr rfl,fun i x J=>?_⟩;have hi:=(cr.1 J).1;rw[Nat.zero_add,h.ow.cellAt i (by omega),fT,J]
 rfl
end
theorem ac1 (first:Nat) (bit:Int) (l r:List Int) (hs:List Z):lE first bit hs (l++r)=((lE first bit (lE first bit hs l).1 r).1,(lE first bit hs l).2++(lE first bit (lE first bit hs l).1 r).2):=by
 induction l generalizing hs with
 | nil=>simp[lE]
 | cons a l aA=>simp only[List.cons_append,lE,aA]
def vw (first:Nat) (bit:Int) (hs:List Z) (l:List Int) (k:Nat):List Z×List Int:=lE first bit hs (l.take k)
theorem anO {first:Nat} {bit:Int} {hs:List Z} {l:List Int} {k:Nat} {a:Int} (h:l[k]?=some a):vw first bit hs l (k+1)=((bE first (bE first (vw first bit hs l k).1 a (bu bit)).1 a bit).1,(vw first bit hs l k).2++[(bE first (vw first bit hs l k).1 a (bu bit)).2,(bE first (bE first (vw first bit hs l k).1 a (bu bit)).1 a bit).2]):=by
 unfold vw;rw[gM l k a h,ac1]
 rfl
theorem acZ (first:Nat) (bit:Int) (hs:List Z) (l:List Int):(lE first bit hs l).2.length=2*l.length:=by
 induction l generalizing hs with
 | nil=>rfl
 | cons a l aA=>simp only[lE,List.length_cons,aA];omega
theorem anP {first:Nat} (ah:1<=first) {bit:Int} {hs:List Z} {l:List Int} (h:bI first hs) (hl:bt first hs l) (D:bN first hs bit) (k:Nat):(∃n,fU first hs (vw first bit hs l k).1 n)∧(vw first bit hs l k).1.length<=(lE first bit hs l).1.length:=by
 have F:=Kx ah bit (l.take k) hs h (hl.take k) D;refine⟨⟨_,F.gd⟩,?_⟩;have e:lE first bit hs l=lE first bit hs (l.take k++l.drop k):=by rw[List.take_append_drop]
 rw[e,ac1];exact(Kx ah bit (l.drop k) _ F.gd.ok (F.gd.allIn (hl.drop k)) (F.gd.inL D)).gd.len.1
theorem avl {w:World} (x y:Int):∀(j:Nat) (u:Value),[Value.int .i64 x,Value.int .i64 y][j]?=some u->(w.alloc (.cells #[.int .i64 x,.int .i64 y] 3)).cell? ((⟨w.heap.size,0,none⟩:Addr).add j)=some u:=i5 (h8 _ _)
theorem ac0 (C:Nat) (w:World) (E M first:Nat) (hs:List Z) (Ps:Nat->Prop) (h:bZ C w E M first hs Ps) (v:Value) (l:List Int) (bit:Int) (most:Nat) (L:cv Ps w v l) (hl:bt first hs l) (D:bN first hs bit) (cb:0<l.length) (ag:l.length<=65536) (aoD:most<=2*l.length) :
  Calls Tryz.prog 102 #[.pointer (some ⟨E,0,none⟩),v,.int .i64 bit,.int .i64 most] w (gD C w E M first Ps ((lE first bit hs l).1,(lE first bit hs l).2.take most)):=by
 have ef:=h.len.2.1;have Mp:Hid (∀k,_):=fun k=>anP ef h.ok hl D k
 have aD:=K D;have jq:=K L;have eC:=K (rb.start h);obtain⟨ev,eB,fb,em,b8⟩:=sW;have aj8:=K (vK D h.len.1 h.len.2.2);obtain⟨b1,iG,c1,rfl,lF,DG,-⟩:=L;obtain⟨n,bP⟩:∃n,Hid (n=l.length):=⟨_,rfl⟩
 rw[<-bP.out] at ag cb aoD lF jq ⊢
 change Hid _ at hl eB fb em b8
 clear h D;go_enter Tryz.func102,Tryz.ntmps102
 go_wp2_with fail
 go_loopw [9,14] (fun eP aq B=>∃(k:Nat),k<=n∧aq = .int .i64 k∧Hid (rb C w B E M first (vw first bit hs l k).1 Ps eP (2*k) (vw first bit hs l k).2)) (fun _ aq _=>n - (intOf aq).toNat)
 case atStart=>exact⟨0,cE _,rfl,eC⟩
 case round =>
  obtain⟨k,X,rfl,bB⟩:=hrel;by_cases aB:k<n
  ·obtain⟨x,J⟩:=bS (l:=l) (k:=k) (by have:=bP.out;omega);have ru:=(jq.to bB.kp).cells J;obtain⟨⟨nl,gF⟩,-⟩:=Mp k;obtain⟨-,fG⟩:=Mp (k+1);have jE:=anO (first:=first) (bit:=bit) (hs:=hs) J;rw[jE] at fG;dsimp only at fG;generalize aJ:(vw first bit hs l k).1=q at *;have q0:=gF.inL (hl x (bn J));have eE:=gF.inL aD;have F:=j2 ef gF.ok q0 eE.flip;have qf:=K fun v (L:bZ C v E M first q (lq Ps u9))=>sF C v E M first q _ L _ _ q0 eE.flip
   generalize bE first q x (bu bit)=co at *;have O:=j2 ef F.gd.ok (F.gd.inL q0) (F.gd.inL eE);have s7:=K fun v (L:bZ C v E M first co.1 (lq Ps u9))=>sF C v E M first co.1 _ L _ _ (F.gd.inL q0) (F.gd.inL eE)
   generalize bE first co.1 x bit=hI at *;have xg:=K fG;have eb:=K (bL O.gd.len.1 fG);have bW:=K jE;have fa:(k:Int)<(n:Int):=by omega
   have bM:=bF ((k:Int)+1);have cn:2*k+2<=maxLen:=by simp only[maxLen];omega
   have cq:(2*k+2)*8<=140737488355328:=by omega
   have tok:True:=trivial;generalize bu bit=Kb at *;clear fG jE F O q0 eE gF J aJ;go_upto_region 5 with fail
   go_wp2_with fail
   go_at_call 97;refine(aj8 _).mono ?_;rintro e v ⟨rfl,L⟩;rw[L];clear L;go_wp2_with fail
   go_at_call 90;refine(qf _ (bB.gt.to b7)).mono ?_;rintro e w1 (⟨ae,rfl,af,bz⟩ | ⟨ae,⟨z,rfl,bq⟩,D⟩);rotate_left
   ·have bd:=K (show _∧_∧_ from ⟨bk ae eb,bq,bB.kp.below.trans (qn bB.gt b7 D)⟩);clear ae bq D;unfold fI;go_wp2;exact⟨rfl,.inr ⟨bd.1,⟨z,rfl,bd.2.1⟩,bd.2.2⟩⟩
   have kl:=K (bB.call af (qx bB.gt b7 bz));clear ae af bz;unfold hz;go_wp2_with fail
   go_at_call 90;refine(s7 _ (kl.gt.to b7)).mono ?_;rintro e w2 (⟨ae,rfl,af,bz⟩ | ⟨ae,⟨z,rfl,bq⟩,D⟩);rotate_left
   ·have bd:=K (show _∧_∧_ from ⟨bk ae xg,bq,kl.kp.below.trans (qn kl.gt b7 D)⟩);clear ae bq D;unfold fI;go_wp2;exact⟨rfl,.inr ⟨bd.1,⟨z,rfl,bd.2.1⟩,bd.2.2⟩⟩
   have op:=K (kl.call af (qx kl.gt b7 bz));clear ae af bz;unfold hz;have pa:=K (op.alloc (.cells #[.int .i64 co.2,.int .i64 hI.2] 3));have cJ:=pa.hi.1;go_wp2_with (have _t:=tok;at_builtin;(refine wpList_append_lies _ rfl (.tmp 18) (.tmp 28) 22 rfl w.heap.size 3 ev _ 1 8 Tryz.underlying22 eB fb em b8 rfl (by decide) u9 (2*k) _ rfl pa.ow ⟨w2.heap.size,0,none⟩ 2 2 [.int .i64 co.2,.int .i64 hI.2] rfl rfl (avl co.2 hI.2) (by simp[Value.oneCell']) (by decide) cn cq cJ _ rfl ?_;intro g cap al bc br aO cj;have wZ:=K (pa.app (ms:=[co.2,hI.2]) (by rw[g1];exact bc) br aO cj);clear tok bc br aO cj))
   have jn:Hid (rb C w al E M first (vw first bit hs l (k+1)).1 Ps (.slice (some ⟨g,0,none⟩) (2*k+2) cap) (2*(k+1)) (vw first bit hs l (k+1)).2):=by show rb _ _ _ _ _ _ _ _ _ _ _;rw[bW.out];exact wZ
   clear kl op pa wZ bB qf s7;go_wp2;go_roundw
   case measure=>simp[intOf];omega
   exact⟨k+1,by omega,by simp,jn⟩
  ·have cQ:¬((k:Int)<(n:Int)):=by omega
   have hB:k=n:=by omega
   have ez:Hid (vw first bit hs l n=lE first bit hs l):=by show _=_;unfold vw;rw[bP.out,List.take_length]
   obtain⟨g,cap,bb,-,-⟩:=bB.ow.form (by omega);subst bb;have anZ:=R5 bB.ow;have jg:Hid (gD C w E M first Ps ((lE first bit hs l).1,(lE first bit hs l).2.take most) (.returned (.slice (some ⟨g,0,none⟩) most cap)) wr):=by
    have e:=bB.out;rw[hB,ez.out] at e;exact .inl ⟨e.gt.len.1,_,_,rfl,qC,e.gt,e.kp,e.word.take most (by omega)⟩
   have lG:(most:Int)<=(cap:Int):=by omega
   clear hB;go_wp2;go_ret
   exact jg
theorem Xe {first:Nat} (ah:1<=first) (words:Nat) (e9:List Int) (i:Nat) (hs:List Z) (all:List Int) (h:bI first hs) (mZ:bt first hs e9) (ad:bt first hs all):∃n,fU first hs (DX first words e9 i hs all).1 n:=by
 induction i generalizing hs all with
 | zero=>exact⟨0,fU.refl h 0⟩
 | succ i aA =>
  have F:=Kx ah (e9.getD i 0) all hs h ad (KT ah mZ i);obtain⟨n,ag⟩:=aA (lE first (e9.getD i 0) hs all).1 ((lE first (e9.getD i 0) hs all).2.take ((words - 1) / 2^i+1)) F.gd.ok (F.gd.allIn mZ) (F.inl.take _);exact⟨_,F.gd.trans ag⟩
theorem akY (n b words:Nat) (h:¬2^b<words):xl n b words=b:=by
 cases n with
 | zero=>rfl
 | succ n=>rw[xl,if_neg h]
theorem akV {n b words:Nat} (ag:0<n) (h:2^b<words):xl n b words=xl (n - 1) (b+1) words:=by
 obtain⟨m,rfl⟩:∃m,n=m+1:=⟨n - 1,by omega⟩
 rw[xl,if_pos h]
 rfl
theorem ae2 (C:Nat) (w:World) (E M first:Nat) (hs:List Z) (Ps:Nat->Prop) (h:bZ C w E M first hs Ps) (words:Nat) (bT:1<=words) (gp:words<=256) (v:Value) (e9:List Int) (h9:Int) (L:cv Ps w v e9) (hl:bt first hs e9) (kf:bN first hs h9) (ag:e9.length<=64) :
  Calls Tryz.prog 83 #[.pointer (some ⟨E,0,none⟩),.int .i64 words,v,.int .i64 h9] w (gD C w E M first Ps (nT first hs words e9 h9)):=by
 have ef:=h.len.2.1;have L0:=K hl;have jq:=K L;have lz:=K h;obtain⟨Dd,BE⟩:∃gI,Hid (nT first hs words e9 h9=gI):=⟨_,rfl⟩
 rw[BE.out];obtain⟨b1,iG,c1,rfl,lF,DG,-⟩:=L;obtain⟨c,gC⟩:∃n,Hid (n=e9.length):=⟨_,rfl⟩
 rw[<-gC.out] at ag lF jq ⊢
 change Hid _ at kf
 clear h hl;go_enter Tryz.func83,Tryz.ntmps83
 go_wp2_with fail
 go_loopw [9] (fun bw B=>∃(b:Nat),b<=8∧bw = .int .i64 b∧Hid (xl (words - b) b words=rq words)∧w=B) (fun bw _=>9 - (intOf bw).toNat)
 case atStart=>exact⟨0,by omega,rfl,rfl,rfl⟩
 case round =>
  obtain⟨Y,nn,rfl,L4,rfl⟩:=hrel;obtain⟨p,cl,aoZ,n2,zP,GX⟩:=afP (k:=Y) (by omega);by_cases qv:p<words
  ·have NR:(p:Int)<(words:Int):=by omega
   have Vy:Y<8:=by
    refine Nat.lt_of_not_le fun zc=>?_
    have:2^8<=2^Y:=q7 (by decide) zc
    rw[<-cl.out] at this;omega
   have tm:Y<words:=by
    have:Y<2^Y:=Nat.lt_two_pow_self
    rw[<-cl.out] at this;omega
   have Pf:Hid (xl (words - (Y+1)) (Y+1) words=rq words):=by
    have e:=akV (n:=words - Y) (b:=Y) (words:=words) (by omega) (by rw[<-cl.out];exact qv);rw[show words - Y - 1=words - (Y+1) by omega] at e;exact e.symm.trans L4
   have bM:=bF ((Y:Int)+1);have Fl:=n2.out;have Fm:=zP.out;have Fo:=GX.out;go_wp2;go_roundw
   case measure=>simp[intOf];omega
   exact⟨Y+1,by omega,by simp,Pf.out,trivial⟩
  ·have NR:¬(p:Int)<(words:Int):=by omega
   have aM:rq words=Y:=by rw[<-L4.out];exact akY _ _ _ (by rw[<-cl.out];exact qv)
   have Ph:Hid ([h9].length=(words - 1) / 2^Y+1):=by
    show 1=_;rw[Nat.div_eq_of_lt (by rw[<-cl.out];omega)]
   have km:=K BE;unfold nT at km;rw[aM] at km;clear L4 aM cl;by_cases acG:Y<c
   ·have ank:(Y:Int)<(c:Int):=by omega
    have ak:=km.out;unfold IL at ak;rw[if_pos (by rw[<-gC.out];exact acG)] at ak;dsimp only at ak;have F:=CA ef lz.ok (L0.drop Y);have Fc:=K (OL C w E M first hs Ps lz _ _ (jq.drop Y (by omega)) (L0.drop Y) (by rw[q5,<-gC.out];omega) (by rw[q5,<-gC.out];omega));generalize mQ first hs (e9.drop Y)=s1 at *;have O:=j2 ef F.gd.ok (F.gd.inL kf) F.inl.flip;have s7:=K fun v (L:bZ C v E M first s1.1 Ps)=>sF C v E M first s1.1 _ L _ _ (F.gd.inL kf) F.inl.flip
    generalize bE first s1.1 h9 (bu s1.2)=m6 at *;obtain⟨m2,bK⟩:=Xe ef words e9 Y m6.1 [m6.2] O.gd.ok ((F.gd.trans O.gd).allIn L0.out) (bt.cons O.inl bt.nil);rw[ak] at bK;have xg:=K bK.len.1;have eb:=K (bL O.gd.len.1 bK.len.1);have G3:=K F.inl;have Y1:Hid (GO C w w E M first hs Ps):=⟨lz,f3.refl _ _ _⟩
    have w6:Hid (∃nl,fU first hs m6.1 nl):=⟨_,F.gd.trans O.gd⟩
    have ue:=K O.inl;have ayB:¬c1 - Y=0:=by omega
    have ayC:¬c1=Y:=by omega
    change Hid _ at ak
    clear F O bK km qv;have Fl:=n2.out;have Fm:=zP.out;have Fo:=GX.out;go_wp2_with fail
    clear Fl Fm Fo;go_at_call 78;refine Fc.mono ?_;rintro e w1 (⟨ae,rfl,af,bz⟩ | ⟨ae,⟨z,rfl,bq⟩,D⟩);rotate_left
    ·have bd:=K (show _∧_∧_ from ⟨bk ae eb,bq,D⟩);clear ae bq D;unfold fI;go_wp2;exact⟨rfl,.inr ⟨bd.1,⟨z,rfl,bd.2.1⟩,bd.2.2⟩⟩
    have kl:=K (Y1.call af bz);have Fb:=K (vK G3 ae af.len.2.2);clear ae af bz;unfold hz;generalize bu s1.2=ur at *;go_wp2_with fail
    go_at_call 97;refine(Fb _).mono ?_;rintro e v ⟨rfl,L⟩;rw[L];clear L;go_wp2_with fail
    go_at_call 90;refine(s7 _ (kl.gt.to b7)).mono ?_;rintro e w2 (⟨ae,rfl,af,bz⟩ | ⟨ae,⟨z,rfl,bq⟩,D⟩);rotate_left
    ·have bd:=K (show _∧_∧_ from ⟨bk ae xg,bq,kl.kp.below.trans (qn kl.gt b7 D)⟩);clear ae bq D;unfold fI;go_wp2;exact⟨rfl,.inr ⟨bd.1,⟨z,rfl,bd.2.1⟩,bd.2.2⟩⟩
    have op:=K (kl.call af (qx kl.gt b7 bz));clear ae af bz;unfold hz;have JI:=K op.gt;have CX:=K op.kp;clear Y1 kl op s7 Fb Fc;obtain⟨gq,R3⟩:=m6;dsimp only at JI ue ak w6 ⊢;have Ph:Hid ([R3].length=(words - 1) / 2^Y+1):=Ph.out;have My:Hid (∀g,g=w2.heap.size->uk C w (w2.alloc (.cells #[.int .i64 R3] 3)) E M first gq Ps (cK Ps g) (.slice (some ⟨g,0,none⟩) 1 1) [R3]):=fun g af=>by
     subst af;refine⟨lK,JI.add ((ax _ _).alloc (aL _) _) (aL _) (by simp),CX.trans (JI.kp ((ax _ _).alloc (aL _) _)),w2.heap.size,0,1,rfl,aL _,.inr rfl,fun i x J=>?_⟩;cases i with
     | zero=>cases J;exact ja rfl
     | succ i=>simp at J
    obtain⟨g,af⟩:=cf (w2.heap.size);have Mz:=K (My g af);have al8:=bF ((Y:Int) - 1);have Fl:=n2.out;have Fm:=zP.out;have Fo:=GX.out;go_wp2_with fail
    clear Fl Fm Fo;rw[<-af];clear af My;go_loopw [10,11] (fun eP aq B=>∃(i:Nat) (q:List Z) (aa:List Int) (an:Nat->Prop),i<=Y∧aq = .int .i64 ((i:Int) - 1)∧Hid (uk C w B E M first q Ps an eP aa)∧Hid (bt first q aa∧aa.length=(words - 1) / 2^i+1∧∃nl,fU first hs q nl)∧Hid (DX first words e9 i q aa=Dd)) (fun _ aq _=>(intOf aq+1).toNat)
    case atStart=>exact⟨Y,gq,[R3],_,aL _,rfl,Mz.out,⟨bt.cons ue bt.nil,Ph.out,w6⟩,ak⟩
    case round =>
     clear Mz;obtain⟨i,q,aa,an,hi,rfl,g8,zR,ez⟩:=hrel;by_cases KE:0<i
     ·obtain⟨j,aT⟩:∃j,i=j+1:=⟨i - 1,by omega⟩
      obtain⟨kB,ks,nl,gF⟩:=zR.out;have mZ:=gF.allIn L0;obtain⟨d,U⟩:=cf ((words - 1) / 2^j);have zg:(words - 1) / 2^i=d / 2:=by rw[aT,U,Nat.pow_succ,Nat.div_div_eq_div_mul]
      have KA:d<=words - 1:=by rw[U];exact Nat.div_le_self _ _
      rw[zg] at ks;have ay:=ez.out;rw[aT,DX] at ay;try dsimp only at ay
      rw[<-U] at ay;obtain⟨bit,ry⟩:=cf (e9.getD j 0);have ek:bN first q bit:=by rw[ry];exact KT ef mZ j
      rw[<-ry] at ay;obtain⟨d1,FH⟩:=cf (d+1);rw[<-FH] at ay;have F:=Kx ef bit aa q gF.ok kB ek;have oq:Hid (∀v,V wr v->Calls Tryz.prog 102 #[.pointer (some ⟨E,0,none⟩),u10,.int .i64 bit,.int .i64 ((d:Int)+1)] v (gD C v E M first an ((lE first bit q aa).1,(lE first bit q aa).2.take d1))):=fun v L=>by
       rw[show(d:Int)+1=((d1:Nat):Int) by omega];exact ac0 C v E M first q an (g8.gt.to L) u10 aa bit d1 (g8.wd.to (g8.gt.kp L)) kB ek (by omega) (by omega) (by omega)
      have FM:=acZ first bit q aa;generalize lE first bit q aa=co at *;have zS:Hid (bt first co.1 (co.2.take d1)∧(co.2.take d1).length=(words - 1) / 2^j+1∧∃nl,fU first hs co.1 nl):=⟨F.inl.take _,by rw[jx,FM,<-U];omega,_,gF.trans F.gd⟩
      obtain⟨m2,bK⟩:=Xe ef words e9 j co.1 (co.2.take d1) F.gd.ok (F.gd.allIn mZ) (F.inl.take _);rw[ay] at bK;have eb:=K bK.len.1;have Ma:=K ay;have yJ:IntKind.i64.wrap ((words:Int) - 1)=((words - 1:Nat):Int):=by rw[mj _ (by omega) (by omega)];omega
      have Qj:((words - 1:Nat):Int) / (2^j)=(d:Int):=by rw[U];simp
      have al9:=bF ((d:Int)+1);have ama:=bF (d:Int);have yq:((i:Int) - 1)=(j:Int):=by omega
      have HQ:=bF ((j:Int) - 1);have cQ:(0:Int)<=(j:Int):=by omega
      rw[yq];have aop:j<Y:=by omega
      obtain⟨hK,Iw⟩:=cf (words - 1);rw[<-Iw] at yJ Qj;have amd:((words:Int) - 1)=(hK:Int):=by omega
      by_cases VU:j<c
      ·obtain⟨y,aF⟩:=bS (l:=e9) (k:=j) (by have:=gC.out;omega);have un:=(jq.to g8.kp).cells aF;have jJ:bit=y:=by rw[ry,iH,aF];rfl
       have FO:(j:Int)<(c:Int):=by omega
       rw[<-jJ] at un;clear ay F bK kB ks gF mZ ry ek FM U zg hi zR ez aT KE aF jJ yq Iw;go_wp2_with fail
       go_at_call 102;refine(oq _ b7).mono ?_;rintro e f1 (⟨h2,u1,qk,rfl,aJ,af,bz,dg⟩ | ⟨h2,⟨z,rfl,bq⟩,D⟩)
       ·have rm:Hid (uk C w f1 E M first co.1 Ps qk u1 (co.2.take d1)):=⟨fun b D=>aJ b (g8.sub b D),af,g8.kp.trans (bz.less g8.sub),dg⟩
        clear h2 aJ af bz dg oq g8;go_wp2;go_roundw
        case measure=>simp[intOf]
        case rel=>exact⟨j,co.1,_,qk,by omega,by simp,rm.out,zS.out,Ma⟩
       ·have bd:=K (show _∧_∧_ from ⟨bk h2 eb,bq,g8.kp.below.trans D⟩);clear h2 bq D;unfold fI;go_wp2;exact⟨rfl,.inr ⟨bd.1,⟨z,rfl,bd.2.1⟩,bd.2.2⟩⟩
      ·have FO:¬(j:Int)<(c:Int):=by omega
       have i0:bit=0:=by rw[ry,iH,oN (by have:=gC.out;omega)];rfl
       subst i0;clear ay F bK kB ks gF mZ ry ek FM U zg hi zR ez aT KE yq Iw;go_wp2_with fail
       go_at_call 102;refine(oq _ b7).mono ?_;rintro e f1 (⟨h2,u1,qk,rfl,aJ,af,bz,dg⟩ | ⟨h2,⟨z,rfl,bq⟩,D⟩)
       ·have rm:Hid (uk C w f1 E M first co.1 Ps qk u1 (co.2.take d1)):=⟨fun b D=>aJ b (g8.sub b D),af,g8.kp.trans (bz.less g8.sub),dg⟩
        clear h2 aJ af bz dg oq g8;go_wp2;go_roundw
        case measure=>simp[intOf]
        case rel=>exact⟨j,co.1,_,qk,by omega,by simp,rm.out,zS.out,Ma⟩
       ·have bd:=K (show _∧_∧_ from ⟨bk h2 eb,bq,g8.kp.below.trans D⟩);clear h2 bq D;unfold fI;go_wp2;exact⟨rfl,.inr ⟨bd.1,⟨z,rfl,bd.2.1⟩,bd.2.2⟩⟩
     ·have Nw:i=0:=by omega
      subst Nw;have cQ:¬((0:Int)<=((0:Nat):Int) - 1):=by omega
      have jg:Hid (gD C w E M first Ps Dd (.returned u10) wr):=by
       rw[<-ez.out];exact(show uk C w wr E M first (q,aa).1 Ps an u10 (q,aa).2 from g8.out).mk'
      go_wp2;go_ret
      exact jg
   ·have ank:¬(Y:Int)<(c:Int):=by omega
    have ak:=km.out;unfold IL at ak;rw[if_neg (by rw[<-gC.out];exact acG)] at ak;dsimp only at ak;have JI:=K lz;have CX:=K (f3.refl C Ps w);have w6:Hid (∃nl,fU first hs hs nl):=⟨0,fU.refl lz.ok 0⟩
    have ue:=K kf
    change Hid _ at ak
    clear km qv;have My:Hid (∀g,g=w.heap.size->uk C w (w.alloc (.cells #[.int .i64 h9] 3)) E M first hs Ps (cK Ps g) (.slice (some ⟨g,0,none⟩) 1 1) [h9]):=fun g af=>by
     subst af;refine⟨lK,JI.add ((ax _ _).alloc (aL _) _) (aL _) (by simp),CX.trans (JI.kp ((ax _ _).alloc (aL _) _)),w.heap.size,0,1,rfl,aL _,.inr rfl,fun i x J=>?_⟩;cases i with
     | zero=>cases J;exact ja rfl
     | succ i=>simp at J
    obtain⟨g,af⟩:=cf (w.heap.size);have Mz:=K (My g af);have al8:=bF ((Y:Int) - 1);have Fl:=n2.out;have Fm:=zP.out;have Fo:=GX.out;go_wp2_with fail
    clear Fl Fm Fo;rw[<-af];clear af My;go_loopw [10,11] (fun eP aq B=>∃(i:Nat) (q:List Z) (aa:List Int) (an:Nat->Prop),i<=Y∧aq = .int .i64 ((i:Int) - 1)∧Hid (uk C w B E M first q Ps an eP aa)∧Hid (bt first q aa∧aa.length=(words - 1) / 2^i+1∧∃nl,fU first hs q nl)∧Hid (DX first words e9 i q aa=Dd)) (fun _ aq _=>(intOf aq+1).toNat)
    case atStart=>exact⟨Y,hs,[h9],_,aL _,rfl,Mz.out,⟨bt.cons ue bt.nil,Ph.out,w6⟩,ak⟩
    case round =>
     clear Mz;obtain⟨i,q,aa,an,hi,rfl,g8,zR,ez⟩:=hrel;by_cases KE:0<i
     ·obtain⟨j,aT⟩:∃j,i=j+1:=⟨i - 1,by omega⟩
      obtain⟨kB,ks,nl,gF⟩:=zR.out;have mZ:=gF.allIn L0;obtain⟨d,U⟩:=cf ((words - 1) / 2^j);have zg:(words - 1) / 2^i=d / 2:=by rw[aT,U,Nat.pow_succ,Nat.div_div_eq_div_mul]
      have KA:d<=words - 1:=by rw[U];exact Nat.div_le_self _ _
      rw[zg] at ks;have ay:=ez.out;rw[aT,DX] at ay;try dsimp only at ay
      rw[<-U] at ay;obtain⟨bit,ry⟩:=cf (e9.getD j 0);have ek:bN first q bit:=by rw[ry];exact KT ef mZ j
      rw[<-ry] at ay;obtain⟨d1,FH⟩:=cf (d+1);rw[<-FH] at ay;have F:=Kx ef bit aa q gF.ok kB ek;have oq:Hid (∀v,V wr v->Calls Tryz.prog 102 #[.pointer (some ⟨E,0,none⟩),u10,.int .i64 bit,.int .i64 ((d:Int)+1)] v (gD C v E M first an ((lE first bit q aa).1,(lE first bit q aa).2.take d1))):=fun v L=>by
       rw[show(d:Int)+1=((d1:Nat):Int) by omega];exact ac0 C v E M first q an (g8.gt.to L) u10 aa bit d1 (g8.wd.to (g8.gt.kp L)) kB ek (by omega) (by omega) (by omega)
      have FM:=acZ first bit q aa;generalize lE first bit q aa=co at *;have zS:Hid (bt first co.1 (co.2.take d1)∧(co.2.take d1).length=(words - 1) / 2^j+1∧∃nl,fU first hs co.1 nl):=⟨F.inl.take _,by rw[jx,FM,<-U];omega,_,gF.trans F.gd⟩
      obtain⟨m2,bK⟩:=Xe ef words e9 j co.1 (co.2.take d1) F.gd.ok (F.gd.allIn mZ) (F.inl.take _);rw[ay] at bK;have eb:=K bK.len.1;have Ma:=K ay;have yJ:IntKind.i64.wrap ((words:Int) - 1)=((words - 1:Nat):Int):=by rw[mj _ (by omega) (by omega)];omega
      have Qj:((words - 1:Nat):Int) / (2^j)=(d:Int):=by rw[U];simp
      have al9:=bF ((d:Int)+1);have ama:=bF (d:Int);have yq:((i:Int) - 1)=(j:Int):=by omega
      have HQ:=bF ((j:Int) - 1);have cQ:(0:Int)<=(j:Int):=by omega
      rw[yq];have aop:j<Y:=by omega
      obtain⟨hK,Iw⟩:=cf (words - 1);rw[<-Iw] at yJ Qj;have amd:((words:Int) - 1)=(hK:Int):=by omega
      by_cases VU:j<c
      ·obtain⟨y,aF⟩:=bS (l:=e9) (k:=j) (by have:=gC.out;omega);have un:=(jq.to g8.kp).cells aF;have jJ:bit=y:=by rw[ry,iH,aF];rfl
       have FO:(j:Int)<(c:Int):=by omega
       rw[<-jJ] at un;clear ay F bK kB ks gF mZ ry ek FM U zg hi zR ez aT KE aF jJ yq Iw;go_wp2_with fail
       go_at_call 102;refine(oq _ b7).mono ?_;rintro e f1 (⟨h2,u1,qk,rfl,aJ,af,bz,dg⟩ | ⟨h2,⟨z,rfl,bq⟩,D⟩)
       ·have rm:Hid (uk C w f1 E M first co.1 Ps qk u1 (co.2.take d1)):=⟨fun b D=>aJ b (g8.sub b D),af,g8.kp.trans (bz.less g8.sub),dg⟩
        clear h2 aJ af bz dg oq g8;go_wp2;go_roundw
        case measure=>simp[intOf]
        case rel=>exact⟨j,co.1,_,qk,by omega,by simp,rm.out,zS.out,Ma⟩
       ·have bd:=K (show _∧_∧_ from ⟨bk h2 eb,bq,g8.kp.below.trans D⟩);clear h2 bq D;unfold fI;go_wp2;exact⟨rfl,.inr ⟨bd.1,⟨z,rfl,bd.2.1⟩,bd.2.2⟩⟩
      ·have FO:¬(j:Int)<(c:Int):=by omega
       have i0:bit=0:=by rw[ry,iH,oN (by have:=gC.out;omega)];rfl
       subst i0;clear ay F bK kB ks gF mZ ry ek FM U zg hi zR ez aT KE yq Iw;go_wp2_with fail
       go_at_call 102;refine(oq _ b7).mono ?_;rintro e f1 (⟨h2,u1,qk,rfl,aJ,af,bz,dg⟩ | ⟨h2,⟨z,rfl,bq⟩,D⟩)
       ·have rm:Hid (uk C w f1 E M first co.1 Ps qk u1 (co.2.take d1)):=⟨fun b D=>aJ b (g8.sub b D),af,g8.kp.trans (bz.less g8.sub),dg⟩
        clear h2 aJ af bz dg oq g8;go_wp2;go_roundw
        case measure=>simp[intOf]
        case rel=>exact⟨j,co.1,_,qk,by omega,by simp,rm.out,zS.out,Ma⟩
       ·have bd:=K (show _∧_∧_ from ⟨bk h2 eb,bq,g8.kp.below.trans D⟩);clear h2 bq D;unfold fI;go_wp2;exact⟨rfl,.inr ⟨bd.1,⟨z,rfl,bd.2.1⟩,bd.2.2⟩⟩
     ·have Nw:i=0:=by omega
      subst Nw;have cQ:¬((0:Int)<=((0:Nat):Int) - 1):=by omega
      have jg:Hid (gD C w E M first Ps Dd (.returned u10) wr):=by
       rw[<-ez.out];exact(show uk C w wr E M first (q,aa).1 Ps an u10 (q,aa).2 from g8.out).mk'
      go_wp2;go_ret
      exact jg
end Go.Proofs.YtcbcenfjigcfkaaGreatDoor
