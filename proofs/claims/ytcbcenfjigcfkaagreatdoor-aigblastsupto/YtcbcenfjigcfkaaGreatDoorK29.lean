import Derived.Test.YtcbcenfjigcfkaaGreatDoorK28
set_option maxRecDepth 100000
set_option maxHeartbeats 40000000
namespace Go.Proofs.YtcbcenfjigcfkaaGreatDoor
open Go.RowKit
def MI (jO J6:Nat->Prop) (w:World) (v:Value) (ms:List (List (List Int))):Prop :=
 ∃a c,v = .slice a ms.length c∧∀(i:Nat) (ws:List (List Int)),ms[i]?=some ws->∃b o b2 hT c2,a=some ⟨b,o,none⟩∧jO b∧jO b2∧w.cell? ⟨b,o+i,none⟩=some (.slice (some ⟨b2,hT,none⟩) ws.length c2)∧∀(k:Nat) (l:List Int),ws[k]?=some l->∃y,w.cell? ⟨b2,hT+k,none⟩=some y∧cv J6 w y l
def aba (C:Nat) (w:World) (E M first:Nat) (Ps mC:Nat->Prop) (res:List Z×List (List (List Int))) (e:Ending) (B:World):Prop :=
 (res.1.length<=1048576∧∃v an,e = .returned v∧(∀b,Ps b->an b)∧bZ C B E M first res.1 an∧f3 C Ps w B∧MI (fun b=>an b∧¬Ps b) (fun b=>an b∧(mC b∨¬Ps b)) B v res.2)∨(1048576<res.1.length∧(∃p,e=fI p∧qG B p 11 0)∧Below C w B)
def nj (mC Ps:Nat->Prop) (w:World) (bo:List kO) (ms:List (List (List Int))):Prop:=∀(k i:Nat) (e:kO) (ws:List (List Int)) (l:List Int),bo[k]?=some e->ms[k]?=some ws->ws[i]?=some l->∃b o n c,w.cell? ⟨e.b,i,none⟩=some (.slice (some ⟨b,o,none⟩) n c)∧(mC b∨¬Ps b)
section
variable {C:Nat} {az w B v:World} {E M first:Nat} {hs:List Z} {Ps an mC:Nat->Prop} {cF n:Nat} {bo:List kO} {ms:List (List (List Int))}
theorem nj.nil:nj mC Ps w [] []:=fun k i e ws l ay=>by simp at ay
theorem nj.keep (h:nj mC Ps w bo ms) (X:∀e,e∈bo->B.heap[e.b]?=w.heap[e.b]?):nj mC Ps B bo ms:=fun k i e ws l ay aw hl=>by
 obtain⟨b,o,n,c,F,O⟩:=h k i e ws l ay aw hl;exact⟨b,o,n,c,(dA (a:=⟨e.b,i,none⟩) (X e (bn ay))).trans F,O⟩
theorem nj.push (h:nj mC Ps w bo ms) (J:i9 C az w E M first hs Ps an cF n bo ms) (D:V w v) {g len cap:Nat} {kM:List Value} (af:w.heap.size<=g) (aY:v.ownsRow w.heap.size 22 1 (.slice (some ⟨g,0,none⟩) len cap) len kM) {ws:List (List Int)} {u:World}
  (hg:∀(i:Nat) (l:List Int),ws[i]?=some l->∃x,kM[i]?=some x∧cv mC u x l) (L:v.setCell ⟨cF,bo.length,none⟩ (.slice (some ⟨g,0,none⟩) len cap)=B):nj mC Ps B (bo++[⟨g,len,cap⟩]) (ms++[ws]):=fun k i e Jn l ay aw hl=>by
 have rG:∀b,pA an cF bo b->b<w.heap.size:=fun b D=>(J.gt.ps b D).1
 have jE:=rG cF (.inr (.inl rfl));have tt:∀b,b≠cF->B.heap[b]?=v.heap[b]?:=fun b cb=>by rw[<-L];exact Below.heap_setCell _ _ _ _ cb
 have aU:=J.len.1;by_cases X:k<bo.length
 ·rw[mS X] at ay;rw[mS (by omega)] at aw;obtain⟨b,o,n,c,F,O⟩:=h k i e Jn l ay aw hl;have qS:=bn ay;exact⟨b,o,n,c,((dA (a:=⟨e.b,i,none⟩) (tt e.b (J.ap.1 e qS).2)).trans (D.cell (p:=⟨e.b,i,none⟩) (rG e.b (.inr (.inr ⟨e,qS,rfl⟩))))).trans F,O⟩
 ·have hB:k=bo.length:=by
   have:=(cr.1 ay).1
   simp at this;omega
  subst hB;rw[lu (aL _),Nat.sub_self] at ay;rw[aU,lu (aL _),Nat.sub_self] at aw;cases ay;cases aw;obtain⟨x,sT,b,o,c,rfl,-,gV,-⟩:=hg i l hl;exact⟨b,o,_,c,(dA (a:=⟨g,i,none⟩) (tt g (by omega))).trans (K7 aY sT).1,.inl gV⟩
theorem nj.store (h:nj mC Ps w bo ms) (J:i9 C az w E M first hs Ps an cF n bo ms) {j i:Nat} {sJ:kO} {hK:List (List Int)} {b o m c:Nat} {l:List Int} (ay:bo[j]?=some sJ) (aw:ms[j]?=some hK) (D:¬Ps b) (L:w.setCell ⟨sJ.b,i,none⟩ (.slice (some ⟨b,o,none⟩) m c)=v) :
  nj mC Ps v bo (ms.set j (hK.set i l)):=fun k aq e Jn pw qq aV hC=>by
 have l9:=J.each j sJ hK ay aw;by_cases Ih:j=k
 ·subst Ih;rw[ay] at qq;cases qq;rw[t6 (cr.1 aw).1] at aV;cases aV;have pp:aq<hK.length:=by have:=(cr.1 hC).1;simpa using this
  obtain⟨eW,jk⟩:=bS pp;by_cases adl:i=aq
  ·subst adl;obtain⟨x,DQ,-,-⟩:=l9.cell jk;exact⟨b,o,m,c,by rw[<-L];exact on (h:=DQ) ..,.inr D⟩
  ·obtain⟨bw,kG,RU,mJ,F,O⟩:=h j aq sJ hK eW ay aw jk;exact⟨bw,kG,RU,mJ,by rw[<-L];exact(oL (h:=fun e=>adl (by injection e)) ..).trans F,O⟩
 ·rw[ve Ih] at aV;obtain⟨bw,kG,RU,mJ,F,O⟩:=h k aq e Jn pw qq aV hC;exact⟨bw,kG,RU,mJ,by rw[<-L];exact(ce _ _ _ _ (fun aS=>Ih (J.ap.2.2 j k sJ e ay qq aS))).trans F,O⟩
theorem i9.done2 (h:i9 C az w E M first hs Ps an cF n bo ms) (ag:bo.length=n) (nt:nj mC Ps w bo ms):MI (fun b=>pA an cF bo b∧¬Ps b) (fun b=>pA an cF bo b∧(mC b∨¬Ps b)) w (.slice (some ⟨cF,0,none⟩) n n) ms:=by
 refine⟨some ⟨cF,0,none⟩,n,by rw[<-h.len.1,ag],fun i ws hi=>?_⟩;obtain⟨e,ay⟩:=bS (l:=bo) (k:=i) (by have:=(cr.1 hi).1;have:=h.len.1;omega);have qS:=bn ay;have l9:=h.each i e ws ay hi;refine⟨cF,0,e.b,0,e.cap,rfl,⟨.inr (.inl rfl),fun aE=>h.ap.2.1 (h.sub _ aE)⟩,⟨.inr (.inr ⟨e,qS,rfl⟩),fun aE=>(h.ap.1 e qS).1 (h.sub _ aE)⟩,by rw[Nat.zero_add,l9.len];exact(h.at_ ay).1,fun k l hl=>?_⟩
 ·obtain⟨x,J,aw,-⟩:=l9.cell hl;obtain⟨b,o,m,c,F,O⟩:=nt i k e ws l ay hi hl;rw[J] at F;cases F;obtain⟨bw,kG,mJ,qq,aW,cw,hY⟩:=aw;simp only[Value.slice.injEq,Option.some.injEq,Addr.mk.injEq] at qq;obtain⟨⟨rfl,rfl,-⟩,rfl,rfl⟩:=qq;exact⟨_,by rw[Nat.zero_add];exact J,b,o,c,rfl,aW,⟨.inl cw,O⟩,hY⟩
end
theorem al1 {α:Type} {a:List α} {l:List α} {j:Nat} {x:α} (ad:a.length=j) (aT:j<l.length):(a++l.drop j).set j x=(a++[x])++l.drop (j+1):=by
 rw[List.set_append_right _ _ (by omega),ad,Nat.sub_self,List.drop_eq_getElem_cons aT,mh];simp
theorem al0 {α:Type} {a:List α} {l:List α} {j:Nat} {x:α} (ad:a.length=j) (J:l[j]?=some x):(a++l.drop j)[j]?=some x:=by
 rw[lu (by omega),ad,Nat.sub_self,vh];exact J
theorem awL (C:Nat) (w:World) (E M first:Nat) (hs:List Z) (Ps:Nat->Prop) (h:bZ C w E M first hs Ps) (ai ab aK:Nat) (ins regs:List (List Int)) (mems:List (List (List Int))) (wl:List (List Int)) (S:dp) (N:aR) (aM:wY w ai E ab aK Ps ins regs mems wl) (mC:Nat->Prop) (QB:∀b,mC b->Ps b) (ani:∃v,w.cell? ⟨ai,4,none⟩=some v∧ro mC w v mems) (gV:eM C w S N) (aG:er N=true) (cR:th w ab S N) (ts:ab<C) (O:N.mems.length<=1048576) (aW:N.wrs.length<=1048576) {a9:List Bool->List (List Nat)} {am:List Bool->List Nat} (kV:xh first hs N mems a9) (ao:∀z,z∈N.wrs->BM first hs N wl am z)
  (vD:∀z,z∈N.wrs->(0<=z.mem∧0<=z.when_∧0<=z.addr∧0<=z.data)∧wl.getD z.addr.toNat []≠[]∧wl.getD z.data.toNat []≠[]) :
  Calls Tryz.prog 54 #[.pointer (some ⟨ai,0,none⟩)] w (aba C w E M first Ps mC (qF first wl N.wrs hs mems)):=by
 have ef:=h.len.2.1;have ajA:Hid (∀(k:Nat) (z:jz),N.wrs[k]?=some z->abv first (lM first wl N.wrs hs mems k).1 (lM first wl N.wrs hs mems k).2 z.mem.toNat ((lM first wl N.wrs hs mems k).2.getD z.mem.toNat []) (wl.getD z.addr.toNat []) (wl.getD z.data.toNat []) (Gg wl z) (nT first (lM first wl N.wrs hs mems k).1 ((lM first wl N.wrs hs mems k).2.getD z.mem.toNat []).length (wl.getD z.addr.toNat []) (Gg wl z)) (qF first wl N.wrs hs mems).1.length):=fun k z Cg=>awG ef aG h.ok kV ao Cg
 have rm:Hid (∀z,z∈N.wrs->(wl.getD z.when_.toNat []).length=1):=fun z F4=>(ao z F4).when_.len
 have y2:=K kV.len;have Ml:Hid (∀(k:Nat) (ws:List (List Int)),mems[k]?=some ws->1<=ws.length∧ws.length<=256):=fun k ws X=>by
  obtain⟨y,aF⟩:=bS (l:=N.mems) (k:=k) (by have:=(cr.1 X).1;have:=kV.len;omega);obtain⟨m1,m2,-,-⟩:=kV.each k y aF;obtain⟨-,qc,GJ⟩:=(q1 aG).mem y (bn aF);rw[iH,X] at m1 m2;simp only[Option.getD_some] at m1 m2;omega
 have cc:=K h;have yX:=K aM;obtain⟨wU,b4,Rf⟩:=ani;have Z1:=K Rf;obtain⟨iR,lf,rfl,-⟩:=Rf;obtain⟨n,ag⟩:=cf (mems.length);have bP:=K ag;rw[<-ag] at b4 Z1;have j3:n<=1048576:=by have:=kV.len;omega
 have h3:w.cell? ⟨ab,4,none⟩=some (.slice S.a4 N.wrs.length S.c4):=cR 4 _ rfl;have b1:=aM.b1;have hU:=K gV.wr;generalize S.a4=a4 at h3 hU;generalize S.c4=c4 at h3;have aae:=K aM.p;obtain⟨ev,eB,fb,em,b8⟩:=aeG;have ke:ev.bytes*n<=281474976710656:=by rw[b8];omega
 have jc:n<=maxLen:=by simp only[maxLen];omega
 have tok:True:=trivial
 change Hid _ at aG vD QB eB fb em
 clear h aM gV cR kV ao b8 ag;go_enter Tryz.func54,Tryz.ntmps54
 go_upto_region 2 with (have _t:=tok;at_make;(refine wpList_make_full _ rfl (.tmp 14) (.tmp 14) 100 rfl w.heap.size 99 ev _ 1 Tryz.underlying100 eB fb em .i64 .i64 (n:Int) (n:Int) n rfl rfl rfl rfl ke jc (aL _) ?_;intro w1 gX ij;have C7:=K (i9.start cc (tw ij) (aL _) (by rw[Xi] at gX;exact gX));clear tok gX ij))
 obtain⟨cF,jE⟩:=cf (w.heap.size);rw[<-jE] at C7;rw[<-jE];clear jE;go_wp2_with fail
 go_loopw [18] (fun aq B=>∃(k:Nat) (bo:List kO),k<=n∧aq = .int .i64 k∧Hid (bo.length=k)∧Hid (nj mC Ps B bo (mems.take k))∧Hid (i9 C w B E M first hs Ps Ps cF n bo (mems.take k))) (fun aq _=>n - (intOf aq).toNat)
 case atStart=>exact⟨0,[],cE _,rfl,rfl,nj.nil,C7⟩
 case round =>
  clear C7;obtain⟨k,bo,X,rfl,CT,PF,Hm⟩:=hrel;by_cases aB:k<n
  ·obtain⟨ah8,Iv⟩:=bS (l:=mems) (k:=k) (by have:=bP.out;omega);have TU:=K Iv;obtain⟨P3,acc,qS,lG⟩:=Z1.out;simp only[Value.slice.injEq] at qS;obtain⟨rfl,-,rfl⟩:=qS;obtain⟨P9,afx,aAD,amg,Wj,sP,yJ⟩:=lG k ah8 Iv;subst amg;have yD:=Hm.kp;have akL:wr.cell? ⟨ai,4,none⟩=some (.slice (some ⟨P9,afx,none⟩) n lf):=(dA (a:=⟨ai,4,none⟩) (yD.block ai aae.1)).trans (by rw[b4]);have ac6:=(dA (a:=⟨P9,afx+k,none⟩) (yD.block P9 (QB P9 Wj))).trans sP;have apC:=yJ.keep (fun b D=>yD.block b (QB b D));obtain⟨sG,k4,ru,rfl,aob,Wl,ac5⟩:=apC;obtain⟨kM,oF,KR,qY,zn⟩:=ql.vals ac5;have FS:=Ml k ah8 Iv;have Y0:Hid (Calls Tryz.prog 82 #[.slice (some ⟨sG,k4,none⟩) kM.length ru] wr fun e B=>∃g cap,e = .returned (.slice (some ⟨g,0,none⟩) kM.length cap)∧B.ownsRow wr.heap.size 22 1 (.slice (some ⟨g,0,none⟩) kM.length cap) kM.length kM∧sv B g∧V wr B):=alE wr sG k4 ru kM (by omega) (by omega) KR qY;rw[<-oF] at ac6;have sB:=K oF;have JZ:=K zn;have fa:(k:Int)<(n:Int):=by omega
   have bM:=bF ((k:Int)+1);generalize rL:kM.length=m at *;clear Iv lG sP yJ yD ac5 oF KR qY zn FS aob Wl;go_wp2_with fail
   go_at_call 82;refine Y0.mono ?_;rintro e w2 ⟨g,cap,rfl,bc,pv,no⟩;have pg:=K (Hm.below no);have As:wr.heap.size<=g:=(bc.lt g rfl).1;obtain⟨mc,adM⟩:=pg.next_ (by rw[CT.out];exact aB);rw[CT.out] at mc adM
   change Hid _ at bc pv no
   clear Y0 akL ac6;go_wp2_with fail
   generalize av:World.setCell w2 _ _=w3;have PK:Hid (i9 C w w3 E M first hs Ps Ps cF n (bo++[⟨g,m,cap⟩]) (mems.take (k+1))):=by
    show i9 _ _ _ _ _ _ _ _ _ _ _ _ _;rw[gM _ k _ TU.out];exact Hm.push (by rw[CT.out];exact aB) no As bc pv sB.symm (fun i l hl=>by obtain⟨x,J,aw⟩:=JZ i l hl;exact⟨x,J,aw.more QB⟩) (by rw[CT.out];exact av)
   have TO:Hid (nj mC Ps w3 (bo++[(⟨g,m,cap⟩:kO)]) (mems.take (k+1))):=by
    show nj _ _ _ _ _;rw[gM _ k _ TU.out];exact PF.push Hm no As bc JZ (by rw[CT.out];exact av)
   have aiJ:Hid ((bo++[(⟨g,m,cap⟩:kO)]).length=k+1):=by show _=_;rw[jw,CT.out];rfl
   clear av mc adM pg Hm PF bc pv no JZ TU sB rL CT;go_wp2;go_roundw
   case measure=>simp[intOf];omega
   exact⟨k+1,_,by omega,by simp,aiJ.out,TO.out,PK⟩
  ·have cQ:¬((k:Int)<(n:Int)):=by omega
   have PI:Hid (i9 C w wr E M first hs Ps Ps cF n bo mems):=by
    have e:=Hm.out;rw[fQ (by have:=bP.out;omega)] at e;exact e
   have aaD:Hid (nj mC Ps wr bo mems):=by
    have e:=PF.out;rw[fQ (by have:=bP.out;omega)] at e;exact e
   have Te:Hid (bo.length=n):=by show _=_;rw[CT.out];omega
   have xk:wr.cell? ⟨ai,1,none⟩=some (.pointer (some ⟨ab,0,none⟩)):=(dA (a:=⟨ai,1,none⟩) (PI.kp.block ai aae.1)).trans b1;have XJ:=(PI.kp.below.cell (p:=⟨ab,4,none⟩) ts).trans h3;clear Hm PF CT cQ;have cQ:¬((k:Int)<(n:Int)):=by omega
   go_wp2_with fail
   go_loopw [41] (fun aq B=>∃(k:Nat) (an:Nat->Prop),k<=N.wrs.length∧aq = .int .i64 k∧Hid (nj mC Ps B bo (lM first wl N.wrs hs mems k).2)∧Hid (i9 C w B E M first (lM first wl N.wrs hs mems k).1 Ps an cF n bo (lM first wl N.wrs hs mems k).2)) (fun aq _=>N.wrs.length - (intOf aq).toNat)
   case atStart=>exact⟨0,Ps,cE _,rfl,aaD.out,PI⟩
   case round =>
    clear PI aaD xk XJ;obtain⟨rM,an,ay2,rfl,PE,C8⟩:=hrel;by_cases sQ:rM<N.wrs.length
    ·obtain⟨z,Cg⟩:=bS sQ;have aa3:=K (bn Cg);obtain⟨⟨iA,jW,l0,s3⟩,O7,LM⟩:=vD z aa3;have F3:=rm z aa3;obtain⟨bG,ck,bQ,gK,cx⟩:=(hU.to C8.kp.below).el Cg;have ik:=ajA rM z Cg;have Av:=ah6 (first:=first) (wl:=wl) (hs:=hs) (ms:=mems) Cg;obtain⟨nS,yK,zt,uG⟩:=z;obtain⟨nS,rfl⟩:=Int.eq_ofNat_of_zero_le iA;obtain⟨yK,rfl⟩:=Int.eq_ofNat_of_zero_le jW;obtain⟨zt,rfl⟩:=Int.eq_ofNat_of_zero_le l0;obtain⟨uG,rfl⟩:=Int.eq_ofNat_of_zero_le s3;dsimp only[Int.toNat_natCast] at O7 LM F3 ik Av;simp only[Gg,Int.toNat_natCast] at O7 LM F3 ik Av;have zo:wl.getD yK []≠[]:=fun e=>by rw[e] at F3;cases F3
     have ad:=Kk O7;have U:=Kk LM;have aw:=Kk zo;obtain⟨h9,aY⟩:∃a,wl.getD yK []=[a]:=List.length_eq_one_iff.1 F3;rw[aY] at aw ik Av;simp only[List.getD_cons_zero] at ik Av;generalize Rx:lM first wl N.wrs hs mems rM=hb at *;generalize yJ:hb.2.getD nS []=hK at *;generalize wl.getD zt []=e9 at *;generalize wl.getD uG []=da at *;obtain⟨ba,jR⟩:=cf (nT first hb.1 hK.length e9 h9);unfold CI at Av;rw[<-jR] at ik Av;have eC:=K ik;have Q7:zt<wl.length:=(cr.1 ad).1;have ay8:uG<wl.length:=(cr.1 U).1;have azd:yK<wl.length:=(cr.1 aw).1
     change Hid _ at Av ad U aw Rx jR O7 LM
     clear F3 ik zo aY iA jW l0 s3 Cg rm;have qS:nS<bo.length:=by have:=(cr.1 eC.at_).1;have:=C8.len.1;omega
     obtain⟨sJ,Dz⟩:=bS qS;have mM:=(C8.each nS sJ hK Dz eC.at_).len;obtain⟨m,vz⟩:=cf (hK.length);have aiK:Hid (sJ.len=m):=by show _=_;rw[<-mM,vz]
     change Hid _ at vz
     clear mM;have c0:wr.cell? ⟨bG,ck+rM*4,none⟩=some (.int .i64 (nS:Int)):=cx 0 _ rfl;have c1:wr.cell? ⟨bG,ck+rM*4+1,none⟩=some (.int .i64 (yK:Int)):=cx 1 _ rfl;have c2:wr.cell? ⟨bG,ck+rM*4+2,none⟩=some (.int .i64 (zt:Int)):=cx 2 _ rfl;have c3:wr.cell? ⟨bG,ck+rM*4+3,none⟩=some (.int .i64 (uG:Int)):=cx 3 _ rfl;subst bQ;have fa:(rM:Int)<(N.wrs.length:Int):=by omega
     have bM:=bF ((rM:Int)+1)
     change Hid _ at Dz
     clear cx;go_upto_region 10 with fail
     generalize kA:World.alloc wr _=eQ;obtain⟨mf,xC⟩:=cf (wr.heap.size);rw[<-xC];have m6:eQ.cell? ⟨mf,0,none⟩=some (.int .i64 (nS:Int)):=by rw[<-kA,xC];exact ja rfl
     have co:eQ.cell? ⟨mf,1,none⟩=some (.int .i64 (yK:Int)):=by rw[<-kA,xC];exact ja rfl
     have hI:eQ.cell? ⟨mf,2,none⟩=some (.int .i64 (zt:Int)):=by rw[<-kA,xC];exact ja rfl
     have lk:eQ.cell? ⟨mf,3,none⟩=some (.int .i64 (uG:Int)):=by rw[<-kA,xC];exact ja rfl
     have z2:Hid (i9 C w eQ E M first hb.1 Ps (cK an mf) cF n bo hb.2):=C8.add (by rw[<-kA];exact(ax _ _).alloc (aL _) _) (by rw[xC];exact aL _) (by rw[<-kA,xC];simp);have zk:=(z2.at_ Dz).1;unfold kO.val at zk;rw[aiK.out] at zk;have BF:Hid (nj mC Ps eQ bo hb.2):=PE.keep (fun e ay=>by rw[<-kA];exact Below.heap_alloc _ _ _ (C8.gt.ps _ (.inr (.inr ⟨e,ay,rfl⟩))).1);have ajk:Hid (∀b,Ps b->cK an mf b):=fun b D=> .inl (C8.sub b D)
     have azi:(nS:Int)<(n:Int):=by have:=Te.out;omega
     clear kA xC c0 c1 c2 c3 C8 PE;go_upto_region 11 with fail
     clear m6 zk;have pb:=K ((yX.keep z2.kp.block).more ajk.out);obtain⟨aAA,WK,DP⟩:=pb.b6 zt e9 ad O7;obtain⟨aAE,WL,apD⟩:=pb.b6 yK [h9] aw (by simp);obtain⟨aAB,RB,aev⟩:=pb.b6 uG da U LM;have aaS:=K DP;have PH:=K aev;obtain⟨MQ,kH,es,rfl,VA,-,-⟩:=DP;obtain⟨HJ,o3,xo,rfl,Ib,ad4,nP⟩:=apD;obtain⟨aBd,Oo,MU,rfl,an1,-,-⟩:=aev;have adV:eQ.cell? ⟨HJ,o3,none⟩=some (.int .i64 h9):=nP 0 h9 rfl;simp only[List.length_singleton] at WL Ib;have a0:=pb.b0;have a5:=pb.b5;obtain⟨kh,adK⟩:=cf (wl.length);rw[<-adK] at a5;have ayW:(zt:Int)<(kh:Int):=by omega
     have ayX:(uG:Int)<(kh:Int):=by omega
     have ayY:(yK:Int)<(kh:Int):=by omega
     obtain⟨la,VX⟩:=cf (e9.length);obtain⟨Oi,VZ⟩:=cf (da.length);have Mk:Hid (∀u,V eQ u->Calls Tryz.prog 83 #[.pointer (some ⟨E,0,none⟩),.int .i64 m,.slice (some ⟨MQ,kH,none⟩) la es,.int .i64 h9] u (gD C u E M first (pA (cK an mf) cF bo) ba)):=fun u bb=>by
      rw[vz.out]
      have:=ae2 C u E M first hb.1 (pA (cK an mf) cF bo) (z2.gt.to bb) hK.length eC.w1.1 eC.w1.2 (.slice (some ⟨MQ,kH,none⟩) la es) e9 h9 (by rw[VX];exact(aaS.more (fun b D=> .inl D)).to (z2.gt.kp bb)) eC.adI.1 eC.onI eC.adI.2
      rw[<-jR.out] at this;exact this
     have ME:=Mk;have aoC:=eC.w1;rw[<-vz.out] at aoC;have aiZ:=K VZ;rw[<-VX] at WK;rw[<-VZ] at RB;have ZZ:Hid (ba.2≠[]):=fun e=>by have zc:ba.2.length=0:=(by rw[e];rfl);have:=eC.li.2;have:=eC.w1.1;omega
     have TM:Hid (∀(B:World),f3 C (pA (cK an mf) cF bo) eQ B->B.cell? ⟨ai,0,none⟩=some (.pointer (some ⟨E,0,none⟩))∧B.cell? ⟨ai,5,none⟩=some (.slice (some ⟨aK,0,none⟩) kh kh)∧B.cell? ⟨mf,1,none⟩=some (.int .i64 (yK:Int))∧B.cell? ⟨mf,2,none⟩=some (.int .i64 (zt:Int))∧B.cell? ⟨aK,zt,none⟩=some (.slice (some ⟨MQ,kH,none⟩) la es)∧B.cell? ⟨aK,yK,none⟩=some (.slice (some ⟨HJ,o3,none⟩) 1 xo)∧B.cell? ⟨HJ,o3,none⟩=some (.int .i64 h9)):=fun B ma =>
      have D:∀b,cK an mf b->B.heap[b]?=eQ.heap[b]?:=fun b D=>ma.block b (.inl D)
      ⟨(dA (a:=⟨ai,0,none⟩) (D ai pb.p.1)).trans a0,(dA (a:=⟨ai,5,none⟩) (D ai pb.p.1)).trans a5,(dA (a:=⟨mf,1,none⟩) (D mf (.inr rfl))).trans co,(dA (a:=⟨mf,2,none⟩) (D mf (.inr rfl))).trans hI,(dA (a:=⟨aK,zt,none⟩) (D aK pb.p.2)).trans WK,(dA (a:=⟨aK,yK,none⟩) (D aK pb.p.2)).trans WL,(dA (a:=⟨HJ,o3,none⟩) (D HJ ad4)).trans adV⟩
     change Hid _ at lk a0 a5 RB
     clear Mk VA Ib ad4 nP an1 adV WK WL co hI VX VZ adK;have ax7:(0:Int)<((1:Nat):Int):=by omega
     refine nW ?_;refine ih (S:=(fun B=>B.cell? ⟨ai,0,none⟩=some (.pointer (some ⟨E,0,none⟩))∧B.cell? ⟨ai,5,none⟩=some (.slice (some ⟨aK,0,none⟩) kh kh)∧B.cell? ⟨mf,1,none⟩=some (.int .i64 (yK:Int))∧B.cell? ⟨mf,2,none⟩=some (.int .i64 (zt:Int))∧B.cell? ⟨aK,zt,none⟩=some (.slice (some ⟨MQ,kH,none⟩) la es)∧B.cell? ⟨aK,yK,none⟩=some (.slice (some ⟨HJ,o3,none⟩) 1 xo)∧B.cell? ⟨HJ,o3,none⟩=some (.int .i64 h9))) (by kernel_rfl) (by exact TM _ (z2.gt.kp (Below.drew (ax _ _)))) (fun ii=>?_);refine R 0 ?_;refine R 1 ?_;refine R 2 ?_;refine R 3 ?_;refine R 4 ?_;refine R 5 ?_;refine R 6 ?_;refine R 7 ?_;refine R 8 ?_;refine R 9 ?_;refine R 10 ?_;refine R 11 ?_;refine R 12 ?_;refine R 13 ?_;refine R 14 ?_;refine R 15 ?_;refine R 16 ?_;refine R 17 ?_;refine R 18 ?_;refine R 19 ?_;refine R 20 ?_;refine R 21 ?_;refine R 22 ?_;refine R 23 ?_;refine rd 24 fun aj W=>?_
     (try simp only[bf,bg,bh]);go_simp;go_at_call 83;refine(ME _ b7).mono ?_;rintro e w3 (⟨ae,aAr,lB,rfl,aJ,af,bz,dg⟩ | ⟨ae,⟨O6,rfl,bq⟩,D⟩);rotate_left
     ·have bd:=K (show _∧_∧_ from ⟨bk ae eC.le1,bq,z2.kp.below.trans (qn z2.gt b7 D)⟩);clear ae bq D;unfold fI;go_wp2_with fail
      refine gN.panic (fun eP f7=>?_);have iO:Hid (eP.defers=[]):=f7;clear f7;go_wp2;exact⟨iO,.inr ⟨bd.1,⟨O6,rfl,bd.2.1⟩,bd.2.2⟩⟩
     have vm:=K (qx z2.gt b7 bz);have JS:=K aJ;have PJ:=K (z2.call aJ af vm);have z1:=K (PJ.word dg ZZ);clear dg;clear ae af bz aJ;go_wp2_with fail
     refine aQ W (by exact TM _ vm) fun kz=>?_
     clear W aj;refine R 25 ?_;refine gn (by kernel_rfl) ?_ _;refine gN.normal ?_;have Ds:=eC.li.2;rw[<-vz.out] at Ds;have CZ:=K Ds;obtain⟨lC,mN,pk,rfl,jt,sR,qX⟩:=z1.out;rw[Ds] at jt z1 ⊢;obtain⟨vp,Vk⟩:=cf (off lB cF bo);have Mr:Hid (∀b,cK an mf b->vp b):=fun b D=>by rw[Vk];exact z2.off_of JS b D
     rw[<-Vk] at PJ sR z1;have JC:Hid (∀b,cK an mf b->w3.heap[b]?=eQ.heap[b]?):=fun b D=>vm.block b (.inl D)
     have aaH:Hid (nj mC Ps w3 bo hb.2):=BF.keep (fun e ay=>vm.block _ (.inr (.inr ⟨e,ay,rfl⟩)));have aaU:=K ((PH.keep JC).more Mr.out);have Px:Hid (vp ai):=Mr ai pb.p.1;have aaj:Hid (vp aK):=Mr aK pb.p.2;have aai:Hid (vp mf):=Mr mf (.inr rfl);have ES:Hid (w3.cell? ⟨ai,0,none⟩=some (.pointer (some ⟨E,0,none⟩))∧w3.cell? ⟨ai,5,none⟩=some (.slice (some ⟨aK,0,none⟩) kh kh)∧w3.cell? ⟨mf,3,none⟩=some (.int .i64 (uG:Int))∧w3.cell? ⟨aK,uG,none⟩=some (.slice (some ⟨aBd,Oo,none⟩) Oi MU)) :=
      ⟨(dA (a:=⟨ai,0,none⟩) (JC ai pb.p.1)).trans a0.out,(dA (a:=⟨ai,5,none⟩) (JC ai pb.p.1)).trans a5.out,(dA (a:=⟨mf,3,none⟩) (JC mf (.inr rfl))).trans lk.out,(dA (a:=⟨aK,uG,none⟩) (JC aK pb.p.2)).trans RB.out⟩
     have axe:Hid (∀b,vp b->pA vp cF bo b):=fun b D=> .inl D
     change Hid _ at qX sR
     clear Ds Vk z2 BF ME TM ZZ aaS PH pb vm JS JC lk a0 a5 RB Mr ii kz;obtain⟨SK,WG⟩:=cf w3;rw[<-WG] at aaU ES qX z1;have TN:Hid (hb.2.set nS hK=hb.2):=by
      apply List.ext_getElem?;intro i;by_cases hi:nS=i
      ·subst hi;rw[t6 (cr.1 eC.at_).1,eC.at_]
      ·rw[ve hi]
     have aa0:Hid (i9 C w w3 E M first (kN first da ba.2 ba.1 hK 0).1 Ps vp cF n bo (hb.2.set nS ((kN first da ba.2 ba.1 hK 0).2++hK.drop 0))):=by
      show i9 _ _ _ _ _ _ _ _ _ _ _ _ _;rw[YF,List.drop_zero,List.nil_append];have e:hb.2.set nS hK=hb.2:=TN.out;rw[e];exact PJ
     have aaG:Hid (nj mC Ps w3 bo (hb.2.set nS ((kN first da ba.2 ba.1 hK 0).2++hK.drop 0))):=by
      show nj _ _ _ _ _;rw[YF,List.drop_zero,List.nil_append,TN.out];exact aaH
     have aaV:Hid (∀b,vp b->w3.heap[b]?=SK.heap[b]?):=fun b D=>by rw[WG]
     clear WG PJ aaH TN;go_wp2_with fail
     go_loopw [77] (fun aq B=>∃(j:Nat) (oS:Nat->Prop),j<=m∧aq = .int .i64 j∧Hid (∀b,vp b->oS b)∧Hid (∀b,vp b->B.heap[b]?=SK.heap[b]?)∧Hid (nj mC Ps B bo (hb.2.set nS ((kN first da ba.2 ba.1 hK j).2++hK.drop j)))∧Hid (i9 C w B E M first (kN first da ba.2 ba.1 hK j).1 Ps oS cF n bo (hb.2.set nS ((kN first da ba.2 ba.1 hK j).2++hK.drop j)))) (fun aq _=>m - (intOf aq).toNat)
     case atStart=>exact⟨0,vp,cE _,rfl,fun _ D=>D,aaV.out,aaG.out,aa0⟩
     case round =>
      clear aa0 aaV aaG;obtain⟨j,oS,aT,rfl,E0,Mj,hO,ov⟩:=hrel;by_cases DC:j<m
      ·obtain⟨q,Rp⟩:=bS (l:=ba.2) (k:=j) (by rw[CZ.out];exact DC);obtain⟨s2,sU⟩:=bS (l:=hK) (k:=j) (by rw[<-vz.out];exact DC);have Vi:=awx (first:=first) (data:=da) (lines:=ba.2) (hs:=ba.1) (ws:=hK) (k:=j) eC.li.2 (by rw[<-vz.out];omega);have KG:j<hK.length:=by rw[<-vz.out];exact DC
       have JM:Hid ((hb.2.set nS ((kN first da ba.2 ba.1 hK j).2++hK.drop j))[nS]?=some ((kN first da ba.2 ba.1 hK j).2++hK.drop j)):=t6 (cr.1 eC.at_).1;have TT:Hid (((kN first da ba.2 ba.1 hK j).2++hK.drop j)[j]?=some s2):=al0 Vi sU;obtain⟨GI,Cf,aew,-⟩:=(ov.each nS sJ _ Dz JM).cell TT.out;have Ni:=(eC.wi s2 (bn sU))
       obtain⟨⟨nl,gF⟩,-⟩:=YE ef eC.lok eC.daI.1 eC.li.1 (fun x J=>(eC.wi x J).1) (fun x J=>(eC.wi x J).2) eC.li.2 j;have We:=awy (first:=first) (data:=da) (hs:=ba.1) Rp sU;have fG:=eC.le2 (j+1);rw[We] at fG;have W0:=gF.inL (eC.li.1 q (bn Rp));have WU:=gF.allIn eC.daI.1;have q0:=gF.allIn Ni.1;have DK:(n8 first (kN first da ba.2 ba.1 hK j).1 q da s2).2.length=da.length:=by
        obtain⟨v0,L⟩:=uq ef;rw[(MV ef q da s2 _ gF.ok W0 WU q0 Ni.2.symm).len L];split <;> simp[oj,Ni.2]
       have ajv:Hid ((n8 first (kN first da ba.2 ba.1 hK j).1 q da s2).2≠[]):=fun e=>by
        rw[e] at DK;exact LM (yc DK.symm)
       have CK:Hid (∀u,V wr u->Calls Tryz.prog 76 #[.pointer (some ⟨E,0,none⟩),.int .i64 q,.slice (some ⟨aBd,Oo,none⟩) Oi MU,GI] u (Fa C u E M first (pA oS cF bo) (n8 first (kN first da ba.2 ba.1 hK j).1 q da s2))):=fun u bb =>
        have jS:=ov.gt.kp bb
        ab7 C u E M first _ (pA oS cF bo) (ov.gt.to bb) q W0 (.slice (some ⟨aBd,Oo,none⟩) Oi MU) GI da s2 (by rw[aiZ.out];exact(((aaU.keep Mj).more E0.out).more (fun b D=> .inl D)).to jS) ((aew.more (fun b D=> .inl D)).to jS) WU q0 Ni.2.symm (by have:=eC.daI.2;omega)
       have CY:=K fG;have bW:=K We;have rj:Hid ((hb.2.set nS ((kN first da ba.2 ba.1 hK j).2++hK.drop j)).set nS (((kN first da ba.2 ba.1 hK j).2++hK.drop j).set j (n8 first (kN first da ba.2 ba.1 hK j).1 q da s2).2)=hb.2.set nS (((kN first da ba.2 ba.1 hK j).2++[(n8 first (kN first da ba.2 ba.1 hK j).1 q da s2).2])++hK.drop (j+1))):=by
        show _=_;rw[List.set_set,al1 Vi KG]
       have aaE:Hid (∀(B:World),(∀b,oS b->B.heap[b]?=wr.heap[b]?)->B.cell? ⟨ai,0,none⟩=some (.pointer (some ⟨E,0,none⟩))∧B.cell? ⟨ai,5,none⟩=some (.slice (some ⟨aK,0,none⟩) kh kh)∧B.cell? ⟨mf,3,none⟩=some (.int .i64 (uG:Int))∧B.cell? ⟨aK,uG,none⟩=some (.slice (some ⟨aBd,Oo,none⟩) Oi MU)∧B.cell? ⟨lC,mN+j,none⟩=some (.int .i64 q)):=fun B ma =>
        have D:∀b,vp b->B.heap[b]?=SK.heap[b]?:=fun b D=>(ma b (E0 b D)).trans (Mj b D)
        ⟨(dA (a:=⟨ai,0,none⟩) (D ai Px)).trans ES.1,(dA (a:=⟨ai,5,none⟩) (D ai Px)).trans ES.2.1,(dA (a:=⟨mf,3,none⟩) (D mf aai)).trans ES.2.2.1,(dA (a:=⟨aK,uG,none⟩) (D aK aaj)).trans ES.2.2.2,(dA (a:=⟨lC,mN+j,none⟩) (D lC sR)).trans (qX j q Rp)⟩
       have Vp:=aaE wr (fun _ _=>rfl);have Mc:Hid (∀b,vp b->sJ.b≠b):=fun b D e=>(ov.ap.1 sJ (bn Dz)).1 (e▸E0 b D)
       obtain⟨sG,k4,ru,rfl,-,-,-⟩:=aew;have FO:(j:Int)<(m:Int):=by omega
       have lg:=bF ((j:Int)+1);generalize an7:n8 first (kN first da ba.2 ba.1 hK j).1 q da s2=kx at *;generalize s2.length=aAC at *;clear an7 Rp sU Vi KG Ni gF We fG W0 WU q0 DK;go_upto_region 15 with fail
       refine nW ?_;refine ih (S:=(fun B=>B.cell? ⟨ai,0,none⟩=some (.pointer (some ⟨E,0,none⟩))∧B.cell? ⟨ai,5,none⟩=some (.slice (some ⟨aK,0,none⟩) kh kh)∧B.cell? ⟨mf,3,none⟩=some (.int .i64 (uG:Int))∧B.cell? ⟨aK,uG,none⟩=some (.slice (some ⟨aBd,Oo,none⟩) Oi MU)∧B.cell? ⟨lC,mN+j,none⟩=some (.int .i64 q))) (by kernel_rfl) (by exact Vp) (fun ii=>?_);refine R 0 ?_;refine R 1 ?_;refine R 2 ?_;refine R 3 ?_;refine R 4 ?_;refine R 5 ?_;refine R 6 ?_;refine R 7 ?_;refine R 8 ?_;refine R 9 ?_;refine R 10 ?_;refine R 11 ?_;refine R 12 ?_;refine R 13 ?_;refine R 14 ?_;refine R 15 ?_;refine R 16 ?_;refine R 17 ?_;refine R 18 ?_;refine R 19 ?_;refine R 20 ?_;refine rd 21 fun aj W=>?_
       (try simp only[bf,bg,bh]);go_simp;refine aQ W (by exact Vp) fun Na=>?_
       clear W aj;refine rd 22 fun aj W=>?_
       (try simp only[bf,bg,bh]);go_simp;go_at_call 76;refine(CK _ b7).mono ?_;rintro e aH ⟨(⟨ae,ah9,Ua,rfl,aJ,af,bz,dg⟩ | ⟨ae,⟨O6,rfl,bq⟩,D⟩),VL⟩;rotate_left
       ·have bd:=K (show _∧_∧_ from ⟨bk ae CY,bq,ov.kp.below.trans (qn ov.gt b7 D)⟩);clear ae bq D VL;unfold fI;go_wp2_with fail
        refine gN.panic (fun eP f7=>?_);have iO:Hid (eP.defers=[]):=f7;clear f7;go_wp2;exact⟨iO,.inr ⟨bd.1,⟨O6,rfl,bd.2.1⟩,bd.2.2⟩⟩
       have vm:=K (qx ov.gt b7 bz);have E7:=K (ov.call aJ af vm);have J1:=K (E7.word dg ajv);obtain⟨y9,Cq,sH,rfl,-,-,-⟩:=J1.out;obtain⟨⟨i4,hold,-,h1⟩,lT⟩:=(show _∧_ from ⟨((E7.each _ _ _ Dz (JM.out)).cell TT.out),aaE aH (fun b D=>vm.block b (.inl D))⟩)
       have Zu:Hid (¬Ps y9):=fun D=>VL y9 Cq _ sH rfl (.inl (ov.sub y9 D))
       clear dg VL
       change Hid _ at aJ
       clear ae af bz;go_wp2_with fail
       refine aQ W (by exact lT) fun kz=>?_
       clear W aj;refine R 23 ?_;refine rd 24 fun aj W=>?_
       (try simp only[bf,bg,bh]);go_simp;refine aQ W (by exact⟨(ce aH ⟨sJ.b,j,none⟩ ⟨ai,0,none⟩ _ (Mc ai Px)).trans lT.1,(ce aH ⟨sJ.b,j,none⟩ ⟨ai,5,none⟩ _ (Mc ai Px)).trans lT.2.1,(ce aH ⟨sJ.b,j,none⟩ ⟨mf,3,none⟩ _ (Mc mf aai)).trans lT.2.2.1,(ce aH ⟨sJ.b,j,none⟩ ⟨aK,uG,none⟩ _ (Mc aK aaj)).trans lT.2.2.2.1,(ce aH ⟨sJ.b,j,none⟩ ⟨lC,mN+j,none⟩ _ (Mc lC sR)).trans lT.2.2.2.2⟩) fun Dr=>?_
       clear W aj;refine gn (by kernel_rfl) ?_ _;refine gN.normal ?_;generalize av:World.setCell aH _ _=dN;have PK:=K (E7.store Dz JM J1 av);have y3:Hid (∀b,vp b->dN.heap[b]?=SK.heap[b]?):=fun b D=>((E7.stored Dz JM av) b (ov.off_of aJ b (E0 b D))).trans ((vm.block b (.inl (E0 b D))).trans (Mj b D))
       have ajo:Hid (∀b,vp b->off Ua cF bo b):=fun b D=>ov.off_of aJ b (E0 b D)
       have TO:Hid (nj mC Ps dN bo (hb.2.set nS ((kN first da ba.2 ba.1 hK (j+1)).2++hK.drop (j+1)))):=by
        have e:=(hO.keep (fun e ay=>vm.block _ (.inr (.inr ⟨e,ay,rfl⟩)))).store E7 Dz JM (i:=j) (l:=kx.2) Zu av;rw[rj.out] at e;show nj _ _ _ _ _;rw[bW.out];exact e
       have ajI:Hid (i9 C w dN E M first (kN first da ba.2 ba.1 hK (j+1)).1 Ps (off Ua cF bo) cF n bo (hb.2.set nS ((kN first da ba.2 ba.1 hK (j+1)).2++hK.drop (j+1)))):=by
        have e:=PK.out;rw[rj.out] at e;rw[bW.out];exact e
       clear av hold h1 E7 PK J1 vm aJ ov hO Zu CK Vp lT JM TT rj Mj E0;go_wp2;go_roundw
       case measure=>simp[intOf];omega
       exact⟨j+1,off Ua cF bo,by omega,by simp,ajo.out,y3.out,TO.out,ajI⟩
      ·have ayS:¬((j:Int)<(m:Int)):=by omega
       have ajH:Hid (i9 C w wr E M first (lM first wl N.wrs hs mems (rM+1)).1 Ps oS cF n bo (lM first wl N.wrs hs mems (rM+1)).2):=by
        show i9 _ _ _ _ _ _ _ _ _ _ _ _ _;have e:=ov.out;rw[List.drop_of_length_le (by have:=vz.out;omega),List.append_nil,ah2 (by rw[CZ.out];omega) (by have:=vz.out;omega)] at e;rw[Av.out];exact e
       have JX:Hid (nj mC Ps wr bo (lM first wl N.wrs hs mems (rM+1)).2):=by
        show nj _ _ _ _ _;have e:=hO.out;rw[List.drop_of_length_le (by have:=vz.out;omega),List.append_nil,ah2 (by rw[CZ.out];omega) (by have:=vz.out;omega)] at e;rw[Av.out];exact e
       clear ov E0 Mj hO;go_wp2;go_roundw
       case measure=>simp[intOf];omega
       exact⟨rM+1,oS,by omega,by simp,JX.out,ajH⟩
    ·have At:¬((rM:Int)<(N.wrs.length:Int)):=by omega
     have aiL:Hid (aba C w E M first Ps mC (qF first wl N.wrs hs mems) (.returned (.slice (some ⟨cF,0,none⟩) n n)) wr):=by
      have e:=C8.out;have ack:=PE.out;have aS:lM first wl N.wrs hs mems rM=qF first wl N.wrs hs mems:=by unfold lM;rw[fQ (by omega)]
      rw[aS] at e ack;obtain⟨sM,oU,yw,-⟩:=e.done Te;exact .inl ⟨oU.len.1,_,_,rfl,sM,oU,yw,e.done2 Te ack⟩
     clear C8 PE;go_wp2;go_ret
     exact aiL
end Go.Proofs.YtcbcenfjigcfkaaGreatDoor
