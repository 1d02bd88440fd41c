import Derived.Test.YtcbcenfjigcfkaaGreatDoorK41
set_option maxRecDepth 100000
set_option maxHeartbeats 40000000
namespace Go.Proofs.YtcbcenfjigcfkaaGreatDoor
open Go.RowKit
def PM (G:eq) (n:Nat):Prop:=∀(k:Nat) (d:eA),G.lats[k]?=some d->0<=d.next∧d.next<2*(n:Int)
def PW (G:eq) (n:Nat):Prop:=∀(k:Nat) (l:Int),G.outs[k]?=some l->0<=l∧l<2*(n:Int)
theorem arL (Y:Nat) (w:World) (S:jm) (G:eq) (h:iB Y w S G) (aM:Y<=w.heap.size) (hs:G.small) (ad:LQ G) (Au:PM G (1+G.ins.toNat+G.lats.length+G.ands.length)) (Im:PW G (1+G.ins.toNat+G.lats.length+G.ands.length)) (row dB:List Bool) (ik:dB.length=G.lats.length) (gP:Option Addr) (fY:Nat) (nR:cm Y w gP 1 (row.map Ac)) (uR:Value) (yH:iJ w uR dB) :
  Calls Tryz.prog 33 #[.agg (S.cells G),.slice gP row.length fY,uR] w fun e B=>∃vd iW,e = .returned (.tuple #[vd,iW])∧B.ownsRow w.heap.size 4 1 vd G.lats.length ((vI G (l7 G row dB)).map gi)∧B.ownsRow w.heap.size 4 1 iW G.outs.length ((zC G (l7 G row dB)).map gi)∧V w B:=by
 have oF:=acf G row dB;rw[ik] at oF;have GM:Hid (∀B,V w B->Calls Tryz.prog 63 #[.agg (S.cells G),.slice gP row.length fY,uR] B fun e bs=>∃v,e = .returned v∧bs.ownsRow B.heap.size 4 1 v (l7 G row dB).length ((l7 G row dB).map gi)∧V B bs):=by
  intro B aV;rw[oF];exact alU Y B S G (h.to (aV.mono aM)) (bL aM aV.size) hs ad row dB ik gP fY (nR.to (aV.mono aM)) uR (yH.to aV)
 rw[<-oF] at Au Im;obtain⟨am,uh⟩:∃am,l7 G row dB=am:=⟨_,rfl⟩
 rw[uh] at GM Au Im oF ⊢;clear uh;obtain⟨kT,bY,bK,h7,lS⟩:=hs;have sB:Hid (am.length<cd):=by
  show _<_;unfold eq.vars eq.first at lS;simp only[cd];omega
 have Mk:=K Au;have aaa:=K Im;unfold PM at Mk;unfold PW at aaa;unfold jm.cells at *;clear kT bY lS ad oF ik yH Au Im;obtain⟨eE,ek,i1,jU,f0⟩:=IB
 change Hid _ at ek i1 jU f0
 go_enter Tryz.func33,Tryz.ntmps33
 go_upto_region 1 with fail
 generalize av:World.alloc w _=I;have aD:Hid (V w I):=by rw[<-av];exact(ax _ _).alloc (aL _) _
 have a8:w.heap.size<I.heap.size:=by rw[<-av];simp
 have iC:Hid (o9 I w.heap.size S G):=by
  rw[<-av];exact⟨by simp,by simp,by simp,by simp,by simp⟩
 have hU:Hid (iB Y I S G):=h.to (aD.mono aM);have gE:Y<=I.heap.size:=bL aM aD.size;clear av h;clear nR;have gq:=iC.c0;have cy:=iC.c1;have eX:=iC.c2;have fH:=iC.c3;go_wp2_with (go_at_call 63;refine(GM _ aD).mono ?_;rintro e aC ⟨v,rfl,NQ,H5⟩;have fE:=K H5;have xb:=K NQ;clear NQ H5)
 obtain⟨-,fX,gJ,bb,AB⟩:=s0 (g:=gi) xb.out;subst bb;have C4:Hid (cm aC.heap.size aC fX 1 (am.map Ac)):=AB;clear AB gq cy eX fH GM xb;go_loopw [9,11] (fun v aq B=>∃(k:Nat),k<=G.lats.length∧aq = .int .i64 k∧Hid (B.ownsRow aC.heap.size 4 1 v k (((G.lats.take k).map (fun d=>gw am d.next)).map gi))∧Hid (V aC B)) (fun _ aq _=>G.lats.length - (intOf aq).toNat)
 case atStart=>exact⟨0,cE _,rfl,k8 _ _ _ _,ax _ _⟩
 case round =>
  obtain⟨k,X,rfl,a6,au⟩:=hrel;have K9:=(au.cell (p:=⟨w.heap.size,1,none⟩) (bk a8 fE.size)).trans ((fE.cell (p:=⟨w.heap.size,1,none⟩) a8).trans iC.c1);by_cases aB:k<G.lats.length
  ·obtain⟨z,ao⟩:=bS aB;obtain⟨bG,ck,bQ,gK,cx⟩:=hU.l.el ao;have nQ:bG<I.heap.size:=bk gK gE;have c0:wr.cell? ⟨bG,ck+k*2,none⟩=some (.int .i64 z.next):=(au.cell (p:=⟨bG,ck+k*2,none⟩) (bk nQ fE.size)).trans ((fE.cell (p:=⟨bG,ck+k*2,none⟩) nQ).trans (cx 0 _ rfl));rw[bQ] at K9;have bO:=Mk k z ao;have bW:Hid (((G.lats.take (k+1)).map (fun d=>gw am d.next)).map gi=((G.lats.take k).map (fun d=>gw am d.next)).map gi++[.bool (gw am z.next)]):=by
    show _=_;rw[gM _ k z ao,g1,g1];rfl
   have BJ:Hid (Calls Tryz.prog 64 #[.slice fX am.length gJ,.int .i64 z.next] wr fun e B=>e = .returned (.bool (gw am z.next))∧B=wr):=Xg wr fX gJ am (((C4.out).to (au.out)).mono au.size) sB z.next bO;generalize gw am z.next=sG at *;generalize z.next=x at *;have fa:(k:Int)<(G.lats.length:Int):=by omega
   have bM:=bF ((k:Int)+1);have cn:k+1<=maxLen:=by simp only[maxLen];omega
   have cq:(k+1)*1<=140737488355328:=by omega
   have gY:=au.size;have cJ:aC.heap.size<=(wr.alloc (.cells #[.bool sG] 4)).heap.size:=by simp;omega
   clear cx bQ ao gK bO;go_wp2_with fail
   go_at_call 64;refine BJ.mono ?_;rintro e w2 ⟨rfl,rfl⟩;have tok:True:=trivial;go_wp2_with (have _t:=tok;at_builtin;(refine wpList_append_lies _ rfl (.tmp 24) (.tmp 33) 82 rfl aC.heap.size 4 eE _ 1 1 Tryz.underlying82 ek i1 jU f0 rfl (by decide) u9 k _ rfl (a6.alloc _) ⟨w2.heap.size,0,none⟩ 1 1 [.bool sG] rfl rfl (i5 (h8 _ _)) (by simp[Value.oneCell']) (by decide) cn cq cJ _ rfl ?_;intro g cap al bc br kX cj;clear tok))
   have i8:Hid (al.ownsRow aC.heap.size 4 1 (.slice (some ⟨g,0,none⟩) (k+1) cap) (k+1) (((G.lats.take (k+1)).map (fun d=>gw am d.next)).map gi)):=by
    show World.ownsRow _ _ _ _ _ _ _;rw[bW.out];exact bc
   have cV:Hid (V aC al):=us au a6 br;clear bc br kX cj cn cq cJ a6 au bW BJ;go_wp2;go_roundw
   case measure=>simp[intOf];omega
   exact⟨k+1,by omega,by simp,i8.out,cV⟩
  ·have cQ:¬((k:Int)<(G.lats.length:Int)):=by omega
   have yi:Hid (wr.ownsRow aC.heap.size 4 1 u9 G.lats.length ((vI G am).map gi)):=by
    have:=a6.out
    rw[fQ (by omega),show k=G.lats.length by omega] at this;exact this
   clear a6;obtain⟨n5,mK⟩:=cf wr;subst mK;have rk:=K au;have s9:Hid (V I n5):=fE.trans (au.mono fE.size);obtain⟨vd,rL⟩:=cf u9;subst rL;clear au;go_wp2_with fail
   go_loopw [10,12] (fun v aq B=>∃(k:Nat),k<=G.outs.length∧aq = .int .i64 k∧Hid (B.ownsRow n5.heap.size 4 1 v k (((G.outs.take k).map (gw am)).map gi))∧Hid (V n5 B)) (fun _ aq _=>G.outs.length - (intOf aq).toNat)
   case atStart=>exact⟨0,cE _,rfl,k8 _ _ _ _,ax _ _⟩
   case round =>
    obtain⟨k,X,rfl,a6,au⟩:=hrel;have K9:=(au.cell (p:=⟨w.heap.size,3,none⟩) (bk a8 s9.size)).trans ((s9.cell (p:=⟨w.heap.size,3,none⟩) a8).trans iC.c3);by_cases aB:k<G.outs.length
    ·obtain⟨z,ao⟩:=bS aB;obtain⟨bG,ck,bQ,gK,cx⟩:=hU.o.el ao;have nQ:bG<I.heap.size:=bk gK gE;have c0:wr.cell? ⟨bG,ck+k,none⟩=some (.int .i64 z):=(au.cell (p:=⟨bG,ck+k,none⟩) (bk nQ s9.size)).trans ((s9.cell (p:=⟨bG,ck+k,none⟩) nQ).trans (by have:=cx 0 _ rfl;simpa using this));rw[bQ] at K9;have bO:=aaa k z ao;have bW:Hid (((G.outs.take (k+1)).map (gw am)).map gi=((G.outs.take k).map (gw am)).map gi++[.bool (gw am z)]):=by
      show _=_;rw[gM _ k z ao,g1,g1];rfl
     have BJ:Hid (Calls Tryz.prog 64 #[.slice fX am.length gJ,.int .i64 z] wr fun e B=>e = .returned (.bool (gw am z))∧B=wr):=Xg wr fX gJ am ((((C4.to rk).mono rk.size).to (au.out)).mono au.size) sB z bO;generalize gw am z=sG at *;have fa:(k:Int)<(G.outs.length:Int):=by omega
     have bM:=bF ((k:Int)+1);have cn:k+1<=maxLen:=by simp only[maxLen];omega
     have cq:(k+1)*1<=140737488355328:=by omega
     have gY:=au.size;have cJ:n5.heap.size<=(wr.alloc (.cells #[.bool sG] 4)).heap.size:=by simp;omega
     clear cx bQ ao gK bO;go_wp2_with fail
     go_at_call 64;refine BJ.mono ?_;rintro e w2 ⟨rfl,rfl⟩;have tok:True:=trivial;go_wp2_with (have _t:=tok;at_builtin;(refine wpList_append_lies _ rfl (.tmp 42) (.tmp 50) 82 rfl n5.heap.size 4 eE _ 1 1 Tryz.underlying82 ek i1 jU f0 rfl (by decide) u10 k _ rfl (a6.alloc _) ⟨w2.heap.size,0,none⟩ 1 1 [.bool sG] rfl rfl (i5 (h8 _ _)) (by simp[Value.oneCell']) (by decide) cn cq cJ _ rfl ?_;intro g cap al bc br kX cj;clear tok))
     have i8:Hid (al.ownsRow n5.heap.size 4 1 (.slice (some ⟨g,0,none⟩) (k+1) cap) (k+1) (((G.outs.take (k+1)).map (gw am)).map gi)):=by
      show World.ownsRow _ _ _ _ _ _ _;rw[bW.out];exact bc
     have cV:Hid (V n5 al):=us au a6 br;clear bc br kX cj cn cq cJ a6 au bW BJ;go_wp2;go_roundw
     case measure=>simp[intOf];omega
     exact⟨k+1,by omega,by simp,i8.out,cV⟩
    ·have cQ:¬((k:Int)<(G.outs.length:Int)):=by omega
     have Mo:Hid (wr.ownsRow n5.heap.size 4 1 u10 G.outs.length ((zC G am).map gi)):=by
      have:=a6.out
      rw[fQ (by omega),show k=G.outs.length by omega] at this;exact this
     clear a6;go_wp2;refine bodyPost_ret (v:= .tuple #[vd,u10]) (by simp[results,Tryz.results33,go_sem]) rfl ?_;have aw:w.heap.size<=aC.heap.size:=bL aD.size fE.size;exact⟨_,_,rfl,xN (mx yi au) aw,xN Mo (bL aw rk.size),aD.trans ((s9.trans (au.mono s9.size)).mono aD.size)⟩
def m4 {α:Type} (nd:List Bool) (xs:List α):List α:=(xs.zip nd).filterMap fun x=>if x.2 then some x.1 else none
theorem aeM {α:Type} (nd:List Bool):m4 nd ([]:List α)=[]:=rfl
theorem KX {α:Type} (b:Bool) (nd:List Bool) (x:α) (xs:List α):m4 (b::nd) (x::xs)=if b then x::m4 nd xs else m4 nd xs:=by
 unfold m4;rw[List.zip_cons_cons,List.filterMap_cons];cases b <;> rfl
theorem atR (b:Bool) (nd:List Bool) (i:Nat):g6 (b::nd) (i+1)=g6 nd i+(if b then 1 else 0):=by
 unfold g6;rw[List.take_succ_cons,List.count_cons];cases b <;> simp
theorem aeN {α:Type} (nd:List Bool) (xs:List α) (x:α) (b:Bool) (h:nd[xs.length]?=some b):m4 nd (xs++[x])=m4 nd xs++(if b then [x] else []):=by
 induction xs generalizing nd with
 | nil =>
  cases nd with
  | nil=>simp at h
  | cons c nd =>
   have:c=b:=by simpa using h
   subst this;show m4 (c::nd) [x]=_;rw[KX,aeM,aeM];cases c <;> simp
 | cons y ol aA =>
  cases nd with
  | nil=>simp at h
  | cons c nd =>
   rw[List.cons_append,KX,KX,aA nd (by simpa using h)];cases c <;> simp
theorem aqb {α:Type} (nd:List Bool) (xs:List α) (i:Nat) (hi:i<xs.length) (h:nd[i]?=some true):(m4 nd xs)[g6 nd i]?=xs[i]?:=by
 induction xs generalizing nd i with
 | nil=>simp at hi
 | cons y ol aA =>
  cases nd with
  | nil=>simp at h
  | cons c nd =>
   cases i with
   | zero =>
    have:c=true:=by simpa using h
    subst this;rw[KX];simp[g6]
   | succ i =>
    rw[KX,atR]
    have:=aA nd i (by simpa using hi) (by simpa using h)
    cases c <;> simpa using this
theorem aqa {α:Type} (nd:List Bool) (A dB:List α) (h:∀v,v<A.length->nd[v]?=some true):m4 nd (A++dB)=A++m4 (nd.drop A.length) dB:=by
 induction A generalizing nd with
 | nil=>simp
 | cons y ol aA =>
  cases nd with
  | nil=>have:=h 0 (by simp);simp at this
  | cons c nd =>
   have:c=true:=by have:=h 0 (by simp);simpa using this
   subst this;rw[List.cons_append,KX,aA nd (fun v L=>by have:=h (v+1) (by simpa using L);simpa using this)];simp
theorem aqO (bm:Nat->Nat) (l:Int) (_:0<=l):(je bm l / 2).toNat=bm (l.toNat / 2)∧je bm l%2=l%2:=by
 unfold je;omega
theorem RS (nd:List Bool) (v:List Bool) (l:Int) (aI:0<=l) (F:l.toNat / 2<v.length) (O:jG nd (l.toNat / 2)):gw (m4 nd v) (je (g6 nd) l)=gw v l:=by
 obtain⟨bp,aS⟩:=aqO (g6 nd) l aI;unfold gw;rw[bp,aS,aqb nd v _ F O,show(l / 2).toNat=l.toNat / 2 by omega]
theorem Sd (nd:List Bool) (a b:Nat):g6 nd (a+b)=g6 nd a+g6 (nd.drop a) b:=by
 unfold g6;rw[List.take_add,List.count_append]
theorem atV (nd:List Bool) {a b:Nat} (h:a<=b):g6 nd a<=g6 nd b:=by
 obtain⟨c,rfl⟩:=Nat.exists_eq_add_of_le h;rw[Sd];omega
theorem OB (nd:List Bool) (v:Nat):g6 nd v<=v:=by
 unfold g6
 have:=List.count_le_length (a:=true) (l:=nd.take v)
 have O:(nd.take v).length<=v:=by rw[jx];omega
 omega
theorem atT (nd:List Bool) (m:Nat) (h:∀v,v<m->nd[v]?=some true):g6 nd m=m:=by
 induction m with
 | zero=>rfl
 | succ m aA =>
  rw[Se (h m (by omega)),aA (fun v L=>h v (by omega))]
  rfl
theorem RQ (nd:List Bool) (l:Int) (_:0<=l) {m:Nat} (F:l.toNat / 2<m) (O:jG nd (l.toNat / 2)):0<=je (g6 nd) l∧je (g6 nd) l<2*(g6 nd m:Int):=by
 have e:=Se O
 have:=atV nd (a:=l.toNat / 2+1) (b:=m) (by omega)
 simp at e;unfold je;omega
section
variable {G:eq} {ni n:Nat} {T:Nat->Prop} {nd:List Bool}
theorem aqc (hF:lc G ni n) (eu:lv G ni n T [] (nd,[])) (v0:List Bool) (L:v0.length=jC G) (k:Nat) (X:k<=G.ands.length) :
  iS (m4 nd v0) (jd (g6 nd) (nd.drop (jC G)) G.ands k)=m4 nd (iS v0 (G.ands.take k)):=by
 have hl:nd.length=n:=eu.len;have O:=hF.all
 induction k with
 | zero=>simp[jd,iS]
 | succ k aA =>
  obtain⟨d,U⟩:=bS (l:=G.ands) (k:=k) (by omega);obtain⟨b,D⟩:=bS (l:=nd) (k:=jC G+k) (by omega);have xu:(nd.drop (jC G))[k]?=some b:=by rw[vh];exact D
  have bO:=hF.ands k d U;have aU:(iS v0 (G.ands.take k)).length=jC G+k:=by rw[P5,L,jx];omega
  rw[W5 _ _ _ k d b U xu,gM _ k _ U,MP,aeN nd _ _ b (by rw[aU];exact D),<-aA (by omega)];cases b
  ·simp
  ·have Cc:(D3 G)[k]?=some (d.x.toNat / 2,d.y.toNat / 2):=by unfold D3;rw[fT,U];rfl
   rcases eu.gate k _ _ Cc D with h | h | ⟨J,aF⟩
   ·cases h
   ·cases h
   ·simp only[if_true];rw[MP,aA (by omega)];rw[RS nd _ d.x bO.1.1 (by omega) J,RS nd _ d.y bO.2.1 (by omega) aF]
theorem aqd (hF:lc G ni n) (eu:lv G ni n T [] (nd,[])) (row dB:List Bool) (ik:dB.length=G.lats.length) :
  l7 (kg nd G) row (m4 (nd.drop (1+ni)) dB)=m4 nd (l7 G row dB):=by
 have hi:G.ins.toNat=ni:=by rw[hF.ins];rfl
 have gV:([false]++sV G.ins.toNat row).length=1+ni:=by rw[jw,aeC,hi];rfl
 have L:([false]++sV G.ins.toNat row++dB).length=jC G:=by rw[jw,gV,ik,hF.first]
 have h:=aqc hF eu _ L G.ands.length (aL _);rw[fQ (aL _),aqa nd _ dB (fun v h=>by rw[gV] at h;exact eu.ins v (by omega)),gV] at h;exact h
theorem aeO (bm:Nat->Nat) (jl:List Bool) (lats:List eA) (k:Nat) (X:k<=lats.length) (hl:lats.length<=jl.length) {α:Type} (f g:eA->α) (h:∀(i:Nat) (d:eA),lats[i]?=some d->jl[i]?=some true->f ⟨je bm d.next,d.init⟩=g d):(i2 bm jl lats k).map f=m4 jl ((lats.take k).map g):=by
 induction k with
 | zero=>simp[i2,m4]
 | succ k aA =>
  obtain⟨d,U⟩:=bS (l:=lats) (k:=k) (by omega);obtain⟨b,D⟩:=bS (l:=jl) (k:=k) (by omega);rw[aeQ _ _ _ k d b U D,gM _ k _ U,g1,g1,List.map_singleton,aeN _ _ _ b (by rw[lb,jx,Nat.min_eq_left (by omega)];exact D),aA (by omega)];cases b
  ·simp
  ·simp[h k d U D]
theorem aqf (hF:lc G ni n) (eu:lv G ni n T [] (nd,[])) (v:List Bool) (L:v.length=n):vI (kg nd G) (m4 nd v)=m4 (nd.drop (1+ni)) (vI G v):=by
 have hi:G.ins.toNat=ni:=by rw[hF.ins];rfl
 have hl:nd.length=n:=eu.len;have F:=hF.first;have O:=hF.all
 show(i2 (g6 nd) (nd.drop (1+G.ins.toNat)) G.lats G.lats.length).map (fun d=>gw (m4 nd v) d.next)=m4 (nd.drop (1+ni)) (G.lats.map fun d=>gw v d.next)
 rw[hi,aeO (g6 nd) (nd.drop (1+ni)) G.lats G.lats.length (aL _) (by rw[q5];omega) (fun d=>gw (m4 nd v) d.next) (fun d=>gw v d.next),fQ (aL _)];intro i d U kf;rw[vh] at kf;have bO:=hF.lats d (bn U);have jE:(Co G)[i]?=some (d.next.toNat / 2):=by unfold Co;rw[fT,U];rfl
 rcases eu.latch i _ jE kf with h | h | h
 ·cases h
 ·cases h
 ·exact RS nd v d.next bO.1 (by omega) h
theorem aqe (hF:lc G ni n) (eu:lv G ni n T [] (nd,[])):tu (kg nd G)=m4 (nd.drop (1+ni)) (tu G):=by
 have hi:G.ins.toNat=ni:=by rw[hF.ins];rfl
 have hl:nd.length=n:=eu.len;have F:=hF.first;have O:=hF.all
 show(i2 (g6 nd) (nd.drop (1+G.ins.toNat)) G.lats G.lats.length).map eA.init=m4 (nd.drop (1+ni)) (G.lats.map eA.init)
 rw[hi,aeO (g6 nd) (nd.drop (1+ni)) G.lats G.lats.length (aL _) (by rw[q5];omega) eA.init eA.init,fQ (aL _)];intro i d U kf
 rfl
theorem aqg (hF:lc G ni n) (_:lv G ni n T [] (nd,[])) (ak:∀r,r∈zE G->jG nd r) (v:List Bool) (L:v.length=n):zC (kg nd G) (m4 nd v)=zC G v:=by
 show(G.outs.map (je (g6 nd))).map (gw (m4 nd v))=G.outs.map (gw v)
 rw[List.map_map];refine o8 (fun z ao=>?_);have bO:=hF.outs z ao;exact RS nd v z bO.1 (by omega) (ak _ (i6.2 ⟨z,ao,rfl⟩))
theorem alT (hF:lc G ni n) (row dB:List Bool) (ik:dB.length=G.lats.length):(l7 G row dB).length=n:=by
 have F:=hF.first;have O:=hF.all;have hi:G.ins.toNat=ni:=by rw[hF.ins];rfl
 rw[acf,ik,hi];omega
theorem aqi (hF:lc G ni n) (eu:lv G ni n T [] (nd,[])) (ak:∀r,r∈zE G->jG nd r) (j6:List (List Bool)) (dB:List Bool) (ik:dB.length=G.lats.length) :
  runN (kg nd G) j6 (m4 (nd.drop (1+ni)) dB)=runN G j6 dB:=by
 induction j6 generalizing dB with
 | nil=>rfl
 | cons r t aA =>
  have L:=alT hF r dB ik;simp only[runN];rw[aqd hF eu r dB ik,aqg hF eu ak _ L,aqf hF eu _ L,aA _ (by unfold vI;simp)]
theorem aqh (hF:lc G ni n) (eu:lv G ni n T [] (nd,[])) (ak:∀r,r∈zE G->jG nd r) (j6:List (List Bool)) :
  runN (kg nd G) j6 (tu (kg nd G))=runN G j6 (tu G):=by
 rw[aqe hF eu];exact aqi hF eu ak j6 _ (by unfold tu;simp)
theorem aeT (hF:lc G ni n) (eu:lv G ni n T [] (nd,[])):(kg nd G).lats.length=g6 (nd.drop (1+ni)) G.lats.length∧jC (kg nd G)=g6 nd (jC G):=by
 have hi:G.ins.toNat=ni:=by rw[hF.ins];rfl
 have hl:nd.length=n:=eu.len;have F:=hF.first;have O:=hF.all;have bp:(kg nd G).lats.length=g6 (nd.drop (1+ni)) G.lats.length:=by
  show(i2 (g6 nd) (nd.drop (1+G.ins.toNat)) G.lats G.lats.length).length=_
  rw[aeP,W6 _ _ _ _ (by rw[jx,q5,hi];omega),hi];unfold g6;rw[List.take_take,Nat.min_self]
 refine⟨bp,?_⟩;show 1+G.ins.toNat+(kg nd G).lats.length=_;rw[bp,F,hi,Sd nd (1+ni) G.lats.length,atT nd (1+ni) (fun v L=>eu.ins v (by omega))]
theorem aqk (hF:lc G ni n) (eu:lv G ni n T [] (nd,[])):jC (kg nd G)+(kg nd G).ands.length=g6 nd n:=by
 have hl:nd.length=n:=eu.len;have O:=hF.all;have bp:(kg nd G).ands.length=g6 (nd.drop (jC G)) G.ands.length:=by
  show(jd (g6 nd) (nd.drop (jC G)) G.ands G.ands.length).length=_
  rw[RN _ _ _ _ (by rw[q5];omega)]
  rfl
 rw[bp,(aeT hF eu).2,<-Sd,O]
theorem aqj (bm:Nat->Nat) (bx:List Bool) (ands:List Z) (k:Nat) (X:k<=ands.length) (hl:bx.length=ands.length) (j:Nat) (BR:Z) (h:(jd bm bx ands k)[j]?=some BR):∃i d,ands[i]?=some d∧bx[i]?=some true∧j=g6 bx i∧BR=⟨je bm d.x,je bm d.y⟩:=by
 induction k with
 | zero=>simp[jd] at h
 | succ k aA =>
  obtain⟨d,U⟩:=bS (l:=ands) (k:=k) (by omega);obtain⟨b,D⟩:=bS (l:=bx) (k:=k) (by omega);rw[W5 _ _ _ k d b U D] at h;have aU:(jd bm bx ands k).length=g6 bx k:=RN bm bx ands k hl;by_cases aT:j<(jd bm bx ands k).length
  ·rw[mS aT] at h;exact aA (by omega) h
  ·rw[lu (by omega)] at h;cases b
   ·simp at h
   ·have aI:=(cr.1 h).1;simp at aI;have ko:j - (jd bm bx ands k).length=0:=by omega
    rw[ko] at h;refine⟨k,d,U,D,by omega,?_⟩;simpa using h.symm
theorem W7 (hF:lc G ni n) (eu:lv G ni n T [] (nd,[])) (ak:∀r,r∈zE G->jG nd r):lc (kg nd G) ni (g6 nd n):=by
 have hi:G.ins.toNat=ni:=by rw[hF.ins];rfl
 have hl:nd.length=n:=eu.len;have F:=hF.first;have O:=hF.all;have ah:=aeT hF eu;refine⟨hF.ins,?_,aqk hF eu,?_,?_,?_,?_,?_,?_⟩
 ·show 1+G.ins.toNat+(kg nd G).lats.length=_;rw[hi]
 ·have:=OB nd n;have:=hF.le;omega
 ·have:=OB (nd.drop (1+ni)) G.lats.length
  have:=hF.ll
  omega
 ·show(G.outs.map _).length<=60000
  rw[lb];exact hF.lo
 ·intro j BR aT;obtain⟨i,d,U,kf,rfl,rfl⟩:=aqj _ _ _ _ (aL _) (by rw[q5];omega) j BR aT;rw[vh] at kf;have bO:=hF.ands i d U;have Cc:(D3 G)[i]?=some (d.x.toNat / 2,d.y.toNat / 2):=by unfold D3;rw[fT,U];rfl
  rcases eu.gate i _ _ Cc kf with h | h | ⟨J,aF⟩
  ·cases h
  ·cases h
  ·rw[ah.2,<-Sd];exact⟨RQ nd d.x bO.1.1 (by omega) J,RQ nd d.y bO.2.1 (by omega) aF⟩
 ·intro z ao;have AD:z∈i2 (g6 nd) (nd.drop (1+G.ins.toNat)) G.lats G.lats.length:=ao;rw[hi] at AD;have jE:∀YJ,YJ∈i2 (g6 nd) (nd.drop (1+ni)) G.lats G.lats.length->∃(i:Nat) (d:eA),G.lats[i]?=some d∧nd[1+ni+i]?=some true∧YJ=⟨je (g6 nd) d.next,d.init⟩:=by
   intro YJ AD;unfold i2 at AD;obtain⟨⟨d,b⟩,aE,aJ⟩:=List.mem_filterMap.1 AD;have aE:=su aE;obtain⟨i,yC⟩:=List.mem_iff_getElem?.1 aE;rw[List.getElem?_zip_eq_some] at yC;obtain⟨ad,D⟩:=yC;rw[vh] at D;cases b
   ·simp at aJ
   ·exact⟨i,d,ad,D,by simpa using aJ.symm⟩
  obtain⟨i,d,U,kf,rfl⟩:=jE z AD;have bO:=hF.lats d (bn U);have j3:(Co G)[i]?=some (d.next.toNat / 2):=by unfold Co;rw[fT,U];rfl
  rcases eu.latch i _ j3 kf with h | h | h
  ·cases h
  ·cases h
  ·exact RQ nd d.next bO.1 (by omega) h
 ·intro z ao;obtain⟨y,aF,rfl⟩:=i6.1 ao;have bO:=hF.outs y aF;exact RQ nd y bO.1 (by omega) (ak _ (i6.2 ⟨y,aF,rfl⟩))
theorem atS (h:∀v,jG nd v->v<=ni) (m:Nat):g6 nd m<=1+ni∧g6 nd m<=m:=by
 refine⟨?_,OB nd m⟩
 induction m with
 | zero=>exact cE _
 | succ m aA =>
  cases D:nd[m]? with
  | none =>
   have ae:=List.getElem?_eq_none_iff.1 D;have e:g6 nd (m+1)=g6 nd m:=by
    unfold g6;rw[fQ (by omega),fQ (by omega)]
   omega
  | some b =>
   rw[Se D];cases b
   ·simpa using aA
   ·have:=h m D
    have:=OB nd m
    simp;omega
end
def GL (N:aR) (G:eq) (c:Int):Prop:=(c=0∧h4 N.regs+ha N.mems<=6000∧(∃n,lc G (hH N.ins) n∧n<=60000)∧∀j6:List (List Nat),runN G (j6.map fun l=>iE l N.ins) (tu G)=(tB N j6 (zv N)).map fun l=>iE l (pD N N.outs))∨(c=11∧(6000<h4 N.regs+ha N.mems∨60000<ki N N.outs∨54000<Gc N))
theorem Qn {G:eq} {ni n:Nat} (h:lc G ni n):G.vars=(n:Int):=by
 have F:=h.first;have O:=h.all;have aW:=h.ins;unfold eq.vars eq.first;unfold jC at F O;omega
section
variable {Y:Nat} {w:World} {S:dp} {N:aR} {need:List Bool} (aO:eM Y w S N) (aG:er N=true) (gB:lR N need)
theorem abR (aO:eM Y w S N) (aG:er N=true) (gB:lR N need):(gU N need).1.length+(if N.nodes.length=0 then 0 else 1)<=40*(uJ N N.nodes+wV N N.wrs):=by
 obtain⟨-,af,-,-⟩:=P2 aO aG gB;have F:=af.len.2;have O:=auJ aG (fun d U=>by have:=aO.na d U;omega) need N.nodes.length (aL _);rw[fQ (aL _)] at O;have aW:=awO N N.wrs;simp only[List.length_nil] at F;omega
theorem ava (aO:eM Y w S N) (aG:er N=true) (gB:lR N need) (h:1048576<(gU N need).1.length):54000<Gc N:=by
 have F:=abR aO aG gB;unfold Gc;have O:(gU N need).1.length<=40*(uJ N N.nodes+wV N N.wrs):=bL (Nat.le_add_right _ _) F;omega
theorem auG (G:eq) (ni:Nat):HA G ni (fun _=>True):=⟨fun _ _=>trivial,fun _ _ _ _ _=>⟨trivial,trivial⟩,fun _ _ _ _=>trivial,fun _ _=>trivial⟩
theorem auF (aG:er N=true):HA (kc N need) (hH N.ins) (fun v=>N.nodes.length=0->v<=hH N.ins):=by
 refine⟨fun r ak aI=>?_,fun i a b _ FC=>⟨fun aI=>?_,fun aI=>?_⟩,fun i m _ FC aI=>?_,fun v L _=>L⟩
 ·exfalso;obtain⟨z,ao,-⟩:=i6.1 ak;have AD:z∈rP (h6 N need).2 N.outs:=ao;obtain⟨o,aY,-⟩:=List.mem_flatMap.1 AD;obtain⟨iG,hT⟩:=(yN aG).2.2.2 o aY;omega
 ·have:=FC aI
  unfold jC kc at this;simp only[Int.toNat_natCast] at this;omega
 ·have:=FC aI
  unfold jC kc at this;simp only[Int.toNat_natCast] at this;omega
 ·have:=FC aI
  omega
theorem abS (aO:eM Y w S N) (aG:er N=true) (gB:lR N need) {T:Nat->Prop} {nd:List Bool} {n:Nat} (jR:h4 N.regs+ha N.mems<=6000) (hF:lc (kc N need) (hH N.ins) n) (eu:GN (kc N need) (hH N.ins) n T nd) (fG:g6 nd n<=60000):GL N (kg nd (kc N need)) 0:=by
 refine .inl ⟨rfl,jR,⟨_,W7 hF eu.good eu.roots,fG⟩,fun j6=>?_⟩;rw[aqh hF eu.good eu.roots];exact alc aO aG gB j6
theorem alb (aO:eM Y w S N) (aG:er N=true) (gB:lR N need) {T:Nat->Prop} {nd Gb:List Bool} (jR:h4 N.regs+ha N.mems<=6000) (anl:GN (kc N need) (hH N.ins) (fZ N+(gU N need).1.length) (fun v=>N.nodes.length=0->v<=hH N.ins) Gb) (_:GN (kc N need) (hH N.ins) (fZ N+(gU N need).1.length) T nd) (F:60000<g6 nd (fZ N+(gU N need).1.length)) (O:60000<g6 Gb (fZ N+(gU N need).1.length)) (G:eq):GL N G 11:=by
 refine .inr ⟨rfl,.inr (.inr ?_)⟩;rcases Nat.lt_or_ge 54000 (Gc N) with h | h
 ·exact h
 ·exfalso;have ah:=abR aO aG gB;unfold Gc at h;by_cases aI:N.nodes.length=0
  ·have:=(atS (nd:=Gb) (ni:=hH N.ins) (fun v L=>anl.good.snd v L aI) (fZ N+(gU N need).1.length)).1
   omega
  ·rw[if_neg aI] at ah
   have:=OB nd (fZ N+(gU N need).1.length)
   unfold fZ at this F;omega
end
theorem aty (d:eO):oh d↔¬(cL d.width=true∧DY d.kind (d.args.length:Int)=true):=by
 unfold oh DY;generalize d.args.length=n;generalize ew d.kind=aj;cases cL d.width
 ·simp
 ·simp only[Bool.true_eq_false,false_or,true_and,decide_eq_true_eq];omega
theorem akB {p:Int->Bool} {l:List Int} {k:Nat} (X:k<l.length):(l.take (k+1)).any p=((l.take k).any p||p (bi l k)):=by
 rw[List.take_add_one,List.any_append,bi,ct X];simp
theorem akA {p:Int->Bool} {l:List Int} {k:Nat} (X:k<l.length) (h:p (bi l k)=true):l.any p=true :=
 List.any_eq_true.2 ⟨_,bn (vr X),h⟩
theorem avT (Y:Nat) (w:World) (a7:Nat) (S:dp) (N:aR) (h:mn Y w a7 S N) (aM:Y<=w.heap.size) (i:Nat) (d:eO) (U:N.nodes[i]?=some d) (aE:Hid (∀j y,j<i->N.nodes[j]?=some y->1<=y.width∧y.width<=32)) :
  Calls Tryz.prog 43 #[iF a7,.int .i64 i] w fun e B=>e = .returned (.bool (pz N i d))∧V w B:=by
 obtain⟨ab,bj,ad,aB,ar⟩:=h.net.n.el U;have hi:i<N.nodes.length:=(cr.1 U).1;have KF:(i:Int)<(N.nodes.length:Int):=by omega
 have jT:=h.net.na d (bn U);have jY:Hid (oR Y w N ab (bj+i*4) d):=⟨aB,ar,jT.1,jT.2.2.2,jT.2.1,jT.2.2.1⟩
 have c0:w.cell? ⟨ab,bj+i*4,none⟩=_:=ar 0 _ rfl;have c1:=ar 1 _ rfl;have c3:=ar 3 _ rfl;have D:ab<w.heap.size:=bk aB aM;have cy:w.cell? ⟨a7,1,none⟩=some (.slice S.a1 N.nodes.length S.c1):=h.cells 1;rw[ad] at cy;have xx:a7<w.heap.size:=bk h.lt aM;have aU:d.args.length<cd:=jT.2.2.2;simp only[cd] at aU;have j1:Hid (∀w,Calls Tryz.prog 41 #[.int .i64 d.width] w fun e B=>e = .returned (.bool (cL d.width))∧B=w):=fun w=>RM d.width w
 have PO:Hid (∀w,Calls Tryz.prog 66 #[.int .i64 d.kind,.int .i64 d.args.length] w fun e B=>e = .returned (.bool (DY d.kind (d.args.length:Int)))∧B=w):=fun w=>aq1 d.kind _ w
 have a6:=K (aty d);have ez:¬oh d->Hid (lj N d=(numOf N d&&oV d.kind d.width (cG N d.args))):=fun aY=>arT N d (O1 aY) jY.n0
 have CM:=K jY.args;have PQ:¬oh d->(∀a,a∈d.args->0<=a∧a<(i:Int))->Hid (∀B,V w B->Calls Tryz.prog 67 #[iF a7,.pointer (some ⟨ab,bj+i*4,none⟩)] B fun e bs=>e = .returned (.bool (numOf N d))∧V B bs):=by
  intro aY bO B aV;refine asu Y B a7 S N (h.to (aV.mono aM)) (bL aM aV.size) ab _ d (jY.to (aV.mono aM)) aY (fun a ad=>⟨(bO a ad).1,by have:=(bO a ad).2;omega⟩) ?_;intro x J;obtain⟨a,ad,rfl⟩:=i6.1 J
  have:=bO a ad
  obtain⟨y,aF⟩:∃y,N.nodes[a.toNat]?=some y:=⟨N.nodes[a.toNat]'(by omega),ct (by omega)⟩
  have e:f2 N a=y.width:=by unfold f2;rw[aF];rfl
  rw[e];exact aE a.toNat y (by omega) aF
 have P1:¬oh d->(∀a,a∈d.args->0<=a∧a<(i:Int))->Hid (∀B,V w B->Calls Tryz.prog 68 #[iF a7,.pointer (some ⟨ab,bj+i*4,none⟩)] B fun e bs=>e = .returned (.bool (oV d.kind d.width (cG N d.args)))∧V B bs):=by
  intro aY bO B aV;refine awo Y B a7 S N (h.to (aV.mono aM)) (bL aM aV.size) ab _ d (jY.to (aV.mono aM)) aY (fun a ad=>⟨(bO a ad).1,by have:=(bO a ad).2;omega⟩) ?_;intro x J;obtain⟨a,ad,rfl⟩:=i6.1 J
  have:=bO a ad
  obtain⟨y,aF⟩:∃y,N.nodes[a.toNat]?=some y:=⟨N.nodes[a.toNat]'(by omega),ct (by omega)⟩
  have e:f2 N a=y.width:=by unfold f2;rw[aF];rfl
  rw[e];exact aE a.toNat y (by omega) aF
 clear ad ar h U jT aB jY aE;obtain⟨r,Hj⟩:∃r,Hid (pz N i d=r):=⟨_,rfl⟩
 have pd:oh d->Hid (r=false):=fun aY=>by show _=_;rw[<-Hj.out];unfold pz;rw[if_pos aY]
 have E2:¬oh d->Hid (r=(if d.args.any (jH i) then false else lj N d)):=fun aY=>by show _=_;rw[<-Hj.out];unfold pz;rw[if_neg aY]
 rw[Hj.out];clear Hj;have EY:oh d↔¬(cL d.width=true∧DY d.kind (d.args.length:Int)=true):=a6.out;clear a6;generalize cL d.width=aQ at *;generalize DY d.kind (d.args.length:Int)=im at *;unfold iF at *;have jD:aQ=false∨(aQ=true∧im=false)∨(aQ=true∧im=true):=by cases aQ <;> cases im <;> simp
 rcases jD with rfl | ⟨rfl,rfl⟩ | ⟨rfl,rfl⟩
 ·have e:r=false:=(pd (EY.2 (by simp))).out;subst e;clear pd E2 ez PQ P1 EY CM;go_enter Tryz.func43,Tryz.ntmps43
  go_wp2_with fail
  go_quiet (first | (go_at_call 41;exact Calls.quiet_of_same (j1 _)) | (go_at_call 66;exact Calls.quiet_of_same (PO _)))
  go_wp2;go_ret
  exact⟨rfl,Below.drewN ((ax _ _).alloc (aL _) _) _⟩
 ·have e:r=false:=(pd (EY.2 (by simp))).out;subst e;clear pd E2 ez PQ P1 EY CM;go_enter Tryz.func43,Tryz.ntmps43
  go_wp2_with fail
  go_quiet (first | (go_at_call 41;exact Calls.quiet_of_same (j1 _)) | (go_at_call 66;exact Calls.quiet_of_same (PO _)))
  go_wp2;go_ret
  exact⟨rfl,Below.drewN ((ax _ _).alloc (aL _) _) _⟩
 ·have kC:¬oh d:=fun kZ=>EY.1 kZ (by simp)
  have E3:Hid (r=(if d.args.any (jH i) then false else (numOf N d&&oV d.kind d.width (cG N d.args)))):=by
   show _=_;rw[(E2 kC).out,(ez kC).out]
  have abb:=K (PQ kC);have abq:=K (P1 kC);clear pd E2 ez PQ P1 EY kC;generalize numOf N d=aft at *;generalize oV d.kind d.width (cG N d.args)=hW at *;obtain⟨kind,width,num,args,aa,ac⟩:=d;simp only at *;go_enter Tryz.func43,Tryz.ntmps43
  go_wp2_with fail
  generalize av:w.alloc (.cells #[.pointer (some ⟨a7,0,none⟩)] 94)=I;have aD:Hid (V w I):=by rw[<-av];exact(ax _ _).alloc (aL _) _
  have Cu:I.cell? ⟨w.heap.size,0,none⟩=some (.pointer (some ⟨a7,0,none⟩)):=by rw[<-av];simp
  have a8:w.heap.size<I.heap.size:=by rw[<-av];simp
  clear av;have m3:=(aD.cell (p:=⟨ab,bj+i*4,none⟩) D).trans c0;have k1:=(aD.cell (p:=⟨ab,bj+i*4+1,none⟩) D).trans c1;have k3:=(aD.cell (p:=⟨ab,bj+i*4+3,none⟩) D).trans c3;go_quiet (first | (go_at_call 41;exact Calls.quiet_of_same (j1 _)) | (go_at_call 66;exact Calls.quiet_of_same (PO _)))
  go_wp2_with fail
  generalize hy:World.drewN I _=aC;have jq:Hid (V I aC):=by rw[<-hy];exact Below.drewN (ax _ _) _
  have fE:Hid (V w aC):=aD.trans (jq.mono aD.size);clear hy;have Nc:w.heap.size<aC.heap.size:=bk a8 jq.size;have afS:=(jq.cell (p:=⟨w.heap.size,0,none⟩) a8).trans Cu;have Zc:Hid (cm Y aC aa 1 (args.map j4)):=CM.to (fE.mono aM);clear c0 c1 c3 m3 k1 k3 Cu cy j1 PO CM aD jq;go_loopw [39] (fun aq B=>∃(k:Nat),k<=args.length∧aq = .int .i64 k∧Hid ((args.take k).any (jH i)=false)∧B=aC) (fun aq _=>args.length - (intOf aq).toNat)
  case atStart=>exact⟨0,cE _,rfl,by show _=_;simp,rfl⟩
  case round =>
   obtain⟨k,X,rfl,f5,rfl⟩:=hrel;by_cases aB:k<args.length
   ·obtain⟨bJ,cP,bQ,oa,pn⟩:=Zc.int aB;have es:=pn k aB;have fa:(k:Int)<(args.length:Int):=by omega
    have aS:=bF ((k:Int)+1);have bP:Hid ((args.take (k+1)).any (jH i)=((args.take k).any (jH i)||jH i (bi args k))):=akB aB;have L6:jH i (bi args k)=true->Hid (r=false):=fun D=>by show _=_;rw[E3.out,if_pos (akA aB D)]
    rw[bQ];generalize bi args k=a at *;clear bQ pn;by_cases bY:a<0
    ·have e:r=false:=(L6 (by unfold jH;rw[s5];exact .inl bY)).out;subst e;clear L6 bP;go_wp2;go_ret
     exact⟨rfl,fE⟩
    ·by_cases bK:(i:Int)<=a
     ·have e:r=false:=(L6 (by unfold jH;rw[s5];exact .inr bK)).out;subst e;clear L6 bP;go_wp2;go_ret
      exact⟨rfl,fE⟩
     ·have BC:Hid ((args.take (k+1)).any (jH i)=false):=by
       show _=_;rw[bP.out,f5.out];unfold jH;simp;omega
      clear L6 bP f5;go_wp2;go_roundw
      case measure=>simp[intOf];omega
      exact⟨k+1,by omega,by simp,BC.out,trivial⟩
   ·have cQ:¬((k:Int)<(args.length:Int)):=by omega
    have nc:Hid (args.any (jH i)=false):=by
     show _=_
     have:=f5.out
     rw[fQ (by omega)] at this;exact this
    have bO:∀a,a∈args->0<=a∧a<(i:Int):=by
     intro a ad
     have:=List.any_eq_false.1 nc a ad
     unfold jH at this;simp at this;omega
    have e:r=(aft&&hW):=by rw[E3.out,nc.out];rfl
    subst e;have aj2:=K (abb bO);have akk:=K (abq bO);clear f5 nc bO E3 abb abq Zc;cases aft
    all_goals
     go_wp2_with (first | (go_at_call 67;refine(aj2.out.out _ fE).mono ?_;rintro e w2 ⟨rfl,bH⟩;have az3:=(bH.cell (p:=⟨w.heap.size,0,none⟩) Nc).trans afS;have cg:=K (fE.trans (bH.mono fE.size));clear bH) | (go_at_call 68;refine(akk.out.out _ cg).mono ?_;rintro e w3 ⟨rfl,b8⟩;have go:=K (cg.trans (b8.mono cg.size));clear b8 cg))
     go_ret
     first|exact⟨rfl,go⟩|exact⟨rfl,cg⟩
theorem at4 (Y:Nat) (w:World) (a7:Nat) (S:dp) (N:aR) (h:mn Y w a7 S N) (aM:Y<=w.heap.size) (k:Nat) (z:l4) (ao:N.regs[k]?=some z) :
  Calls Tryz.prog 44 #[iF a7,.int .i64 k] w fun e B=>e = .returned (.bool (yP z&&vJ N z))∧V w B:=by
 obtain⟨b,o,ad,aB,ar⟩:=h.net.r.el ao;have X:(k:Int)<(N.regs.length:Int):=by have:=(cr.1 ao).1;omega
 have c0:w.cell? ⟨b,o+k*3,none⟩=_:=ar 0 _ rfl;have c1:=ar 1 _ rfl;have c2:=ar 2 _ rfl;have D:b<w.heap.size:=bk aB aM;have eX:w.cell? ⟨a7,2,none⟩=some (.slice S.a2 N.regs.length S.c2):=h.cells 2;rw[ad] at eX;have xx:a7<w.heap.size:=bk h.lt aM;have gT:=K (show(yP z&&vJ N z)=(cL z.width&&decide (z.init<=i3 z.width)&&j7 N z.next z.width) from rfl);have j1:Hid (∀w,Calls Tryz.prog 41 #[.int .i64 z.width] w fun e B=>e = .returned (.bool (cL z.width))∧B=w):=fun w=>RM z.width w
 have hP:cL z.width=true->Hid (∀w,Calls Tryz.prog 69 #[.int .i64 z.width] w fun e B=>e = .returned (.int .u64 (i3 z.width))∧B=w):=fun aw w=>afO z.width aw w
 have qj:Hid (∀B,V w B->Calls Tryz.prog 70 #[iF a7,.int .i64 z.next,.int .i64 z.width] B fun e bs=>e = .returned (.bool (j7 N z.next z.width))∧V B bs):=fun B aV=>Vw Y B a7 S N (h.to (aV.mono aM)) (bL aM aV.size) _ _
 rw[gT.out];clear gT ad ar h ao;obtain⟨wd,IC,cF⟩:=z;simp only at c0 c1 c2 j1 hP qj ⊢;generalize cL wd=aQ at *;generalize i3 wd=mk at *;generalize j7 N cF wd=wn at *;unfold iF at *;have jD:aQ=false∨(aQ=true∧¬IC<=mk)∨(aQ=true∧IC<=mk):=by
  cases aQ <;> simp;omega
 rcases jD with rfl | ⟨rfl,bY⟩ | ⟨rfl,bY⟩
 ·go_enter Tryz.func44,Tryz.ntmps44
  go_wp2_with fail
  go_quiet ((go_at_call 41;exact Calls.quiet_of_same (j1 _)))
  go_wp2;go_ret
  exact⟨rfl,Below.drewN ((ax _ _).alloc (aL _) _) _⟩
 ·have U:decide (IC<=mk)=false:=by rw[vf];exact bY
  rw[U];have MH:=hP rfl;clear hP;go_enter Tryz.func44,Tryz.ntmps44
  go_wp2_with fail
  go_quiet (first | (go_at_call 41;exact Calls.quiet_of_same (j1 _)) | (go_at_call 69;exact Calls.quiet_of_same (MH _)))
  go_wp2;go_ret
  exact⟨rfl,Below.drewN ((ax _ _).alloc (aL _) _) _⟩
 ·have U:decide (IC<=mk)=true:=by rw[s5];exact bY
  rw[U];have MH:=hP rfl;clear hP;go_enter Tryz.func44,Tryz.ntmps44
  go_wp2_with fail
  generalize av:w.alloc (.cells #[.pointer (some ⟨a7,0,none⟩)] 94)=I;have aD:Hid (V w I):=by rw[<-av];exact(ax _ _).alloc (aL _) _
  have Cu:I.cell? ⟨w.heap.size,0,none⟩=some (.pointer (some ⟨a7,0,none⟩)):=by rw[<-av];simp
  have a8:w.heap.size<I.heap.size:=by rw[<-av];simp
  clear av;have af0:=(aD.cell (p:=⟨b,o+k*3,none⟩) D).trans c0;have aAd:=(aD.cell (p:=⟨b,o+k*3+1,none⟩) D).trans c1;have aAe:=(aD.cell (p:=⟨b,o+k*3+2,none⟩) D).trans c2;have yz:b<I.heap.size:=Nat.lt_trans D a8;have jr:Hid (∀B,V I B->Calls Tryz.prog 70 #[.agg #[.pointer (some ⟨a7,0,none⟩)],.int .i64 cF,.int .i64 wd] B fun e bs=>e = .returned (.bool wn)∧V B bs):=fun B aV=>qj B (aD.trans (aV.mono aD.size))
  clear c0 c1 c2 eX qj
  go_region_held3 (fun B=>V I B∧(∀bw o,bw<I.heap.size->B.cell? ⟨bw,o,none⟩=I.cell? ⟨bw,o,none⟩))
   (first|assumption|exact gl (ax _ _)|exact gl (ax _ _).drew|exact lL (by assumption) (by assumption))
   (first|(go_at_call 41;refine(j1 _).mono ?_;rintro e B ⟨rfl,rfl⟩)|(go_at_call 69;refine(MH _).mono ?_;rintro e B ⟨rfl,rfl⟩)|(go_at_call 70;refine(jr _ (And.left (by assumption))).mono ?_;rintro e w2 ⟨rfl,bH⟩))
  all_goals
   have cg:Hid (V I _):=And.left (by assumption);go_wp2_with fail
   go_ret
   exact⟨rfl,aD.trans (cg.mono aD.size)⟩
end Go.Proofs.YtcbcenfjigcfkaaGreatDoor
